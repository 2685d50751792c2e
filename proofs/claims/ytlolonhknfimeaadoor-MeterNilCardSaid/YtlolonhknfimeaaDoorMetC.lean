/- A meter in memory: what New, Spend, Step, Fork and Take do with it, as the frame that a law wants: all but the meter's own block is as it was. -/
import Derived.Test.YtlolonhknfimeaaDoorMetB
import Derived.Deep.Cut
import Derived.Deep.CutRange
namespace Go.Proofs.YtlolonhknfimeaaDoor
open Go.RowKit
set_option linter.unusedVariables false
set_option maxRecDepth 100000

/-- A call that writes block b alone, and lays new blocks. -/
def Up (b : Nat) (w w' : World) : Prop := w.grownBy w' (some b)
theorem Up.refl (b : Nat) (w : World) : Up b w w := ⟨rfl, rfl, rfl, Nat.le_refl _, fun _ _ _ => rfl⟩
theorem Up.set {b : Nat} {w : World} (o : Nat) (v : Value) : Up b w (w.setCell ⟨b, o, none⟩ v) :=
  ⟨rfl, rfl, rfl, by simp [World.setCell], fun k hk hr => Below.heap_setCell w ⟨b, o, none⟩ v k (fun e => hr (by rw [e]))⟩
theorem Up.of {b : Nat} {w w' : World} (h : Below w.heap.size w w') : Up b w w' := ⟨h.os, h.tape, h.output, h.size, fun k hk _ => h.block k hk⟩
theorem Up.trans {b : Nat} {w w' w'' : World} (h : Up b w w') (k : Up b w' w'') : Up b w w'' := ⟨k.os.trans h.os, k.tape.trans h.tape, k.output.trans h.output, Nat.le_trans h.size k.size, fun n hn hr => (k.block n (Nat.lt_of_lt_of_le hn h.size) hr).trans (h.block n hn hr)⟩
theorem Up.size {b : Nat} {w w' : World} (h : Up b w w') : w.heap.size ≤ w'.heap.size := World.grownBy.size h
theorem Up.below {b B : Nat} {w w' : World} (h : Up b w w') (hB : B ≤ b) (hw : B ≤ w.heap.size) : Below B w w' :=
  ⟨h.os, h.tape, h.output, h.size, fun k hk => h.block k (by omega) (fun e => by injection e with e; omega)⟩
theorem Up.cell {b : Nat} {w w' : World} (h : Up b w w') {k : Nat} (o : Nat) (hk : k < w.heap.size) (hr : k ≠ b) : w'.cell? ⟨k, o, none⟩ = w.cell? ⟨k, o, none⟩ :=
  World.cell?_of_block (a := ⟨k, o, none⟩) (h.block k hk (fun e => hr (by injection e)))
theorem Mt.up {w w' : World} {b c : Nat} {f l : Int} (h : Mt w c f l) (hu : Up b w w') (hc : c ≠ b) : Mt w' c f l := (hu.block c h.lt (fun e => hc (by injection e))).trans h

theorem spend_up {w : World} {b : Nat} {f l : Int} (h : Mt w b f l) (n : Int) (hn : (Lit.int .i64 n).wf = true) (hl : 0 ≤ l ∧ l ≤ 1048576) : Calls Tryd.prog 8 #[.pointer (some ⟨b, 0, none⟩), .int .i64 n] w fun e w' =>
    e = .returned (.int .i64 (fuelE l n)) ∧ Mt w' b f (leftX l n) ∧ Up b w w' := by
  refine (spend_any h n hn hl).mono ?_
  rintro e w' ⟨rfl, ⟨rfl, hE⟩ | ⟨rfl, hE⟩⟩
  · refine ⟨rfl, ?_, Up.refl _ _⟩
    simp only [leftX, hE]
    exact h
  · exact ⟨rfl, h.set _, Up.set _ _⟩
theorem step_up {w : World} {b : Nat} {f l : Int} (h : Mt w b f l) (hl : 0 ≤ l ∧ l ≤ 1048576) : Calls Tryd.prog 7 #[.pointer (some ⟨b, 0, none⟩)] w fun e w' =>
    e = .returned (.int .i64 (fuelE l 1)) ∧ Mt w' b f (leftX l 1) ∧ Up b w w' := by
  have H := Lib.hid (spend_up h 1 (by decide) hl)
  clear h hl
  go_enter Tryd.func7, Tryd.ntmps7
  go_wp2_with fail
  refine H.out.mono ?_; rintro e w1 ⟨rfl, hm, hu⟩
  have hm := Lib.hid hm
  go_wp2_with fail
  go_ret
  exact ⟨rfl, hm.out, hu⟩
theorem step_nil (w : World) : Calls Tryd.prog 7 #[.pointer none] w fun e w' => e = .returned (.int .i64 8) ∧ w' = w := by
  go_enter Tryd.func7, Tryd.ntmps7
  go_wp2_with fail
  refine (spend_nil 1 _).mono ?_; rintro e w1 ⟨rfl, rfl⟩
  go_wp2_with fail
  go_ret
  exact ⟨rfl, rfl⟩

theorem new_no (n : Int) (hn : n < 0 ∨ 1048576 < n) (w : World) : Calls Tryd.prog 14 #[.int .i64 n] w fun e w' => e = .returned (.tuple #[.pointer none, .int .i64 5]) ∧ w' = w := by
  by_cases h0 : n < 0
  · clear hn
    go_enter Tryd.func14, Tryd.ntmps14
    go_wp2
    go_ret2
    exact ⟨rfl, rfl⟩
  · have h1 : 1048576 < n := by omega
    clear hn
    go_enter Tryd.func14, Tryd.ntmps14
    go_wp2
    go_ret2
    exact ⟨rfl, rfl⟩
theorem new_ok (n : Int) (h0 : ¬ n < 0) (h1 : ¬ 1048576 < n) (w : World) : Calls Tryd.prog 14 #[.int .i64 n] w fun e w' => e = .returned (.tuple #[.pointer (some ⟨w.heap.size, 0, none⟩), .int .i64 0]) ∧ Mt w' w.heap.size n n ∧ Below w.heap.size w w' := by
  have hw : IntKind.i64.wrap n = n := IntWalk.i64_in _ (by omega)
  obtain ⟨W, hW⟩ : ∃ W, w.alloc (.cells #[.int .i64 n, .int .i64 0] 61) = W := ⟨_, rfl⟩
  have hM : Mt W w.heap.size n 0 := by rw [← hW]; exact heap_alloc_new w _
  have hB : Below w.heap.size w W := by rw [← hW]; exact (Below.refl _ _).alloc (Nat.le_refl _) _
  have c0 := hM.c0; have c1 := hM.c1; have hlt := hM.lt
  have HK : Hid (∀ V, Below W.heap.size W V → Mt V w.heap.size n 0) := Lib.hid (fun V hV => hM.over hV)
  have HC : Hid (∀ V, Below W.heap.size W V → V.cell? ⟨w.heap.size, 0, none⟩ = some (.int .i64 n)) := Lib.hid (fun V hV => (hM.over hV).c0)
  have HB := Lib.hid hB
  have HW := Lib.hid hW
  clear hM hB hW
  have hbk := Lib.hid ((Below.refl W.heap.size W).drew)
  go_enter Tryd.func14, Tryd.ntmps14
  go_upto_region 4 with fail
  rw [HW.out]
  go_region_law
    (first
      | (go_simp; go_at_call 23; refine (store_any (HK.out _ hbk.out) _).mono ?_; rintro e w3 ⟨rfl, rfl⟩))
  all_goals
    go_wp2_with fail
    go_ret2
    exact ⟨rfl, (HK.out _ hbk.out).set n, (HB.out.trans (hbk.out.mono HB.out.size)).setCell (Nat.le_refl _) _⟩
theorem fork_nil (n : Int) (w : World) : Calls Tryd.prog 4 #[.pointer none, .int .i64 n] w fun e w' => e = .returned (.tuple #[.pointer none, .int .i64 8]) ∧ w' = w := by
  go_enter Tryd.func4, Tryd.ntmps4
  go_wp2_with fail
  go_ret2
  exact ⟨rfl, rfl⟩
theorem fork_no {w : World} {b : Nat} {f l : Int} (h : Mt w b f l) (hl : 0 ≤ l ∧ l ≤ 1048576) (n : Int) (hn : n < 0 ∨ l < n) : Calls Tryd.prog 4 #[.pointer (some ⟨b, 0, none⟩), .int .i64 n] w fun e w' =>
    e = .returned (.tuple #[.pointer none, .int .i64 8]) ∧ w' = w := by
  have H := Lib.hid (left_any h hl)
  by_cases h0 : n < 0
  · clear hn h hl
    go_enter Tryd.func4, Tryd.ntmps4
    go_wp2_with fail
    go_ret2
    exact ⟨rfl, rfl⟩
  · have h1 : l < n := by omega
    clear hn h hl
    go_enter Tryd.func4, Tryd.ntmps4
    go_wp2_with fail
    refine H.out.mono ?_; rintro e w1 ⟨rfl, rfl⟩
    go_wp2_with fail
    go_ret2
    exact ⟨rfl, rfl⟩
theorem fork_ok {w : World} {b : Nat} {f l : Int} (h : Mt w b f l) (hl : 0 ≤ l ∧ l ≤ 1048576) (n : Int) (h0 : ¬ n < 0) (h1 : ¬ l < n) : Calls Tryd.prog 4 #[.pointer (some ⟨b, 0, none⟩), .int .i64 n] w fun e w' =>
    e = .returned (.tuple #[.pointer (some ⟨w.heap.size, 0, none⟩), .int .i64 0]) ∧ Mt w' w.heap.size n n ∧ Below w.heap.size w w' := by
  have H := Lib.hid (left_any h hl)
  have HN := Lib.hid (new_ok n h0 (by omega) w)
  clear h hl
  go_enter Tryd.func4, Tryd.ntmps4
  go_wp2_with fail
  refine H.out.mono ?_; rintro e w1 ⟨rfl, rfl⟩
  go_wp2_with fail
  refine HN.out.mono ?_; rintro e w1 ⟨rfl, hm, hb⟩
  have hm := Lib.hid hm; have hb := Lib.hid hb
  go_wp2_with fail
  go_ret2
  exact ⟨rfl, hm.out, hb.out⟩

/-- Take of no meter. -/
theorem take_none {w : World} (p : Value) (hp : p = .pointer none ∨ ∃ b, p = .pointer (some ⟨b, 0, none⟩)) : Calls Tryd.prog 11 #[p, .pointer none] w fun e w' => e = .returned (.int .i64 8) ∧ w' = w := by
  clear hp
  go_enter Tryd.func11, Tryd.ntmps11
  go_wp2_with fail
  go_ret
  exact ⟨rfl, rfl⟩
theorem take_up {w : World} {b c : Nat} {f l f' l' : Int} (h : Mt w b f l) (hl : 0 ≤ l ∧ l ≤ 1048576) (h' : Mt w c f' l') (hl' : 0 ≤ l' ∧ l' ≤ f' ∧ f' ≤ 1048576) : Calls Tryd.prog 11 #[.pointer (some ⟨b, 0, none⟩), .pointer (some ⟨c, 0, none⟩)] w fun e w' =>
    e = .returned (.int .i64 (fuelE l (f' - l'))) ∧ Mt w' b f (leftX l (f' - l')) ∧ Up b w w' := by
  have HU := Lib.hid (used_any h' hl')
  have HS : Hid (∀ V, Below w.heap.size w V → Calls Tryd.prog 8 #[.pointer (some ⟨b, 0, none⟩), .int .i64 (f' - l')] V fun e w' => e = .returned (.int .i64 (fuelE l (f' - l'))) ∧ Mt w' b f (leftX l (f' - l')) ∧ Up b V w') :=
    Lib.hid (fun V hV => spend_up (h.over hV) _ (WalkArith.wf_i64 (by omega)) hl)
  clear h hl h' hl'
  go_enter Tryd.func11, Tryd.ntmps11
  go_wp2_with fail
  refine HU.out.mono ?_; rintro e w1 ⟨rfl, hb1⟩
  have hb := Lib.hid hb1
  clear hb1
  go_wp2_with fail
  refine (HS.out _ hb.out).mono ?_; rintro e w2 ⟨rfl, hm, hu⟩
  have hm := Lib.hid hm; have hu := Lib.hid hu
  go_wp2_with fail
  go_ret
  exact ⟨rfl, hm.out, (Up.of hb.out).trans hu.out⟩

theorem awakeF_any (w : World) : Calls Tryd.prog 13 #[] w fun e w' => e = .returned (.bool true) ∧ Below w.heap.size w w' := by
  have HN := Lib.hid (new_ok 2 (by decide) (by decide) w)
  go_enter Tryd.func13, Tryd.ntmps13
  go_wp2_with fail
  refine HN.out.mono ?_; rintro e w1 ⟨rfl, hm, hb⟩
  have hs1 := Lib.hid hm.lt
  have hm := Lib.hid hm; have hb := Lib.hid hb
  go_wp2_with fail
  refine (step_up hm.out (by decide)).mono ?_; rintro e w2 ⟨rfl, hm2, hu2⟩
  have hE : fuelE 2 1 = 0 := by decide
  rw [hE]
  have hX : leftX 2 1 = 1 := by decide
  rw [hX] at hm2
  have hm2 := Lib.hid hm2; have hb2 := Lib.hid (hb.out.trans (hu2.below (Nat.le_refl _) (Nat.le_of_lt hs1.out)))
  clear hE hX hu2 
  go_wp2_with fail
  refine (left_any hm2.out (by decide)).mono ?_; rintro e w3 ⟨rfl, rfl⟩
  go_wp2_with fail
  refine (used_any hm2.out (by decide)).mono ?_; rintro e w3 ⟨rfl, hb3⟩
  have hb3 := Lib.hid (hb2.out.trans (hb3.mono hb2.out.size))
  go_wp2_with fail
  go_ret
  exact ⟨rfl, hb3.out⟩
end Go.Proofs.YtlolonhknfimeaaDoor
