/- A meter in memory: Left and Used read alone, in any region: but for draws the world is as it was. A struct of two ints in a box. -/
import Derived.Test.YtlolonhknfimeaaMetC
namespace Go.Proofs.Ytlolonhknfimeaa
open Go.RowKit
set_option linter.unusedVariables false
set_option maxRecDepth 100000

theorem Mt.drewN {w : World} {b : Nat} {f l : Int} (h : Mt w b f l) (n : Nat) : Mt (w.drewN n) b f l := h
theorem used_q {w : World} {b : Nat} {f l : Int} (h : Mt w b f l) (hl : 0 ≤ l ∧ l ≤ f ∧ f ≤ 1048576) : Calls Try.prog 16 #[.pointer (some ⟨b, 0, none⟩)] w fun e w' => e = .returned (.int .i64 (f - l)) ∧ ∃ m, w' = w.drewN m := by
  have hw : IntKind.i64.wrap (f - l) = f - l := IntWalk.i64_in _ (by omega)
  have hw' : wrap64 (f - l) = f - l := IntWalk.wrap64_in _ (by omega)
  have c0 := h.c0; have c1 := h.c1; have hlt := h.lt
  have HM := Lib.hid (fun n => h.drewN n)
  clear h hl
  go_enter Try.func16, Try.ntmps16
  go_wp2_with fail
  go_quiet (first
    | (go_at_call 25; exact Calls.quiet_of_same (load_any (HM.out _))))
  go_wp2_with fail
  go_ret
  exact ⟨rfl, nq, rfl⟩
/-- The two calls, in a region, in the world w but for draws. -/
theorem used_quiet {w : World} {b : Nat} {f l : Int} (h : Mt w b f l) (hl : 0 ≤ l ∧ l ≤ f ∧ f ≤ 1048576) (n : Nat) : Calls Try.prog 16 #[.pointer (some ⟨b, 0, none⟩)] (w.drewN n) fun e w' => e = .returned (.int .i64 (f - l)) ∧ ∃ m, w' = w.drewN m :=
  Calls.quiet_of (used_q (h.drewN n) hl)
theorem left_quiet {w : World} {b : Nat} {f l : Int} (h : Mt w b f l) (hl : 0 ≤ l ∧ l ≤ 1048576) (n : Nat) : Calls Try.prog 15 #[.pointer (some ⟨b, 0, none⟩)] (w.drewN n) fun e w' => e = .returned (.int .i64 l) ∧ ∃ m, w' = w.drewN m :=
  Calls.quiet_of_same (left_any (h.drewN n) hl)
theorem below_drewM {B : Nat} {a w : World} (h : Below B a w) (n : Nat) : Below B a (w.drewN n) := ⟨h.os, h.tape, h.output, h.size, h.block⟩

/-- A box of two ints of type T. -/
def Bx (T : TypeId) (w : World) (b : Nat) (x y : Int) : Prop := w.heap[b]? = some (.cells #[.int .i64 x, .int .i64 y] T (0, 0))
theorem Bx.lt {T : TypeId} {w : World} {b : Nat} {x y : Int} (h : Bx T w b x y) : b < w.heap.size := by
  unfold Bx at h
  rcases Nat.lt_or_ge b w.heap.size with hlt | hge
  · exact hlt
  · rw [Array.getElem?_eq_none hge] at h; cases h
theorem Bx.c0 {T : TypeId} {w : World} {b : Nat} {x y : Int} (h : Bx T w b x y) : w.cell? ⟨b, 0, none⟩ = some (.int .i64 x) := cell_of_row w b 0 _ _ (0, 0) h
theorem Bx.c1 {T : TypeId} {w : World} {b : Nat} {x y : Int} (h : Bx T w b x y) : w.cell? ⟨b, 1, none⟩ = some (.int .i64 y) := cell_of_row w b 1 _ _ (0, 0) h
theorem Bx.fz {T : TypeId} {w : World} {b : Nat} {x y : Int} (h : Bx T w b x y) (o : Nat) : w.frozen? ⟨b, o, none⟩ = false := by
  unfold Bx at h
  unfold World.frozen?
  simp [h]
theorem Bx.over {T : TypeId} {w w' : World} {b : Nat} {x y : Int} (h : Bx T w b x y) (hb : Below w.heap.size w w') : Bx T w' b x y := (hb.block b h.lt).trans h
theorem Bx.alloc {T : TypeId} {w : World} {b : Nat} {x y : Int} (h : Bx T w b x y) (o : Obj) : Bx T (w.alloc o) b x y := (Below.heap_alloc w o b h.lt).trans h
theorem Bx.far {T : TypeId} {w : World} {b : Nat} {x y : Int} (h : Bx T w b x y) {a : Addr} (ha : b ≠ a.block) (u : Value) : Bx T (w.setCell a u) b x y := (Below.heap_setCell w a u b ha).trans h
theorem Bx.up {T : TypeId} {w w' : World} {b c : Nat} {x y : Int} (h : Bx T w c x y) (hu : Up b w w') (hc : c ≠ b) : Bx T w' c x y := (hu.block c h.lt (fun e => hc (by injection e))).trans h
theorem Bx.drewN {T : TypeId} {w : World} {b : Nat} {x y : Int} (h : Bx T w b x y) (n : Nat) : Bx T (w.drewN n) b x y := h
theorem Bx.set {T : TypeId} {w : World} {b : Nat} {x y : Int} (h : Bx T w b x y) (x' y' : Int) : Bx T ((w.setCell ⟨b, 0, none⟩ (.int .i64 x')).setCell ⟨b, 1, none⟩ (.int .i64 y')) b x' y' := by
  unfold Bx at h ⊢
  unfold World.setCell
  simp only [Array.getElem?_modify, if_pos, h, Option.map_some]
  rfl
end Go.Proofs.Ytlolonhknfimeaa
