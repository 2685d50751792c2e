import Derived.Test.YtchllgkgjompgaaGreatDoorW1
import Derived.Test.YtchllgkgjompgaaGreatDoorU2
import Derived.Test.YtchllgkgjompgaaGreatDoorS7
import Derived.Test.YtchllgkgjompgaaGreatDoorIoApply
namespace Go.Proofs.YtchllgkgjompgaaGreatDoor
open Go.RowKit
set_option linter.unusedVariables false
set_option maxRecDepth 100000

theorem wwaits_lam (P : Option Addr) (n : Int) (A B R : Option Addr) (m c l d q r : Nat) (w : World) : Calls Tryz.prog 55 #[.pointer P, .agg #[.int .i64 4, .int .i64 n, .slice A m c, .slice B l d, .slice R q r]] w fun e w' => e = .returned (.bool false) ∧ Below w.heap.size w w' := by
  have HB := Lib.hid (Below.refl w.heap.size w)
  go_enter Tryz.func55, Tryz.ntmps55
  go_wp2_with fail
  go_ret
  exact ⟨rfl, HB.out.alloc (Nat.le_refl _) _⟩

/-- What a step gives. -/
def GivesSt (u : TM) (b : Bool) (c : Int) (w : World) (e : Ending) (w' : World) : Prop := ∃ A cap, e = .returned (.tuple #[termV u A cap, .bool b, .int .i64 c]) ∧ IsTerm w' w.heap.size w'.heap.size u A cap ∧ Below w.heap.size w w'
set_option maxHeartbeats 1000000 in
theorem wreduct_lam (P : Option Addr) (n : Int) (a b x : TM) (A B R : Option Addr) (c d r : Nat) (w : World) (h : NoEnt w P) (hH : IsTerm w 0 w.heap.size (.node 4 n [a, b]) A c) (hx : IsTerms w 0 w.heap.size [x] B d) (hS : ShapesM w) :
    Calls Tryz.prog 84 #[.pointer P, .agg #[.int .i64 4, .int .i64 n, .slice A 2 c, .slice B 1 d, .slice R 0 r]] w (GivesSt (manyX b [x]).1 true (manyX b [x]).2 w) := by
  obtain ⟨b1, o1, F1, C1, hA, -, hb1, hx1, hn1⟩ := hH.sub 1 (by simp)
  obtain ⟨b2, o2, F2, C2, hB, -, hb2, hx2, hn2⟩ := hx.sub 0 (by simp)
  subst hA
  subst hB
  have hc2 := hH.bounds.1
  have hd1 := hx.bounds.1
  simp only [List.length_cons, List.length_nil] at hc2 hd1
  have CE := Lib.hid (fun (q : Int) (V : World) (hV : Below w.heap.size w V) => wentry_no P q V (h.over hV))
  have CO := Lib.hid (fun (V : World) (hV : Below w.heap.size w V) => onec_any b 0 w.heap.size F1 C1 x 0 w.heap.size F2 C2 V (hn1.kept hV (Nat.le_refl _)) hV.size (hn2.kept hV (Nat.le_refl _)) hV.size (hS.kept hV))
  have HKC := Lib.hid (fun (V : World) (hV : Below w.heap.size w V) => (show (V.cell? ⟨b1, o1 + 3, none⟩ = some (.int .i64 b.k) ∧ V.cell? ⟨b1, o1 + 3 + 1, none⟩ = some (.int .i64 b.n) ∧ V.cell? ⟨b1, o1 + 3 + 2, none⟩ = some (.slice F1 b.l.length C1)) ∧ V.cell? ⟨b2, o2, none⟩ = some (.int .i64 x.k) ∧ V.cell? ⟨b2, o2 + 1, none⟩ = some (.int .i64 x.n) ∧ V.cell? ⟨b2, o2 + 2, none⟩ = some (.slice F2 x.l.length C2) from by
    obtain ⟨q0, q1, q2⟩ := hx1.kept hV hb1
    obtain ⟨p0, p1, p2⟩ := hx2.kept hV hb2
    exact ⟨⟨q0, q1, q2⟩, by simpa using p0, by simpa using p1, by simpa using p2⟩))
  obtain ⟨u, e, hue⟩ : ∃ u e, manyX b [x] = (u, e) := ⟨_, _, rfl⟩
  rw [hue] at CO ⊢
  unfold GivesSt termV
  unfold GivesT termV at CO
  unfold zEnt at CE
  obtain ⟨X, hX⟩ : ∃ X, (w.alloc (.cells #[.int .i64 4, .int .i64 n, .slice (some ⟨b1, o1, none⟩) 2 c, .slice (some ⟨b2, o2, none⟩) 1 d, .slice R 0 r] 97)).alloc (.cells #[.int .i64 0, .int .i64 0, .slice none 0 0] 25) = X := ⟨_, rfl⟩
  have HBX := Lib.hid (show Below w.heap.size w X from by rw [← hX]; exact ((Below.refl _ _).alloc (Nat.le_refl _) _).alloc (by simp) _)
  have HKR := Lib.hid (show Bk X w.heap.size 97 #[.int .i64 4, .int .i64 n, .slice (some ⟨b1, o1, none⟩) 2 c, .slice (some ⟨b2, o2, none⟩) 1 d, .slice R 0 r] from by rw [← hX]; exact (Bk.new _ _ _).alloc _)
  have HKT := Lib.hid (show Bk X (w.heap.size + 1) 25 #[.int .i64 0, .int .i64 0, .slice none 0 0] from by rw [← hX]; exact Bk.last _ _ _ (by simp))
  have x1 : X.cell? ⟨w.heap.size, 1, none⟩ = some (.int .i64 n) := HKR.out.cell 1
  have hc2' : (2 : Int) ≤ (c : Int) := by omega
  have hd1' : (1 : Int) ≤ (d : Int) := by omega
  clear h hH hx hS hn1 hn2 hx1 hx2 hue
  go_enter Tryz.func84, Tryz.ntmps84
  go_wp2_with fail
  refine (CE.out _ _ HBX.out).mono ?_
  rintro e1 w1 ⟨rfl, hb⟩
  have HB1 := Lib.hid (HBX.out.trans (hb.mono HBX.out.size))
  have HK1 := Lib.hid (HKR.out.below hb HKR.out.lt)
  have HT1 := Lib.hid (HKT.out.below hb HKT.out.lt)
  obtain ⟨Y, hY⟩ : ∃ Y, w1.alloc (.cells #[.int .i64 0, .string ⟨#[]⟩, .int .i64 0, .int .i64 0, .slice none 0 0, .int .i64 0, .int .i64 0, .slice none 0 0, .int .i64 0, .int .i64 0, .int .i64 0, .int .i64 0, .int .i64 0, .slice none 0 0, .slice none 0 0] 43) = Y := ⟨_, rfl⟩
  have HBY0 := Lib.hid (show Below w1.heap.size w1 Y from by rw [← hY]; exact (Below.refl _ _).alloc (Nat.le_refl _) _)
  have HBY := Lib.hid (HB1.out.trans (HBY0.out.mono HB1.out.size))
  have HKY := Lib.hid (HK1.out.below HBY0.out HK1.out.lt)
  have HTY := Lib.hid (HT1.out.below HBY0.out HT1.out.lt)
  have HKK := Lib.hid (fun (V : World) (hV : Below Y.heap.size Y V) => (show V.cell? ⟨w.heap.size, 2, none⟩ = some (.slice (some ⟨b1, o1, none⟩) 2 c) ∧ V.cell? ⟨w.heap.size, 3, none⟩ = some (.slice (some ⟨b2, o2, none⟩) 1 d) ∧ V.cell? ⟨b1, o1 + 3, none⟩ = some (.int .i64 b.k) ∧ V.cell? ⟨b1, o1 + 3 + 1, none⟩ = some (.int .i64 b.n) ∧ V.cell? ⟨b1, o1 + 3 + 2, none⟩ = some (.slice F1 b.l.length C1) ∧ V.cell? ⟨b2, o2, none⟩ = some (.int .i64 x.k) ∧ V.cell? ⟨b2, o2 + 1, none⟩ = some (.int .i64 x.n) ∧ V.cell? ⟨b2, o2 + 2, none⟩ = some (.slice F2 x.l.length C2) from by
    have k := HKY.out.below hV HKY.out.lt
    obtain ⟨⟨q0, q1, q2⟩, p0, p1, p2⟩ := HKC.out V (HBY.out.trans (hV.mono HBY.out.size))
    exact ⟨k.cell 2, k.cell 3, q0, q1, q2, p0, p1, p2⟩))
  have COY := Lib.hid (fun (V : World) (hV : Below Y.heap.size Y V) => CO.out V (HBY.out.trans (hV.mono HBY.out.size)))
  have HYE := Lib.hid hY
  have hlt1 := HK1.out.lt
  have z0 : w1.cell? ⟨w.heap.size, 0, none⟩ = some (.int .i64 4) := HK1.out.cell 0
  clear hY hb x1 hX
  go_wp2_with fail
  go_upto_region 3 with fail
  rw [HYE.out]
  have hlt := HKY.out.lt
  have hlt2 := HTY.out.lt
  obtain ⟨y2, y3, q0, q1, q2, p0, p1, p2⟩ := HKK.out _ (Below.refl _ _)
  have hb1w : b1 < Y.heap.size := by have := HBY.out.size; omega
  have hb2w : b2 < Y.heap.size := by have := HBY.out.size; omega
  have hbk0 := Lib.hid (show Below Y.heap.size Y Y.drew from (Below.refl _ _).drew)
  go_cut [8, 9] from 29 to 41 (fun s8 s9 wx => ∃ gv Ax cx, s8 = .pointer (some ⟨gv, 0, none⟩) ∧ s9 = .int .i64 e ∧ TBox wx gv u.k u.n (.slice Ax u.l.length cx) ∧ Below Y.heap.size Y wx ∧ IsTerm wx Y.heap.size wx.heap.size u Ax cx)
  case first =>
    go_region_held3 (fun w' => w'.cell? ⟨w.heap.size, 2, none⟩ = some (.slice (some ⟨b1, o1, none⟩) 2 c) ∧ w'.cell? ⟨w.heap.size, 3, none⟩ = some (.slice (some ⟨b2, o2, none⟩) 1 d) ∧ w'.cell? ⟨b1, o1 + 3, none⟩ = some (.int .i64 b.k) ∧ w'.cell? ⟨b1, o1 + 3 + 1, none⟩ = some (.int .i64 b.n) ∧ w'.cell? ⟨b1, o1 + 3 + 2, none⟩ = some (.slice F1 b.l.length C1) ∧ w'.cell? ⟨b2, o2, none⟩ = some (.int .i64 x.k) ∧ w'.cell? ⟨b2, o2 + 1, none⟩ = some (.int .i64 x.n) ∧ w'.cell? ⟨b2, o2 + 2, none⟩ = some (.slice F2 x.l.length C2))
      ((refine (HKK.out _ ?_); repeat (first | with_reducible exact hbk0.out | with_reducible exact hbC.out | with_reducible exact Below.refl _ _ | with_reducible refine Below.al ?_ _ | with_reducible refine Below.dr ?_ | with_reducible refine Below.st ?_ (by first | omega | (simp <;> omega)) _)))
      (first
      | (go_at_call 114
         refine (COY.out _ (by repeat (first | with_reducible exact hbk0.out | with_reducible exact Below.refl _ _ | with_reducible refine Below.al ?_ _ | with_reducible refine Below.dr ?_ | with_reducible refine Below.st ?_ (by first | omega | (simp <;> omega)) _))).mono ?_
         rintro e w3 ⟨F3, C3, rfl, hu3, hb3⟩
         have hbC := Lib.hid (by first | exact hbk0.out.trans (hb3.mono hbk0.out.size) | exact (hbk0.out.alloc hbk0.out.size _).trans (hb3.mono (hbk0.out.alloc hbk0.out.size _).size))
         have hzC := hbC.out.size
         first
         | (have hbz2 := Lib.hid (Bk.below hbz.out hb3 (by have := hbz.out.lt; simp <;> omega)); have hbz := hbz2; clear hbz2)
         | (have hbz2 := Lib.hid (Bk.below (hbz.out.alloc _) hb3 (by have := hbz.out.lt; simp <;> omega)); have hbz := hbz2; clear hbz2)
         | (have hbz : Hid (Bk w3 (Y.heap.size) 25 #[.int .i64 0, .int .i64 0, .slice none 0 0]) := Lib.hid (Bk.below (show Bk _ (Y.heap.size) 25 #[.int .i64 0, .int .i64 0, .slice none 0 0] from (Bk.last Y.drew 25 #[.int .i64 0, .int .i64 0, .slice none 0 0] (by simp))) hb3 (by simp <;> omega)))
         | (have hbz : Hid (Bk w3 (Y.heap.size) 25 #[.int .i64 0, .int .i64 0, .slice none 0 0]) := Lib.hid (Bk.below (show Bk _ (Y.heap.size) 25 #[.int .i64 0, .int .i64 0, .slice none 0 0] from ((Bk.last Y.drew 25 #[.int .i64 0, .int .i64 0, .slice none 0 0] (by simp)).alloc _)) hb3 (by simp <;> omega)))
         | (have hbz : Hid (Bk w3 (Y.heap.size + 1) 25 #[.int .i64 0, .int .i64 0, .slice none 0 0]) := Lib.hid (Bk.below (show Bk _ (Y.heap.size + 1) 25 #[.int .i64 0, .int .i64 0, .slice none 0 0] from (Bk.last (Y.drew.alloc _) 25 #[.int .i64 0, .int .i64 0, .slice none 0 0] (by simp))) hb3 (by simp <;> omega)))
         | skip
         have HU := Lib.hid hu3
         first
         | (have hfz : ∀ q, w3.frozen? ⟨_, q, none⟩ = false := fun q => hbz.out.cold q
            have d0 := hbz.out.cell 0
            have d1 := hbz.out.cell 1
            have d2 := hbz.out.cell 2
            simp at d0 d1 d2)
         | skip
         clear hb3 hu3))
    all_goals
      go_wp2_with fail
      go_meet
      case rel =>
        first
        | exact ⟨_, F3, C3, rfl, rfl, TBox.of (((hbz.out.at_ 0 (.int .i64 u.k)).at_ 1 (.int .i64 u.n)).at_ 2 (.slice F3 u.l.length C3)), (by repeat (first | with_reducible exact hbC.out | with_reducible exact Below.refl _ _ | with_reducible refine Below.al ?_ _ | with_reducible refine Below.dr ?_ | with_reducible refine Below.st ?_ (by first | omega | (simp <;> omega)) _)), (TermIn.three HU.out (fun b hb e => by have h1 := hb.1; have h2 := hbz.out.lt; subst e; first | omega | (simp at h1; done) | (simp at h1; omega)) _ _ _).imp (fun _ _ _ => rfl) (fun b hb => ⟨by have h1 := hb.1; have h2 := hbk0.out.size; first | omega | (simp at h1; omega), by rw [size_three]; exact hb.2⟩)⟩
        | exact ⟨_, F3, C3, rfl, rfl, TBox.of (Bk.new w3 _ _), (by repeat (first | with_reducible exact hbC.out | with_reducible exact Below.refl _ _ | with_reducible refine Below.al ?_ _ | with_reducible refine Below.dr ?_ | with_reducible refine Below.st ?_ (by first | omega | (simp <;> omega)) _)), TermIn.imp (fun b o hb => ((Below.refl w3.heap.size w3).alloc (Nat.le_refl _) _).cell (p := ⟨b, o, none⟩) hb.2) (fun b hb => ⟨by have h1 := hb.1; have h2 := hbk0.out.size; first | omega | (simp at h1; omega), by have := hb.2; simp; omega⟩) HU.out⟩
  case rest =>
    obtain ⟨wg, rfl⟩ : ∃ wg : World, wg = wc := ⟨_, rfl⟩
    obtain ⟨gv, Ax, cx, rfl, rfl, htb, hbg, hnx⟩ := hcut
    obtain ⟨z0, z1, z2, hzl⟩ := htb
    have HBG := Lib.hid (HBY.out.trans (hbg.mono HBY.out.size))
    have HTG := Lib.hid (HTY.out.below hbg HTY.out.lt)
    have HNX := Lib.hid hnx
    have HLY := Lib.hid HTY.out.lt
    have hfz : ∀ q, wg.frozen? ⟨w.heap.size + 1, q, none⟩ = false := fun q => HTG.out.cold q
    have d0 : wg.cell? ⟨w.heap.size + 1, 0, none⟩ = some (.int .i64 0) := HTG.out.cell 0
    have d1 : wg.cell? ⟨w.heap.size + 1, 1, none⟩ = some (.int .i64 0) := HTG.out.cell 1
    have d2 : wg.cell? ⟨w.heap.size + 1, 2, none⟩ = some (.slice none 0 0) := HTG.out.cell 2
    have B5 := ((HTG.out.at_ 0 (.int .i64 u.k)).at_ 1 (.int .i64 u.n)).at_ 2 (.slice Ax u.l.length cx)
    have HS0 := Lib.hid (B5.cell 0)
    have HS1 := Lib.hid (B5.cell 1)
    have HS2 := Lib.hid (B5.cell 2)
    clear hbg hnx B5 y2 y3 q0 q1 q2 p0 p1 p2 
    go_wp2_with fail
    refine bodyPost_ret (v := .tuple #[.agg #[.int .i64 u.k, .int .i64 u.n, .slice Ax u.l.length cx], .bool true, .int .i64 e]) (by simp [results, Tryz.results84, go_sem, HS0.out, HS1.out, HS2.out]) rfl ?_
    exact ⟨Ax, cx, rfl, (HNX.out.far3 HLY.out _ _ _).wide (by have := HBY.out.size; omega) (by simp [World.setCell]), ((HBG.out.setCell (by simp) _).setCell (by simp) _).setCell (by simp) _⟩

theorem Up.st {b : Nat} {w V : World} (h : Up b w V) {g q : Nat} (hg : w.heap.size ≤ g) (u : Value) : Up b w (V.setCell ⟨g, q, none⟩ u) :=
  ⟨h.os, h.tape, h.output, by have := h.size; simpa [World.setCell] using this, fun k hk hr => (Below.heap_setCell V ⟨g, q, none⟩ u k (fun e => by have : k = g := e; omega)).trans (h.block k hk hr)⟩
theorem Up.al {b : Nat} {w V : World} (h : Up b w V) (o : Obj) : Up b w (V.alloc o) := h.trans (Up.of ((Below.refl _ _).alloc (Nat.le_refl _) _))
theorem apply_nil (u : TM) : applyT u [] = u := rfl
set_option maxHeartbeats 1000000 in
/-- Without a meter. -/
theorem wstep_none (P : Option Addr) (n : Int) (a b x u : TM) (A B R : Option Addr) (c d r : Nat) (w : World) (h : NoEnt w P) (hH : IsTerm w 0 w.heap.size (.node 4 n [a, b]) A c) (hx : IsTerms w 0 w.heap.size [x] B d) (hu : manyX b [x] = (u, 0)) (hS : ShapesM w) :
    Calls Tryz.prog 59 #[.pointer P, .agg #[.int .i64 4, .int .i64 n, .slice A 2 c, .slice B 1 d, .slice R 0 r], .pointer none] w fun e w' => e = .returned (.tuple #[.agg #[.int .i64 0, .int .i64 0, .slice none 0 0], .bool false, .int .i64 8]) ∧ Below w.heap.size w w' := by
  obtain ⟨X, hX⟩ : ∃ X, (w.alloc (.cells #[.int .i64 4, .int .i64 n, .slice A 2 c, .slice B 1 d, .slice R 0 r] 97)).alloc (.cells #[.int .i64 0, .int .i64 0, .slice none 0 0] 25) = X := ⟨_, rfl⟩
  have HBX := Lib.hid (show Below w.heap.size w X from by rw [← hX]; exact ((Below.refl _ _).alloc (Nat.le_refl _) _).alloc (by simp) _)
  have HKR := Lib.hid (show Bk X w.heap.size 97 #[.int .i64 4, .int .i64 n, .slice A 2 c, .slice B 1 d, .slice R 0 r] from by rw [← hX]; exact (Bk.new _ _ _).alloc _)
  have HKT := Lib.hid (show Bk X (w.heap.size + 1) 25 #[.int .i64 0, .int .i64 0, .slice none 0 0] from by rw [← hX]; exact Bk.last _ _ _ (by simp))
  have CR := Lib.hid (wreduct_lam P n a b x A B R c d r X (h.over HBX.out) ((hH.kept HBX.out (Nat.le_refl _)).wide (Nat.le_refl _) HBX.out.size) ((hx.kept HBX.out (Nat.le_refl _)).wide (Nat.le_refl _) HBX.out.size) (hS.kept HBX.out))
  rw [hu] at CR
  unfold GivesSt termV at CR
  have x0 : X.cell? ⟨w.heap.size, 0, none⟩ = some (.int .i64 4) := HKR.out.cell 0
  have x1 : X.cell? ⟨w.heap.size, 1, none⟩ = some (.int .i64 n) := HKR.out.cell 1
  have x2 : X.cell? ⟨w.heap.size, 2, none⟩ = some (.slice A 2 c) := HKR.out.cell 2
  have x3 : X.cell? ⟨w.heap.size, 3, none⟩ = some (.slice B 1 d) := HKR.out.cell 3
  have x4 : X.cell? ⟨w.heap.size, 4, none⟩ = some (.slice R 0 r) := HKR.out.cell 4
  clear h hH hx hS hu
  go_enter Tryz.func59, Tryz.ntmps59
  go_wp2_with fail
  refine CR.out.mono ?_
  rintro e w1 ⟨F, cF, rfl, hu1, hb⟩
  have HB1 := Lib.hid (HBX.out.trans (hb.mono HBX.out.size))
  have HK1 := Lib.hid (HKR.out.below hb HKR.out.lt)
  have HT1 := Lib.hid (HKT.out.below hb HKT.out.lt)
  have HU1 := Lib.hid hu1
  have hlt1 := HT1.out.lt
  have hfz : ∀ q, w1.frozen? ⟨w.heap.size + 1, q, none⟩ = false := fun q => HT1.out.cold q
  have d0 : w1.cell? ⟨w.heap.size + 1, 0, none⟩ = some (.int .i64 0) := HT1.out.cell 0
  have d1 : w1.cell? ⟨w.heap.size + 1, 1, none⟩ = some (.int .i64 0) := HT1.out.cell 1
  have d2 : w1.cell? ⟨w.heap.size + 1, 2, none⟩ = some (.slice none 0 0) := HT1.out.cell 2
  clear hb hu1 hX x0 x1 x2 x3 x4
  go_wp2_with fail
  refine (step_nil _).mono ?_
  rintro e w2 ⟨rfl, rfl⟩
  have B5 := (((HT1.out.at_ 0 (.int .i64 0)).at_ 1 (.int .i64 0)).at_ 2 (.slice none 0 0)).al (.cells #[.int .i64 u.k, .int .i64 u.n, .slice F u.l.length cF] 25)
  have HS0 := Lib.hid (B5.cell 0)
  have HS1 := Lib.hid (B5.cell 1)
  have HS2 := Lib.hid (B5.cell 2)
  clear B5
  go_wp2_with fail
  refine bodyPost_ret (v := .tuple #[.agg #[.int .i64 0, .int .i64 0, .slice none 0 0], .bool false, .int .i64 8]) (by simp [results, Tryz.results59, go_sem, HS0.out, HS1.out, HS2.out]) rfl ?_
  have B6 := Below.st (g := w.heap.size + 1) (q := 2) (Below.st (g := w.heap.size + 1) (q := 1) (Below.st (g := w.heap.size + 1) (q := 0) HB1.out (by omega) (.int .i64 0)) (by omega) (.int .i64 0)) (by omega) (.slice none 0 0)
  exact ⟨rfl, B6.alloc B6.size _⟩

set_option maxHeartbeats 1000000 in
/-- With a meter that has a step left. -/
theorem wstep_ok (P : Option Addr) (n : Int) (a b x u : TM) (A B R : Option Addr) (c d r : Nat) (w : World) (h : NoEnt w P) (hH : IsTerm w 0 w.heap.size (.node 4 n [a, b]) A c) (hx : IsTerms w 0 w.heap.size [x] B d) (hu : manyX b [x] = (u, 0)) (hS : ShapesM w) (hr : r ≤ maxLen) (hus : shapedB u = true) (gf : Nat) (f lf : Int) (hm : Mt w gf f lf) (hlf : 1 ≤ lf ∧ lf ≤ 1048576) (w0 : World) (h0 : Below w0.heap.size w0 w) (hw0 : w0.heap.size ≤ gf) (hS0 : ShapesM w0) :
    Calls Tryz.prog 59 #[.pointer P, .agg #[.int .i64 4, .int .i64 n, .slice A 2 c, .slice B 1 d, .slice R 0 r], .pointer (some ⟨gf, 0, none⟩)] w fun e w' => ∃ F cF, e = .returned (.tuple #[.agg #[.int .i64 u.k, .int .i64 u.n, .slice F u.l.length cF], .bool true, .int .i64 0]) ∧ IsTerm w' w.heap.size w'.heap.size u F cF ∧ Mt w' gf f (lf - 1) ∧ Up gf w w' := by
  obtain ⟨X, hX⟩ : ∃ X, (w.alloc (.cells #[.int .i64 4, .int .i64 n, .slice A 2 c, .slice B 1 d, .slice R 0 r] 97)).alloc (.cells #[.int .i64 0, .int .i64 0, .slice none 0 0] 25) = X := ⟨_, rfl⟩
  have HBX := Lib.hid (show Below w.heap.size w X from by rw [← hX]; exact ((Below.refl _ _).alloc (Nat.le_refl _) _).alloc (by simp) _)
  have HKR := Lib.hid (show Bk X w.heap.size 97 #[.int .i64 4, .int .i64 n, .slice A 2 c, .slice B 1 d, .slice R 0 r] from by rw [← hX]; exact (Bk.new _ _ _).alloc _)
  have HKT := Lib.hid (show Bk X (w.heap.size + 1) 25 #[.int .i64 0, .int .i64 0, .slice none 0 0] from by rw [← hX]; exact Bk.last _ _ _ (by simp))
  have CR := Lib.hid (wreduct_lam P n a b x A B R c d r X (h.over HBX.out) ((hH.kept HBX.out (Nat.le_refl _)).wide (Nat.le_refl _) HBX.out.size) ((hx.kept HBX.out (Nat.le_refl _)).wide (Nat.le_refl _) HBX.out.size) (hS.kept HBX.out))
  rw [hu] at CR
  unfold GivesSt termV at CR
  have x0 : X.cell? ⟨w.heap.size, 0, none⟩ = some (.int .i64 4) := HKR.out.cell 0
  have x1 : X.cell? ⟨w.heap.size, 1, none⟩ = some (.int .i64 n) := HKR.out.cell 1
  have x2 : X.cell? ⟨w.heap.size, 2, none⟩ = some (.slice A 2 c) := HKR.out.cell 2
  have x3 : X.cell? ⟨w.heap.size, 3, none⟩ = some (.slice B 1 d) := HKR.out.cell 3
  have x4 : X.cell? ⟨w.heap.size, 4, none⟩ = some (.slice R 0 r) := HKR.out.cell 4
  have HM := Lib.hid hm
  have hgf := hm.lt
  have hlf0 : 0 ≤ lf ∧ lf ≤ 1048576 := by omega
  have CST := Lib.hid (fun (V : World) (hV : Below w.heap.size w V) => step_up (hm.below hV hgf) hlf0)
  have hfe : fuelE lf 1 = 0 := by unfold fuelE enough; simp; omega
  have hle : leftX lf 1 = lf - 1 := by unfold leftX enough; simp; omega
  rw [hfe, hle] at CST
  have HUS := Lib.hid hus
  have HH0 := Lib.hid h0
  have HS0 := Lib.hid hS0
  clear h hH hx hS hu hm hlf hlf0 hfe hle hus h0 hS0
  go_enter Tryz.func59, Tryz.ntmps59
  go_wp2_with fail
  refine CR.out.mono ?_
  rintro e w1 ⟨F, cF, rfl, hu1, hb⟩
  have HB1 := Lib.hid (HBX.out.trans (hb.mono HBX.out.size))
  have HK1 := Lib.hid (HKR.out.below hb HKR.out.lt)
  have HT1 := Lib.hid (HKT.out.below hb HKT.out.lt)
  have HU1 := Lib.hid hu1
  have hlt1 := HT1.out.lt
  have hfz : ∀ q, w1.frozen? ⟨w.heap.size + 1, q, none⟩ = false := fun q => HT1.out.cold q
  have d0 : w1.cell? ⟨w.heap.size + 1, 0, none⟩ = some (.int .i64 0) := HT1.out.cell 0
  have d1 : w1.cell? ⟨w.heap.size + 1, 1, none⟩ = some (.int .i64 0) := HT1.out.cell 1
  have d2 : w1.cell? ⟨w.heap.size + 1, 2, none⟩ = some (.slice none 0 0) := HT1.out.cell 2
  clear hb hu1 hX x0 x1 x2 x3 x4
  go_wp2_with fail
  obtain ⟨Y, hY⟩ : ∃ Y, w1.alloc (.cells #[.int .i64 u.k, .int .i64 u.n, .slice F u.l.length cF] 25) = Y := ⟨_, rfl⟩
  rw [hY]
  have HBY0 := Lib.hid (show Below w1.heap.size w1 Y from by rw [← hY]; exact (Below.refl _ _).alloc (Nat.le_refl _) _)
  have HBY := Lib.hid (HB1.out.trans (HBY0.out.mono HB1.out.size))
  have HKY := Lib.hid (show Bk Y w1.heap.size 25 #[.int .i64 u.k, .int .i64 u.n, .slice F u.l.length cF] from by rw [← hY]; exact Bk.new _ _ _)
  have HKRY := Lib.hid (HK1.out.below HBY0.out HK1.out.lt)
  have HTY := Lib.hid (HT1.out.below HBY0.out HT1.out.lt)
  have HUY := Lib.hid ((HU1.out.kept HBY0.out (Nat.le_refl _)).wide (Nat.le_refl _) HBY0.out.size)
  refine (CST.out _ HBY.out).mono ?_
  rintro e w2 ⟨rfl, hm2, hu2⟩
  have HM2 := Lib.hid hm2
  have HUP := Lib.hid hu2
  clear hm2 hu2
  have HKR2 := Lib.hid (show Bk w2 w.heap.size 97 #[.int .i64 4, .int .i64 n, .slice A 2 c, .slice B 1 d, .slice R 0 r] from (HUP.out.block _ HKRY.out.lt (fun e => by injection e with e; omega)).trans HKRY.out)
  have hgfX : gf < X.heap.size := by have := HBX.out.size; omega
  have hz1 := HB1.out.size
  have hz2 := HUP.out.size
  have HKY2 := Lib.hid (show Bk w2 w1.heap.size 25 #[.int .i64 u.k, .int .i64 u.n, .slice F u.l.length cF] from (HUP.out.block _ HKY.out.lt (fun e => by injection e with e; omega)).trans HKY.out)
  have HT2 := Lib.hid (show Bk w2 (w.heap.size + 1) 25 #[.int .i64 0, .int .i64 0, .slice none 0 0] from (HUP.out.block _ HTY.out.lt (fun e => by injection e with e; omega)).trans HTY.out)
  have HU2 := Lib.hid (show TermIn w2 (fun b => X.heap.size ≤ b ∧ b < w1.heap.size) u F cF from TermIn.imp (fun b o hb => (HUP.out.cell o (by have := HBY0.out.size; omega) (by have := hb.1; omega)).trans (HBY0.out.cell (p := ⟨b, o, none⟩) hb.2)) (fun b hb => hb) HU1.out)
  have HUW := Lib.hid (show Up gf w w2 from (Up.of (HBY.out)).trans HUP.out)
  have hrn : ∀ V : World, TermIn V (fun b => X.heap.size ≤ b ∧ b < w1.heap.size) (.node 0 0 []) R r := fun V => TermIn.mk 0 0 [] R r (fun _ => none) (fun _ => 0) (Nat.zero_le _) hr (fun h => by simp at h) (fun i h => by simp at h)
  have hyz := HBY0.out.size
  have CA := Lib.hid (tapplyP_any (fun b => X.heap.size ≤ b ∧ b < w1.heap.size) u [] F R cF r w2 (fun b hb => by omega) HU2.out (hrn w2))
  rw [apply_nil] at CA
  unfold GivesP termV at CA
  have HSH := Lib.hid (fun (V : World) (hV : Below w0.heap.size w0 V) (G : Option Addr) (cG : Nat) (hg : IsTerm V 0 V.heap.size u G cG) => shaped_any u 0 V.heap.size G cG V hg (Nat.le_refl _) (HS0.out.kept hV))
  rw [HUS.out] at HSH
  unfold termV at HSH
  have m0 : w2.cell? ⟨w1.heap.size, 0, none⟩ = some (.int .i64 u.k) := HKY2.out.cell 0
  have m1 : w2.cell? ⟨w1.heap.size, 1, none⟩ = some (.int .i64 u.n) := HKY2.out.cell 1
  have m2 : w2.cell? ⟨w1.heap.size, 2, none⟩ = some (.slice F u.l.length cF) := HKY2.out.cell 2
  have m4 : w2.cell? ⟨w.heap.size, 4, none⟩ = some (.slice R 0 r) := HKR2.out.cell 4
  have hz3 := HBY0.out.size
  have hlx := HKY.out.lt
  have hfz : ∀ q, w2.frozen? ⟨w1.heap.size, q, none⟩ = false := fun q => HKY2.out.cold q
  clear hY hrn
  go_wp2_with fail
  refine CA.out.mono ?_
  rintro e w3 ⟨G, cG, rfl, hg3, hb3⟩
  have HB3 := Lib.hid hb3
  have HG3 := Lib.hid hg3
  have HKY3 := Lib.hid (HKY2.out.below hb3 HKY2.out.lt)
  have HT3 := Lib.hid (HT2.out.below hb3 HT2.out.lt)
  have hlt3 := HKY3.out.lt
  have hfz3 : ∀ q, w3.frozen? ⟨w1.heap.size, q, none⟩ = false := fun q => HKY3.out.cold q
  have n0 : w3.cell? ⟨w1.heap.size, 0, none⟩ = some (.int .i64 u.k) := HKY3.out.cell 0
  have n1 : w3.cell? ⟨w1.heap.size, 1, none⟩ = some (.int .i64 u.n) := HKY3.out.cell 1
  have n2 : w3.cell? ⟨w1.heap.size, 2, none⟩ = some (.slice F u.l.length cF) := HKY3.out.cell 2
  clear hb3 hg3 m0 m1 m2 m4 hfz
  go_wp2_with fail
  have HGB := Lib.hid (show TermIn w3 (fun b => b ≠ w1.heap.size ∧ b ≠ w.heap.size + 1 ∧ w.heap.size ≤ b ∧ b < w3.heap.size) u G cG from TermIn.imp (fun _ _ _ => rfl) (fun b hb => by
    have h1 := hb.2
    have h2 := HBX.out.size
    have h3 := HKT.out.lt
    have h4 := HKY2.out.lt
    rcases hb.1 with h | h
    · exact ⟨by omega, by omega, by omega, h1⟩
    · exact ⟨by omega, by omega, by omega, h1⟩) HG3.out)
  have HKYZ := Lib.hid (((HKY3.out.at_ 0 (.int .i64 u.k)).at_ 1 (.int .i64 u.n)).at_ 2 (.slice G u.l.length cG))
  have HTZ := Lib.hid (((HT3.out.far (a := ⟨w1.heap.size, 0, none⟩) (by show w.heap.size + 1 ≠ w1.heap.size; omega) (.int .i64 u.k)).far (a := ⟨w1.heap.size, 1, none⟩) (by show w.heap.size + 1 ≠ w1.heap.size; omega) (.int .i64 u.n)).far (a := ⟨w1.heap.size, 2, none⟩) (by show w.heap.size + 1 ≠ w1.heap.size; omega) (.slice G u.l.length cG))
  have HUZ := Lib.hid (Up.st (q := 2) (Up.st (q := 1) (Up.st (q := 0) (HUW.out.trans (Up.of HB3.out)) (g := w1.heap.size) hz1 (.int .i64 u.k)) (g := w1.heap.size) hz1 (.int .i64 u.n)) (g := w1.heap.size) hz1 (.slice G u.l.length cG))
  have HGZ := Lib.hid (TermIn.three (g := w1.heap.size) HGB.out (fun b hb => hb.1) (.int .i64 u.k) (.int .i64 u.n) (.slice G u.l.length cG))
  have HMZ := Lib.hid ((((HM2.out.over HB3.out).far (a := ⟨w1.heap.size, 0, none⟩) (by show gf ≠ w1.heap.size; omega) (.int .i64 u.k)).far (a := ⟨w1.heap.size, 1, none⟩) (by show gf ≠ w1.heap.size; omega) (.int .i64 u.n)).far (a := ⟨w1.heap.size, 2, none⟩) (by show gf ≠ w1.heap.size; omega) (.slice G u.l.length cG))
  have hzZ : (((w3.setCell ⟨w1.heap.size, 0, none⟩ (.int .i64 u.k)).setCell ⟨w1.heap.size, 1, none⟩ (.int .i64 u.n)).setCell ⟨w1.heap.size, 2, none⟩ (.slice G u.l.length cG)).heap.size = w3.heap.size := size_three _ _ _ _ _
  obtain ⟨Z, hZ⟩ : ∃ Z, ((w3.setCell ⟨w1.heap.size, 0, none⟩ (.int .i64 u.k)).setCell ⟨w1.heap.size, 1, none⟩ (.int .i64 u.n)).setCell ⟨w1.heap.size, 2, none⟩ (.slice G u.l.length cG) = Z := ⟨_, rfl⟩
  rw [hZ] at HKYZ HTZ HUZ HGZ HMZ hzZ ⊢
  have HZ0 := Lib.hid (HH0.out.trans (HUZ.out.below hw0 HH0.out.size))
  refine (HSH.out Z HZ0.out G cG (TermIn.imp (fun _ _ _ => rfl) (fun b hb => ⟨Nat.zero_le _, by have := hb.2.2.2; omega⟩) HGZ.out)).mono ?_
  rintro e w4 ⟨rfl, hb4⟩
  have HB4 := Lib.hid hb4
  have HKY4 := Lib.hid (HKYZ.out.below hb4 HKYZ.out.lt)
  have HT4 := Lib.hid (HTZ.out.below hb4 HTZ.out.lt)
  have HUZ4 := Lib.hid (HUZ.out.trans (Up.of hb4))
  have HM4 := Lib.hid (HMZ.out.over hb4)
  have HG4 := Lib.hid (TermIn.imp (P' := fun b => b ≠ w.heap.size + 1 ∧ w.heap.size ≤ b ∧ b < w4.heap.size) (fun b o hb => hb4.cell (p := ⟨b, o, none⟩) (by show b < Z.heap.size; have := hb.2.2.2; omega)) (fun b hb => ⟨hb.2.1, hb.2.2.1, by have h1 := hb.2.2.2; have h2 := hb4.size; omega⟩) HGZ.out)
  have hlt4 := HT4.out.lt
  have hfz4 : ∀ q, w4.frozen? ⟨w.heap.size + 1, q, none⟩ = false := fun q => HT4.out.cold q
  have d0 : w4.cell? ⟨w.heap.size + 1, 0, none⟩ = some (.int .i64 0) := HT4.out.cell 0
  have d1 : w4.cell? ⟨w.heap.size + 1, 1, none⟩ = some (.int .i64 0) := HT4.out.cell 1
  have d2 : w4.cell? ⟨w.heap.size + 1, 2, none⟩ = some (.slice none 0 0) := HT4.out.cell 2
  have o0 : w4.cell? ⟨w1.heap.size, 0, none⟩ = some (.int .i64 u.k) := HKY4.out.cell 0
  have o1 : w4.cell? ⟨w1.heap.size, 1, none⟩ = some (.int .i64 u.n) := HKY4.out.cell 1
  have o2 : w4.cell? ⟨w1.heap.size, 2, none⟩ = some (.slice G u.l.length cG) := HKY4.out.cell 2
  have B5 := ((HT4.out.at_ 0 (.int .i64 u.k)).at_ 1 (.int .i64 u.n)).at_ 2 (.slice G u.l.length cG)
  have HS0' := Lib.hid (B5.cell 0)
  have HS1 := Lib.hid (B5.cell 1)
  have HS2 := Lib.hid (B5.cell 2)
  clear B5 hb4 n0 n1 n2 hfz3 hZ
  go_wp2_with fail
  refine bodyPost_ret (v := .tuple #[.agg #[.int .i64 u.k, .int .i64 u.n, .slice G u.l.length cG], .bool true, .int .i64 0]) (by simp [results, Tryz.results59, go_sem, HS0'.out, HS1.out, HS2.out]) rfl ?_
  refine ⟨G, cG, rfl, ?_, ((HM4.out.far (a := ⟨w.heap.size + 1, 0, none⟩) (by show gf ≠ w.heap.size + 1; omega) _).far (a := ⟨w.heap.size + 1, 1, none⟩) (by show gf ≠ w.heap.size + 1; omega) _).far (a := ⟨w.heap.size + 1, 2, none⟩) (by show gf ≠ w.heap.size + 1; omega) _, Up.st (q := 2) (Up.st (q := 1) (Up.st (q := 0) HUZ4.out (g := w.heap.size + 1) (by omega) _) (g := w.heap.size + 1) (by omega) _) (g := w.heap.size + 1) (by omega) _⟩
  exact (TermIn.three (g := w.heap.size + 1) HG4.out (fun b hb => hb.1) _ _ _).imp (fun _ _ _ => rfl) (fun b hb => ⟨hb.2.1, by rw [size_three]; exact hb.2.2⟩)



/-- A function with an argument, and what it comes to. -/
structure Beta (t : TM) (n : Int) (a b x u : TM) : Prop where
  sh : shapedB t = true
  hd : headT t = .node 4 n [a, b]
  ar : argsT t = [x]
  ga : tgoodB a = true
  gb : tgoodB b = true
  gx : tgoodB x = true
  mu : manyX b [x] = (u, 0)
  us : shapedB u = true
  uk : (headT u).k ≠ 4
theorem wredex_beta {t a b x u : TM} {n : Int} (hb : Beta t n a b x u) (P : Option Addr) (A : Option Addr) (cap : Nat) (w : World) (h : NoEnt w P) (ht : IsTerm w 0 w.heap.size t A cap) (hS : ShapesM w) :
    Calls Tryz.prog 53 #[.pointer P, termV t A cap] w fun e w' => ∃ A c B d Br dr, e = .returned (.tuple #[.agg #[.int .i64 4, .int .i64 n, .slice A 2 c, .slice B 1 d, .slice Br 0 dr], .bool true]) ∧ IsTerm w' 0 w'.heap.size (.node 4 n [a, b]) A c ∧ IsTerms w' 0 w'.heap.size [x] B d ∧ dr ≤ maxLen ∧ Below w.heap.size w w' :=
  (wredex_lam P t x A cap w h ht hb.sh hS (by rw [hb.hd]; rfl) hb.ar (by
    rw [hb.hd]
    intro u hu
    have hu' : u ∈ [a, b] := hu
    simp only [List.mem_cons, List.not_mem_nil, or_false] at hu'
    rcases hu' with rfl | rfl
    · exact hb.ga
    · exact hb.gb) hb.gx).mono fun e w' h => by
    obtain ⟨A, c, B, d, Br, dr, h1, h2, h3, h4, h5⟩ := h
    rw [hb.hd] at h1 h2
    exact ⟨A, c, B, d, Br, dr, h1, h2, h3, h4, h5⟩

set_option maxHeartbeats 2000000 in
/-- Without a meter: there is no step to take. -/
theorem wbrought_none {t a b x u : TM} {n : Int} (hbt : Beta t n a b x u) (P : Option Addr) (A : Option Addr) (cap : Nat) (w : World) (h : NoEnt w P) (ht : IsTerm w 0 w.heap.size t A cap) (hS : ShapesM w) :
    Calls Tryz.prog 56 #[.pointer P, termV t A cap, .pointer none] w fun e w' => e = .returned (.tuple #[.agg #[.int .i64 0, .int .i64 0, .slice none 0 0], .int .i64 8]) ∧ Below w.heap.size w w' := by
  have HP := Lib.hid (fun (V : World) (hV : Below w.heap.size w V) => (show NoEnt V P from h.over hV))
  have HSS := Lib.hid (fun (V : World) (hV : Below w.heap.size w V) => hS.kept hV)
  have HT := Lib.hid (fun (V : World) (hV : Below w.heap.size w V) => (show IsTerm V 0 w.heap.size t A cap from ht.kept hV (Nat.le_refl _)))
  have HBT := Lib.hid hbt
  unfold termV
  obtain ⟨X, hX⟩ : ∃ X, ((w.alloc (.cells #[.int .i64 t.k, .int .i64 t.n, .slice A t.l.length cap] 25)).alloc (.cells #[.int .i64 0, .int .i64 0, .slice none 0 0] 25)).alloc (.cells #[.int .i64 t.k, .int .i64 t.n, .slice A t.l.length cap] 25) = X := ⟨_, rfl⟩
  have HBX := Lib.hid (show Below w.heap.size w X from by rw [← hX]; exact (((Below.refl _ _).alloc (Nat.le_refl _) _).alloc (by simp) _).alloc (by simp; omega) _)
  have HKt := Lib.hid (show Bk X w.heap.size 25 #[.int .i64 t.k, .int .i64 t.n, .slice A t.l.length cap] from by rw [← hX]; exact ((Bk.new _ _ _).alloc _).alloc _)
  have HKr := Lib.hid (show Bk X (w.heap.size + 1) 25 #[.int .i64 0, .int .i64 0, .slice none 0 0] from by rw [← hX]; exact (Bk.last _ _ _ (by simp)).alloc _)
  have HKw := Lib.hid (show Bk X (w.heap.size + 1 + 1) 25 #[.int .i64 t.k, .int .i64 t.n, .slice A t.l.length cap] from by rw [← hX]; exact Bk.last _ _ _ (by simp))
  have x0 : X.cell? ⟨w.heap.size, 0, none⟩ = some (.int .i64 t.k) := HKt.out.cell 0
  have x1 : X.cell? ⟨w.heap.size, 1, none⟩ = some (.int .i64 t.n) := HKt.out.cell 1
  have x2 : X.cell? ⟨w.heap.size, 2, none⟩ = some (.slice A t.l.length cap) := HKt.out.cell 2
  have y0 : X.cell? ⟨w.heap.size + 1 + 1, 0, none⟩ = some (.int .i64 t.k) := HKw.out.cell 0
  have y1 : X.cell? ⟨w.heap.size + 1 + 1, 1, none⟩ = some (.int .i64 t.n) := HKw.out.cell 1
  have y2 : X.cell? ⟨w.heap.size + 1 + 1, 2, none⟩ = some (.slice A t.l.length cap) := HKw.out.cell 2
  have hfy : ∀ q, X.frozen? ⟨w.heap.size + 1 + 1, q, none⟩ = false := fun q => HKw.out.cold q
  clear h ht hS hbt
  go_enter Tryz.func56, Tryz.ntmps56
  go_wp2_with fail
  go_step3
  go_wp2_with fail
  go_step3
  go_wp2_with fail
  refine wp_loop_rounds 1 ?_
  rw [rounds_succ]
  go_wp2_with fail
  have HBZ := Lib.hid (Below.st (g := w.heap.size + 1 + 1) (q := 2) (Below.st (g := w.heap.size + 1 + 1) (q := 1) (Below.st (g := w.heap.size + 1 + 1) (q := 0) HBX.out (by omega) (.int .i64 t.k)) (by omega) (.int .i64 t.n)) (by omega) (.slice A t.l.length cap))
  have HrZ := Lib.hid (((HKr.out.far (a := ⟨w.heap.size + 1 + 1, 0, none⟩) (by simp) (.int .i64 t.k)).far (a := ⟨w.heap.size + 1 + 1, 1, none⟩) (by simp) (.int .i64 t.n)).far (a := ⟨w.heap.size + 1 + 1, 2, none⟩) (by simp) (.slice A t.l.length cap))
  obtain ⟨Z, hZ⟩ : ∃ Z, ((X.setCell ⟨w.heap.size + 1 + 1, 0, none⟩ (.int .i64 t.k)).setCell ⟨w.heap.size + 1 + 1, 1, none⟩ (.int .i64 t.n)).setCell ⟨w.heap.size + 1 + 1, 2, none⟩ (.slice A t.l.length cap) = Z := ⟨_, rfl⟩
  rw [hZ] at HBZ HrZ ⊢
  clear hX hZ x0 x1 x2 y0 y1 y2 hfy
  refine (wredex_beta HBT.out P A cap Z (HP.out Z HBZ.out) ((HT.out Z HBZ.out).wide (Nat.le_refl _) HBZ.out.size) (HSS.out Z HBZ.out)).mono ?_
  rintro e w1 ⟨A1, c1, B1, d1, Br, dr, rfl, hh1, hx1, hdr, hb1⟩
  have HB1 := Lib.hid (HBZ.out.trans (hb1.mono HBZ.out.size))
  have Hr1 := Lib.hid (HrZ.out.below hb1 HrZ.out.lt)
  have HH1 := Lib.hid hh1
  have HX1 := Lib.hid hx1
  have HDR := Lib.hid hdr
  clear hb1 hh1 hx1 hdr
  go_wp2_with fail
  obtain ⟨Y, hY⟩ : ∃ Y, w1.alloc (.cells #[.int .i64 4, .int .i64 n, .slice A1 2 c1, .slice B1 1 d1, .slice Br 0 dr] 97) = Y := ⟨_, rfl⟩
  have HBY0 := Lib.hid (show Below w1.heap.size w1 Y from by rw [← hY]; exact (Below.refl _ _).alloc (Nat.le_refl _) _)
  have HKR := Lib.hid (show Bk Y w1.heap.size 97 #[.int .i64 4, .int .i64 n, .slice A1 2 c1, .slice B1 1 d1, .slice Br 0 dr] from by rw [← hY]; exact Bk.new _ _ _)
  rw [hY]
  refine (wwaits_lam P n A1 B1 Br 2 c1 1 d1 0 dr Y).mono ?_
  rintro e w2 ⟨rfl, hb2⟩
  have HB12 := Lib.hid (HBY0.out.trans (hb2.mono HBY0.out.size))
  have HB2 := Lib.hid (HB1.out.trans (HB12.out.mono HB1.out.size))
  have HKR2 := Lib.hid (HKR.out.below hb2 HKR.out.lt)
  have Hr2 := Lib.hid (Hr1.out.below HB12.out Hr1.out.lt)
  have HH2 := Lib.hid ((HH1.out.kept HB12.out (Nat.le_refl _)).wide (Nat.le_refl _) HB12.out.size)
  have HX2 := Lib.hid ((HX1.out.kept HB12.out (Nat.le_refl _)).wide (Nat.le_refl _) HB12.out.size)
  have r0 : w2.cell? ⟨w1.heap.size, 0, none⟩ = some (.int .i64 4) := HKR2.out.cell 0
  have r1 : w2.cell? ⟨w1.heap.size, 1, none⟩ = some (.int .i64 n) := HKR2.out.cell 1
  have r2 : w2.cell? ⟨w1.heap.size, 2, none⟩ = some (.slice A1 2 c1) := HKR2.out.cell 2
  have r3 : w2.cell? ⟨w1.heap.size, 3, none⟩ = some (.slice B1 1 d1) := HKR2.out.cell 3
  have r4 : w2.cell? ⟨w1.heap.size, 4, none⟩ = some (.slice Br 0 dr) := HKR2.out.cell 4
  clear hY hb2
  go_wp2_with fail
  refine (wstep_none P n a b x u A1 B1 Br c1 d1 dr w2 (HP.out w2 HB2.out) HH2.out HX2.out HBT.out.mu (HSS.out w2 HB2.out)).mono ?_
  rintro e w3 ⟨rfl, hb3⟩
  have HB3 := Lib.hid (HB2.out.trans (hb3.mono HB2.out.size))
  have Hr3 := Lib.hid (Hr2.out.below hb3 Hr2.out.lt)
  have hlt3 := Hr3.out.lt
  have hfz : ∀ q, w3.frozen? ⟨w.heap.size + 1, q, none⟩ = false := fun q => Hr3.out.cold q
  have d0 : w3.cell? ⟨w.heap.size + 1, 0, none⟩ = some (.int .i64 0) := Hr3.out.cell 0
  have d1' : w3.cell? ⟨w.heap.size + 1, 1, none⟩ = some (.int .i64 0) := Hr3.out.cell 1
  have d2 : w3.cell? ⟨w.heap.size + 1, 2, none⟩ = some (.slice none 0 0) := Hr3.out.cell 2
  have B5 := (((Hr3.out.at_ 0 (.int .i64 0)).at_ 1 (.int .i64 0)).at_ 2 (.slice none 0 0)).al (.cells #[.int .i64 0, .int .i64 0, .slice none 0 0] 25)
  have HS0 := Lib.hid (B5.cell 0)
  have HS1 := Lib.hid (B5.cell 1)
  have HS2 := Lib.hid (B5.cell 2)
  clear B5 hb3 r0 r1 r2 r3 r4
  go_wp2_with fail
  rw [Exit.noGoto_ret]
  refine bodyPost_ret (v := .tuple #[.agg #[.int .i64 0, .int .i64 0, .slice none 0 0], .int .i64 8]) (by simp [results, Tryz.results56, go_sem, HS0.out, HS1.out, HS2.out]) rfl ?_
  have B6 := Below.st (g := w.heap.size + 1) (q := 2) (Below.st (g := w.heap.size + 1) (q := 1) (Below.st (g := w.heap.size + 1) (q := 0) HB3.out (by omega) (.int .i64 0)) (by omega) (.int .i64 0)) (by omega) (.slice none 0 0)
  exact ⟨rfl, B6.alloc B6.size _⟩

set_option maxHeartbeats 2000000 in
/-- With a meter that has a step left: what it comes to. -/
theorem wbrought_ok {t a b x u : TM} {n : Int} (hbt : Beta t n a b x u) (P : Option Addr) (A : Option Addr) (cap : Nat) (w : World) (ht : IsTerm w 0 w.heap.size t A cap) (gf : Nat) (f lf : Int) (hm : Mt w gf f lf) (hlf : 1 ≤ lf ∧ lf ≤ 1048576) (w0 : World) (h0 : Below w0.heap.size w0 w) (hw0 : w0.heap.size ≤ gf) (hS0 : ShapesM w0) (hP0 : NoEnt w0 P) :
    Calls Tryz.prog 56 #[.pointer P, termV t A cap, .pointer (some ⟨gf, 0, none⟩)] w fun e w' => ∃ F cF, e = .returned (.tuple #[.agg #[.int .i64 u.k, .int .i64 u.n, .slice F u.l.length cF], .int .i64 0]) ∧ IsTerm w' w.heap.size w'.heap.size u F cF ∧ Mt w' gf f (lf - 1) ∧ Up gf w w' := by
  have h : NoEnt w P := hP0.over h0
  have hS : ShapesM w := hS0.kept h0
  have HM := Lib.hid hm
  have hgf := hm.lt
  have HLF := Lib.hid hlf
  have HH0 := Lib.hid h0
  have HS0' := Lib.hid hS0
  have HP0 := Lib.hid hP0
  have HP := Lib.hid (fun (V : World) (hV : Below w.heap.size w V) => (show NoEnt V P from h.over hV))
  have HSS := Lib.hid (fun (V : World) (hV : Below w.heap.size w V) => hS.kept hV)
  have HT := Lib.hid (fun (V : World) (hV : Below w.heap.size w V) => (show IsTerm V 0 w.heap.size t A cap from ht.kept hV (Nat.le_refl _)))
  have HBT := Lib.hid hbt
  unfold termV
  obtain ⟨X, hX⟩ : ∃ X, ((w.alloc (.cells #[.int .i64 t.k, .int .i64 t.n, .slice A t.l.length cap] 25)).alloc (.cells #[.int .i64 0, .int .i64 0, .slice none 0 0] 25)).alloc (.cells #[.int .i64 t.k, .int .i64 t.n, .slice A t.l.length cap] 25) = X := ⟨_, rfl⟩
  have HBX := Lib.hid (show Below w.heap.size w X from by rw [← hX]; exact (((Below.refl _ _).alloc (Nat.le_refl _) _).alloc (by simp) _).alloc (by simp; omega) _)
  have HKt := Lib.hid (show Bk X w.heap.size 25 #[.int .i64 t.k, .int .i64 t.n, .slice A t.l.length cap] from by rw [← hX]; exact ((Bk.new _ _ _).alloc _).alloc _)
  have HKr := Lib.hid (show Bk X (w.heap.size + 1) 25 #[.int .i64 0, .int .i64 0, .slice none 0 0] from by rw [← hX]; exact (Bk.last _ _ _ (by simp)).alloc _)
  have HKw := Lib.hid (show Bk X (w.heap.size + 1 + 1) 25 #[.int .i64 t.k, .int .i64 t.n, .slice A t.l.length cap] from by rw [← hX]; exact Bk.last _ _ _ (by simp))
  have x0 : X.cell? ⟨w.heap.size, 0, none⟩ = some (.int .i64 t.k) := HKt.out.cell 0
  have x1 : X.cell? ⟨w.heap.size, 1, none⟩ = some (.int .i64 t.n) := HKt.out.cell 1
  have x2 : X.cell? ⟨w.heap.size, 2, none⟩ = some (.slice A t.l.length cap) := HKt.out.cell 2
  have y0 : X.cell? ⟨w.heap.size + 1 + 1, 0, none⟩ = some (.int .i64 t.k) := HKw.out.cell 0
  have y1 : X.cell? ⟨w.heap.size + 1 + 1, 1, none⟩ = some (.int .i64 t.n) := HKw.out.cell 1
  have y2 : X.cell? ⟨w.heap.size + 1 + 1, 2, none⟩ = some (.slice A t.l.length cap) := HKw.out.cell 2
  have hfy : ∀ q, X.frozen? ⟨w.heap.size + 1 + 1, q, none⟩ = false := fun q => HKw.out.cold q
  clear h ht hS hbt hm hlf h0 hS0 hP0
  go_enter Tryz.func56, Tryz.ntmps56
  go_wp2_with fail
  go_step3
  go_wp2_with fail
  go_step3
  go_wp2_with fail
  refine wp_loop_rounds 2 ?_
  rw [rounds_succ]
  go_wp2_with fail
  have HBZ := Lib.hid (Below.st (g := w.heap.size + 1 + 1) (q := 2) (Below.st (g := w.heap.size + 1 + 1) (q := 1) (Below.st (g := w.heap.size + 1 + 1) (q := 0) HBX.out (by omega) (.int .i64 t.k)) (by omega) (.int .i64 t.n)) (by omega) (.slice A t.l.length cap))
  have HrZ := Lib.hid (((HKr.out.far (a := ⟨w.heap.size + 1 + 1, 0, none⟩) (by simp) (.int .i64 t.k)).far (a := ⟨w.heap.size + 1 + 1, 1, none⟩) (by simp) (.int .i64 t.n)).far (a := ⟨w.heap.size + 1 + 1, 2, none⟩) (by simp) (.slice A t.l.length cap))
  have HtZ := Lib.hid (((HKt.out.far (a := ⟨w.heap.size + 1 + 1, 0, none⟩) (by simp; omega) (.int .i64 t.k)).far (a := ⟨w.heap.size + 1 + 1, 1, none⟩) (by simp; omega) (.int .i64 t.n)).far (a := ⟨w.heap.size + 1 + 1, 2, none⟩) (by simp; omega) (.slice A t.l.length cap))
  have HwZ := Lib.hid (((HKw.out.at_ 0 (.int .i64 t.k)).at_ 1 (.int .i64 t.n)).at_ 2 (.slice A t.l.length cap))
  obtain ⟨Z, hZ⟩ : ∃ Z, ((X.setCell ⟨w.heap.size + 1 + 1, 0, none⟩ (.int .i64 t.k)).setCell ⟨w.heap.size + 1 + 1, 1, none⟩ (.int .i64 t.n)).setCell ⟨w.heap.size + 1 + 1, 2, none⟩ (.slice A t.l.length cap) = Z := ⟨_, rfl⟩
  rw [hZ] at HBZ HrZ HtZ HwZ ⊢
  clear hX hZ x0 x1 x2 y0 y1 y2 hfy
  refine (wredex_beta HBT.out P A cap Z (HP.out Z HBZ.out) ((HT.out Z HBZ.out).wide (Nat.le_refl _) HBZ.out.size) (HSS.out Z HBZ.out)).mono ?_
  rintro e w1 ⟨A1, c1, B1, d1, Br, dr, rfl, hh1, hx1, hdr, hb1⟩
  have HB1 := Lib.hid (HBZ.out.trans (hb1.mono HBZ.out.size))
  have Hr1 := Lib.hid (HrZ.out.below hb1 HrZ.out.lt)
  have Ht1 := Lib.hid (HtZ.out.below hb1 HtZ.out.lt)
  have Hw1 := Lib.hid (HwZ.out.below hb1 HwZ.out.lt)
  have HH1 := Lib.hid hh1
  have HX1 := Lib.hid hx1
  have HDR := Lib.hid hdr
  clear hb1 hh1 hx1 hdr
  go_wp2_with fail
  obtain ⟨Y, hY⟩ : ∃ Y, w1.alloc (.cells #[.int .i64 4, .int .i64 n, .slice A1 2 c1, .slice B1 1 d1, .slice Br 0 dr] 97) = Y := ⟨_, rfl⟩
  have HBY0 := Lib.hid (show Below w1.heap.size w1 Y from by rw [← hY]; exact (Below.refl _ _).alloc (Nat.le_refl _) _)
  have HKR := Lib.hid (show Bk Y w1.heap.size 97 #[.int .i64 4, .int .i64 n, .slice A1 2 c1, .slice B1 1 d1, .slice Br 0 dr] from by rw [← hY]; exact Bk.new _ _ _)
  rw [hY]
  refine (wwaits_lam P n A1 B1 Br 2 c1 1 d1 0 dr Y).mono ?_
  rintro e w2 ⟨rfl, hb2⟩
  have HB12 := Lib.hid (HBY0.out.trans (hb2.mono HBY0.out.size))
  have HB2 := Lib.hid (HB1.out.trans (HB12.out.mono HB1.out.size))
  have HKR2 := Lib.hid (HKR.out.below hb2 HKR.out.lt)
  have Hr2 := Lib.hid (Hr1.out.below HB12.out Hr1.out.lt)
  have Ht2 := Lib.hid (Ht1.out.below HB12.out Ht1.out.lt)
  have Hw2 := Lib.hid (Hw1.out.below HB12.out Hw1.out.lt)
  have HH2 := Lib.hid ((HH1.out.kept HB12.out (Nat.le_refl _)).wide (Nat.le_refl _) HB12.out.size)
  have HX2 := Lib.hid ((HX1.out.kept HB12.out (Nat.le_refl _)).wide (Nat.le_refl _) HB12.out.size)
  have r0 : w2.cell? ⟨w1.heap.size, 0, none⟩ = some (.int .i64 4) := HKR2.out.cell 0
  have r1 : w2.cell? ⟨w1.heap.size, 1, none⟩ = some (.int .i64 n) := HKR2.out.cell 1
  have r2 : w2.cell? ⟨w1.heap.size, 2, none⟩ = some (.slice A1 2 c1) := HKR2.out.cell 2
  have r3 : w2.cell? ⟨w1.heap.size, 3, none⟩ = some (.slice B1 1 d1) := HKR2.out.cell 3
  have r4 : w2.cell? ⟨w1.heap.size, 4, none⟩ = some (.slice Br 0 dr) := HKR2.out.cell 4
  clear hY hb2
  go_wp2_with fail
  have hz2 := HB2.out.size
  have HM2 := Lib.hid (HM.out.below HB2.out hgf)
  have HH02 := Lib.hid (HH0.out.trans (HB2.out.mono HH0.out.size))
  refine (wstep_ok P n a b x u A1 B1 Br c1 d1 dr w2 (HP.out w2 HB2.out) HH2.out HX2.out HBT.out.mu (HSS.out w2 HB2.out) HDR.out HBT.out.us gf f lf HM2.out HLF.out w0 HH02.out hw0 HS0'.out).mono ?_
  rintro e w3 ⟨F, cF, rfl, hu3, hm3, hup3⟩
  have HUP := Lib.hid hup3
  have HM3 := Lib.hid hm3
  have HU3 := Lib.hid hu3
  have hz3 := hup3.size
  have Ht3 := Lib.hid (show Bk w3 w.heap.size 25 #[.int .i64 t.k, .int .i64 t.n, .slice A t.l.length cap] from (HUP.out.block _ Ht2.out.lt (fun e => by injection e with e; omega)).trans Ht2.out)
  have Hw3 := Lib.hid (show Bk w3 (w.heap.size + 1 + 1) 25 #[.int .i64 t.k, .int .i64 t.n, .slice A t.l.length cap] from (HUP.out.block _ Hw2.out.lt (fun e => by injection e with e; omega)).trans Hw2.out)
  have Hr3 := Lib.hid (show Bk w3 (w.heap.size + 1) 25 #[.int .i64 0, .int .i64 0, .slice none 0 0] from (HUP.out.block _ Hr2.out.lt (fun e => by injection e with e; omega)).trans Hr2.out)
  have HUW := Lib.hid ((Up.of HB2.out : Up gf w w2).trans HUP.out)
  have HUN := Lib.hid (show TermIn w3 (fun b => w2.heap.size ≤ b ∧ b < w3.heap.size) u F cF from HU3.out)
  have hltt := Ht3.out.lt
  have hltw := Hw3.out.lt
  have hft : ∀ q, w3.frozen? ⟨w.heap.size, q, none⟩ = false := fun q => Ht3.out.cold q
  have hfw : ∀ q, w3.frozen? ⟨w.heap.size + 1 + 1, q, none⟩ = false := fun q => Hw3.out.cold q
  have t0 : w3.cell? ⟨w.heap.size, 0, none⟩ = some (.int .i64 t.k) := Ht3.out.cell 0
  have t1 : w3.cell? ⟨w.heap.size, 1, none⟩ = some (.int .i64 t.n) := Ht3.out.cell 1
  have t2 : w3.cell? ⟨w.heap.size, 2, none⟩ = some (.slice A t.l.length cap) := Ht3.out.cell 2
  have o0 : w3.cell? ⟨w.heap.size + 1 + 1, 0, none⟩ = some (.int .i64 t.k) := Hw3.out.cell 0
  have o1 : w3.cell? ⟨w.heap.size + 1 + 1, 1, none⟩ = some (.int .i64 t.n) := Hw3.out.cell 1
  have o2 : w3.cell? ⟨w.heap.size + 1 + 1, 2, none⟩ = some (.slice A t.l.length cap) := Hw3.out.cell 2
  have hneq : w.heap.size ≠ w.heap.size + 1 + 1 := by omega
  clear hup3 hm3 hu3 r0 r1 r2 r3 r4
  go_wp2_with fail
  rw [rounds_succ]
  go_wp2_with fail
  have hz2w : w.heap.size + 1 + 1 < w2.heap.size := Hw2.out.lt
  have HwV := Lib.hid ((((((((Hw3.out.far (a := ⟨w.heap.size, 0, none⟩) (by show w.heap.size + 1 + 1 ≠ w.heap.size; omega) (.int .i64 u.k)).far (a := ⟨w.heap.size, 1, none⟩) (by show w.heap.size + 1 + 1 ≠ w.heap.size; omega) (.int .i64 u.n)).far (a := ⟨w.heap.size, 2, none⟩) (by show w.heap.size + 1 + 1 ≠ w.heap.size; omega) (.slice F u.l.length cF)).at_ 0 (.int .i64 u.k)).at_ 1 (.int .i64 u.n)).at_ 2 (.slice F u.l.length cF))).al (.cells #[.int .i64 u.k, .int .i64 u.n, .slice F u.l.length cF] 25))
  have HrV := Lib.hid ((((((((Hr3.out.far (a := ⟨w.heap.size, 0, none⟩) (by show w.heap.size + 1 ≠ w.heap.size; omega) (.int .i64 u.k)).far (a := ⟨w.heap.size, 1, none⟩) (by show w.heap.size + 1 ≠ w.heap.size; omega) (.int .i64 u.n)).far (a := ⟨w.heap.size, 2, none⟩) (by show w.heap.size + 1 ≠ w.heap.size; omega) (.slice F u.l.length cF)).far (a := ⟨w.heap.size + 1 + 1, 0, none⟩) (by show w.heap.size + 1 ≠ w.heap.size + 1 + 1; omega) (.int .i64 u.k)).far (a := ⟨w.heap.size + 1 + 1, 1, none⟩) (by show w.heap.size + 1 ≠ w.heap.size + 1 + 1; omega) (.int .i64 u.n)).far (a := ⟨w.heap.size + 1 + 1, 2, none⟩) (by show w.heap.size + 1 ≠ w.heap.size + 1 + 1; omega) (.slice F u.l.length cF))).al (.cells #[.int .i64 u.k, .int .i64 u.n, .slice F u.l.length cF] 25))
  have HMV := Lib.hid ((((((((HM3.out.far (a := ⟨w.heap.size, 0, none⟩) (by show gf ≠ w.heap.size; omega) (.int .i64 u.k)).far (a := ⟨w.heap.size, 1, none⟩) (by show gf ≠ w.heap.size; omega) (.int .i64 u.n)).far (a := ⟨w.heap.size, 2, none⟩) (by show gf ≠ w.heap.size; omega) (.slice F u.l.length cF)).far (a := ⟨w.heap.size + 1 + 1, 0, none⟩) (by show gf ≠ w.heap.size + 1 + 1; omega) (.int .i64 u.k)).far (a := ⟨w.heap.size + 1 + 1, 1, none⟩) (by show gf ≠ w.heap.size + 1 + 1; omega) (.int .i64 u.n)).far (a := ⟨w.heap.size + 1 + 1, 2, none⟩) (by show gf ≠ w.heap.size + 1 + 1; omega) (.slice F u.l.length cF))).alloc (.cells #[.int .i64 u.k, .int .i64 u.n, .slice F u.l.length cF] 25))
  have HUPV := Lib.hid (((Up.st (g := w.heap.size + 1 + 1) (q := 2) (Up.st (g := w.heap.size + 1 + 1) (q := 1) (Up.st (g := w.heap.size + 1 + 1) (q := 0) (Up.st (g := w.heap.size) (q := 2) (Up.st (g := w.heap.size) (q := 1) (Up.st (g := w.heap.size) (q := 0) HUW.out (by omega) (.int .i64 u.k)) (by omega) (.int .i64 u.n)) (by omega) (.slice F u.l.length cF)) (by omega) (.int .i64 u.k)) (by omega) (.int .i64 u.n)) (by omega) (.slice F u.l.length cF))).al (.cells #[.int .i64 u.k, .int .i64 u.n, .slice F u.l.length cF] 25))
  have HUV := Lib.hid (TermIn.imp (P' := fun b => w2.heap.size ≤ b ∧ b < w3.heap.size) (fun b o hb => ((Below.refl _ _).alloc (Nat.le_refl _) (.cells #[.int .i64 u.k, .int .i64 u.n, .slice F u.l.length cF] 25)).cell (p := ⟨b, o, none⟩) (by have := hb.2; simpa [World.setCell] using this)) (fun b hb => hb) ((TermIn.setAt (g := w.heap.size + 1 + 1) (q := 2) (TermIn.setAt (g := w.heap.size + 1 + 1) (q := 1) (TermIn.setAt (g := w.heap.size + 1 + 1) (q := 0) (TermIn.setAt (g := w.heap.size) (q := 2) (TermIn.setAt (g := w.heap.size) (q := 1) (TermIn.setAt (g := w.heap.size) (q := 0) HUN.out (fun b hb => by have := hb.1; omega) (.int .i64 u.k)) (fun b hb => by have := hb.1; omega) (.int .i64 u.n)) (fun b hb => by have := hb.1; omega) (.slice F u.l.length cF)) (fun b hb => by have := hb.1; omega) (.int .i64 u.k)) (fun b hb => by have := hb.1; omega) (.int .i64 u.n)) (fun b hb => by have := hb.1; omega) (.slice F u.l.length cF))))
  have hzV : (((((((w3.setCell ⟨w.heap.size, 0, none⟩ (.int .i64 u.k)).setCell ⟨w.heap.size, 1, none⟩ (.int .i64 u.n)).setCell ⟨w.heap.size, 2, none⟩ (.slice F u.l.length cF)).setCell ⟨w.heap.size + 1 + 1, 0, none⟩ (.int .i64 u.k)).setCell ⟨w.heap.size + 1 + 1, 1, none⟩ (.int .i64 u.n)).setCell ⟨w.heap.size + 1 + 1, 2, none⟩ (.slice F u.l.length cF)).alloc (.cells #[.int .i64 u.k, .int .i64 u.n, .slice F u.l.length cF] 25)).heap.size = w3.heap.size + 1 := by simp [World.setCell]
  obtain ⟨V, hV⟩ : ∃ V, ((((((w3.setCell ⟨w.heap.size, 0, none⟩ (.int .i64 u.k)).setCell ⟨w.heap.size, 1, none⟩ (.int .i64 u.n)).setCell ⟨w.heap.size, 2, none⟩ (.slice F u.l.length cF)).setCell ⟨w.heap.size + 1 + 1, 0, none⟩ (.int .i64 u.k)).setCell ⟨w.heap.size + 1 + 1, 1, none⟩ (.int .i64 u.n)).setCell ⟨w.heap.size + 1 + 1, 2, none⟩ (.slice F u.l.length cF)).alloc (.cells #[.int .i64 u.k, .int .i64 u.n, .slice F u.l.length cF] 25) = V := ⟨_, rfl⟩
  rw [hV] at HwV HrV HMV HUPV HUV hzV ⊢
  have H0V := Lib.hid (HH0.out.trans (HUPV.out.below hw0 HH0.out.size))
  clear hV t0 t1 t2 o0 o1 o2 hft hfw
  refine (wredex_no P u F cF V (HP0.out.over H0V.out) (TermIn.imp (fun _ _ _ => rfl) (fun b hb => ⟨Nat.zero_le _, by have := hb.2; omega⟩) HUV.out) HBT.out.us (HS0'.out.kept H0V.out) HBT.out.uk).mono ?_
  rintro e w4 ⟨rfl, hb4⟩
  have HB4 := Lib.hid hb4
  have Hw4 := Lib.hid (HwV.out.below hb4 HwV.out.lt)
  have Hr4 := Lib.hid (HrV.out.below hb4 HrV.out.lt)
  have HM4 := Lib.hid (HMV.out.over hb4)
  have HUP4 := Lib.hid (HUPV.out.trans (Up.of hb4))
  have HU4 := Lib.hid (TermIn.imp (P' := fun b => w2.heap.size ≤ b ∧ b < w4.heap.size) (fun b o hb => hb4.cell (p := ⟨b, o, none⟩) (by show b < V.heap.size; have := hb.2; omega)) (fun b hb => ⟨hb.1, by have h1 := hb.2; have h2 := hb4.size; omega⟩) HUV.out)
  have hlt4 := Hr4.out.lt
  have hltw4 := Hw4.out.lt
  have hfr : ∀ q, w4.frozen? ⟨w.heap.size + 1, q, none⟩ = false := fun q => Hr4.out.cold q
  have r0 : w4.cell? ⟨w.heap.size + 1, 0, none⟩ = some (.int .i64 0) := Hr4.out.cell 0
  have r1 : w4.cell? ⟨w.heap.size + 1, 1, none⟩ = some (.int .i64 0) := Hr4.out.cell 1
  have r2 : w4.cell? ⟨w.heap.size + 1, 2, none⟩ = some (.slice none 0 0) := Hr4.out.cell 2
  have o0 : w4.cell? ⟨w.heap.size + 1 + 1, 0, none⟩ = some (.int .i64 u.k) := Hw4.out.cell 0
  have o1 : w4.cell? ⟨w.heap.size + 1 + 1, 1, none⟩ = some (.int .i64 u.n) := Hw4.out.cell 1
  have o2 : w4.cell? ⟨w.heap.size + 1 + 1, 2, none⟩ = some (.slice F u.l.length cF) := Hw4.out.cell 2
  clear hb4
  have B5 := (((Hr4.out.at_ 0 (.int .i64 u.k)).at_ 1 (.int .i64 u.n)).at_ 2 (.slice F u.l.length cF)).al (.cells #[.int .i64 0, .int .i64 0, .slice none 0 0, .slice none 0 0, .slice none 0 0] 97)
  have HS0 := Lib.hid (B5.cell 0)
  have HS1 := Lib.hid (B5.cell 1)
  have HS2 := Lib.hid (B5.cell 2)
  clear B5
  go_wp2_with fail
  rw [Exit.noGoto_ret]
  refine bodyPost_ret (v := .tuple #[.agg #[.int .i64 u.k, .int .i64 u.n, .slice F u.l.length cF], .int .i64 0]) (by simp [results, Tryz.results56, go_sem, HS0.out, HS1.out, HS2.out]) rfl ?_
  have q := TermIn.three (g := w.heap.size + 1) HU4.out (fun b hb => by have := hb.1; omega) (.int .i64 u.k) (.int .i64 u.n) (.slice F u.l.length cF)
  refine ⟨F, cF, rfl, TermIn.imp (fun b o hb => ((Below.refl _ _).alloc (Nat.le_refl _) _).cell (p := ⟨b, o, none⟩) (by have := hb.2; simpa [World.setCell] using this)) (fun b hb => ⟨by have := hb.1; omega, by have := hb.2; simp [World.setCell]; omega⟩) q, ?_, ?_⟩
  · exact (((HM4.out.far (a := ⟨w.heap.size + 1, 0, none⟩) (by show gf ≠ w.heap.size + 1; omega) _).far (a := ⟨w.heap.size + 1, 1, none⟩) (by show gf ≠ w.heap.size + 1; omega) _).far (a := ⟨w.heap.size + 1, 2, none⟩) (by show gf ≠ w.heap.size + 1; omega) _).alloc _
  · exact (Up.st (q := 2) (Up.st (q := 1) (Up.st (q := 0) HUP4.out (g := w.heap.size + 1) (by omega) _) (g := w.heap.size + 1) (by omega) _) (g := w.heap.size + 1) (by omega) _).al _


end Go.Proofs.YtchllgkgjompgaaGreatDoor
