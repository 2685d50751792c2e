import Derived.Test.YtchllgkgjompgaaGreatDoorR4
import Derived.Test.YtchllgkgjompgaaGreatDoorSApply
import Derived.Test.YtchllgkgjompgaaGreatDoorMe
import Derived.Deep.RegionHeld3
import Derived.Test.YtchllgkgjompgaaGreatDoorS7
namespace Go.Proofs.YtchllgkgjompgaaGreatDoor
open Go.RowKit
set_option linter.unusedVariables false
set_option maxRecDepth 100000

def zEnt : Value := .agg #[.int .i64 0, .string ⟨#[]⟩, .int .i64 0, .int .i64 0, .slice none 0 0, .int .i64 0, .int .i64 0, .slice none 0 0, .int .i64 0, .int .i64 0, .int .i64 0, .int .i64 0, .int .i64 0, .slice none 0 0, .slice none 0 0]
/-- A machine without entries, at a block. -/
def NilM (w : World) (g : Nat) : Prop := ∃ E ce R, Bk w g 95 #[.slice E 0 ce, .pointer R]
theorem NilM.below {w w' : World} {g B : Nat} (h : NilM w g) (hb : Below B w w') (hg : g < B) : NilM w' g := by
  obtain ⟨E, ce, R, hk⟩ := h
  exact ⟨E, ce, R, hk.below hb hg⟩
theorem NilM.lt {w : World} {g : Nat} (h : NilM w g) : g < w.heap.size := by
  obtain ⟨E, ce, R, hk⟩ := h
  exact hk.lt
theorem NilM.over {w w' : World} {g : Nat} (h : NilM w g) (hb : Below w.heap.size w w') : NilM w' g := h.below hb h.lt

theorem wlen_none (w : World) : Calls Tryz.prog 102 #[.pointer none] w fun e w' => e = .returned (.int .i64 0) ∧ w = w' := by
  go_enter Tryz.func102, Tryz.ntmps102
  go_wp2_with fail
  go_ret
  exact ⟨rfl, rfl⟩
theorem wlen_zero (g : Nat) (w : World) (h : NilM w g) : Calls Tryz.prog 102 #[.pointer (some ⟨g, 0, none⟩)] w fun e w' => e = .returned (.int .i64 0) ∧ w = w' := by
  obtain ⟨E, ce, R, hk⟩ := h
  have c0 : w.cell? ⟨g, 0, none⟩ = some (.slice E 0 ce) := hk.cell 0
  clear hk
  go_enter Tryz.func102, Tryz.ntmps102
  go_wp2_with fail
  go_ret
  exact ⟨rfl, rfl⟩
/-- A machine that has no entries: nil, or empty. -/
def NoEnt (w : World) (P : Option Addr) : Prop := P = none ∨ ∃ g, P = some ⟨g, 0, none⟩ ∧ NilM w g
theorem NoEnt.over {w w' : World} {P : Option Addr} (h : NoEnt w P) (hb : Below w.heap.size w w') : NoEnt w' P := by
  rcases h with h | ⟨g, h1, h2⟩
  · exact .inl h
  · exact .inr ⟨g, h1, h2.over hb⟩
theorem wlen_no (P : Option Addr) (w : World) (h : NoEnt w P) : Calls Tryz.prog 102 #[.pointer P] w fun e w' => e = .returned (.int .i64 0) ∧ w = w' := by
  rcases h with rfl | ⟨g, rfl, h⟩
  · exact wlen_none w
  · exact wlen_zero g w h
theorem wentry_no (P : Option Addr) (n : Int) (w : World) (h : NoEnt w P) : Calls Tryz.prog 81 #[.pointer P, .int .i64 n] w fun e w' => e = .returned zEnt ∧ Below w.heap.size w w' := by
  have CL := Lib.hid (fun (V : World) (hV : Below w.heap.size w V) => wlen_no P V (h.over hV))
  have HB := Lib.hid (Below.refl w.heap.size w)
  unfold zEnt
  clear h
  by_cases h0 : n < 0
  · have t0 : decide (n < 0) = true := decide_eq_true h0
    clear h0
    go_enter Tryz.func81, Tryz.ntmps81
    go_wp2_with fail
    refine bodyPost_ret (v := .agg #[.int .i64 0, .string ⟨#[]⟩, .int .i64 0, .int .i64 0, .slice none 0 0, .int .i64 0, .int .i64 0, .slice none 0 0, .int .i64 0, .int .i64 0, .int .i64 0, .int .i64 0, .int .i64 0, .slice none 0 0, .slice none 0 0]) (by simp [results, Tryz.results81, go_sem]) rfl ?_
    exact ⟨rfl, HB.out.alloc (Nat.le_refl _) _⟩
  · have t0 : decide (n < 0) = false := decide_eq_false h0
    have t1 : decide (n ≥ 0) = true := decide_eq_true (by omega)
    have t1' : decide (0 ≤ n) = true := decide_eq_true (by omega)
    clear h0
    go_enter Tryz.func81, Tryz.ntmps81
    go_wp2_with fail
    refine (CL.out _ (HB.out.alloc (Nat.le_refl _) _)).mono ?_
    rintro e w1 ⟨rfl, rfl⟩
    go_wp2_with fail
    refine bodyPost_ret (v := .agg #[.int .i64 0, .string ⟨#[]⟩, .int .i64 0, .int .i64 0, .slice none 0 0, .int .i64 0, .int .i64 0, .slice none 0 0, .int .i64 0, .int .i64 0, .int .i64 0, .int .i64 0, .int .i64 0, .slice none 0 0, .slice none 0 0]) (by simp [results, Tryz.results81, go_sem]) rfl ?_
    exact ⟨rfl, HB.out.alloc (Nat.le_refl _) _⟩

/-- How many arguments a step takes with a head: none but a function has a step. -/
def takesX (k : Int) : Int × Bool := if k = 4 then (1, true) else (0, false)
set_option maxHeartbeats 1000000 in
theorem wtakes_no (P : Option Addr) (k n : Int) (A : Option Addr) (m cap : Nat) (w : World) (h : NoEnt w P) : Calls Tryz.prog 79 #[.pointer P, .agg #[.int .i64 k, .int .i64 n, .slice A m cap]] w fun e w' => e = .returned (.tuple #[.int .i64 (takesX k).1, .bool (takesX k).2]) ∧ Below w.heap.size w w' := by
  obtain ⟨X, hX⟩ : ∃ X, w.alloc (.cells #[.int .i64 k, .int .i64 n, .slice A m cap] 25) = X := ⟨_, rfl⟩
  have HBX := Lib.hid (show Below w.heap.size w X from by rw [← hX]; exact (Below.refl _ _).alloc (Nat.le_refl _) _)
  have HKX := Lib.hid (show Bk X w.heap.size 25 #[.int .i64 k, .int .i64 n, .slice A m cap] from by rw [← hX]; exact Bk.new _ _ _)
  have CE := Lib.hid (wentry_no P n X (h.over HBX.out))
  have x1 : X.cell? ⟨w.heap.size, 1, none⟩ = some (.int .i64 n) := HKX.out.cell 1
  obtain ⟨x, y, hxy⟩ : ∃ x y, takesX k = (x, y) := ⟨_, _, rfl⟩
  have HX := Lib.hid hxy
  rw [hxy]
  unfold zEnt at CE
  clear h hxy
  by_cases h4 : k = 4
  · have t4 : (k == 4) = true := by simpa using h4
    obtain ⟨rfl, rfl⟩ : (1 : Int) = x ∧ true = y := by have := HX.out; simpa [takesX, h4] using this
    clear h4
    go_enter Tryz.func79, Tryz.ntmps79
    go_wp2_with fail
    refine CE.out.mono ?_
    rintro e w1 ⟨rfl, hb1⟩
    have HB1 := Lib.hid (HBX.out.trans (hb1.mono HBX.out.size))
    have K1 := HKX.out.below hb1 HKX.out.lt
    have hlt := K1.lt
    have k0 : w1.cell? ⟨w.heap.size, 0, none⟩ = some (.int .i64 k) := K1.cell 0
    clear K1 hb1 x1 hX
    go_wp2_with fail
    go_ret2
    exact ⟨rfl, HB1.out.alloc HB1.out.size _⟩
  have t4 : (k == 4) = false := by simpa using h4
  obtain ⟨rfl, rfl⟩ : (0 : Int) = x ∧ false = y := by have := HX.out; simpa [takesX, h4] using this
  clear h4
  by_cases h6 : k = 6
  · have t6 : (k == 6) = true := by simpa using h6
    have t7 : (k == 7) = false := by subst h6; rfl
    clear h6
    go_enter Tryz.func79, Tryz.ntmps79
    go_wp2_with fail
    refine CE.out.mono ?_
    rintro e w1 ⟨rfl, hb1⟩
    have HB1 := Lib.hid (HBX.out.trans (hb1.mono HBX.out.size))
    have K1 := HKX.out.below hb1 HKX.out.lt
    have hlt := K1.lt
    have k0 : w1.cell? ⟨w.heap.size, 0, none⟩ = some (.int .i64 k) := K1.cell 0
    clear K1 hb1 x1 hX
    go_wp2_with fail
    go_ret2
    exact ⟨rfl, HB1.out.alloc HB1.out.size _⟩
  have t6 : (k == 6) = false := by simpa using h6
  clear h6
  by_cases h7 : k = 7
  · have t7 : (k == 7) = true := by simpa using h7
    clear h7
    go_enter Tryz.func79, Tryz.ntmps79
    go_wp2_with fail
    refine CE.out.mono ?_
    rintro e w1 ⟨rfl, hb1⟩
    have HB1 := Lib.hid (HBX.out.trans (hb1.mono HBX.out.size))
    have K1 := HKX.out.below hb1 HKX.out.lt
    have hlt := K1.lt
    have k0 : w1.cell? ⟨w.heap.size, 0, none⟩ = some (.int .i64 k) := K1.cell 0
    clear K1 hb1 x1 hX
    go_wp2_with fail
    go_ret2
    exact ⟨rfl, HB1.out.alloc HB1.out.size _⟩
  have t7 : (k == 7) = false := by simpa using h7
  clear h7
  go_enter Tryz.func79, Tryz.ntmps79
  go_wp2_with fail
  refine CE.out.mono ?_
  rintro e w1 ⟨rfl, hb1⟩
  have HB1 := Lib.hid (HBX.out.trans (hb1.mono HBX.out.size))
  have K1 := HKX.out.below hb1 HKX.out.lt
  have hlt := K1.lt
  have k0 : w1.cell? ⟨w.heap.size, 0, none⟩ = some (.int .i64 k) := K1.cell 0
  clear K1 hb1 x1 hX
  go_wp2_with fail
  go_ret2
  exact ⟨rfl, HB1.out.alloc HB1.out.size _⟩


theorem Bk.noRdx {w : World} {g : Nat} {e : TypeId} (h : Bk w g e #[.int .i64 0, .int .i64 0, .slice none 0 0, .slice none 0 0, .slice none 0 0]) : ∀ o k, w.cell? ⟨g, o, none⟩ = some (.int .i64 k) → k = 0 ∨ ∀ q, w.cell? ⟨g, o + 1, none⟩ ≠ some (.int .i64 q) := by
  intro o k hk
  rw [h.cell] at hk
  match o, hk with
  | 0, hk => left; injection hk with hk; injection hk with _ hk; exact hk.symm
  | 1, hk => left; injection hk with hk; injection hk with _ hk; exact hk.symm
  | 2, hk => injection hk with hk; cases hk
  | 3, hk => injection hk with hk; cases hk
  | 4, hk => injection hk with hk; cases hk
  | o + 5, hk => simp at hk
theorem TermIn.setAt {w : World} {P : Nat → Prop} {g q : Nat} {t : TM} {A : Option Addr} {cap : Nat} (h : TermIn w P t A cap) (hg : ∀ b, P b → b ≠ g) (u : Value) : TermIn (w.setCell ⟨g, q, none⟩ u) P t A cap :=
  h.imp (fun b o hb => World.cell?_setCell_other w ⟨g, q, none⟩ ⟨b, o, none⟩ u (fun e => hg b hb (by injection e with e; exact e.symm))) (fun _ hb => hb)
theorem TermIn.five {w : World} {lo hi g : Nat} {t : TM} {A : Option Addr} {cap : Nat} (h : TermIn w (fun b => (lo ≤ b ∧ b < hi) ∧ b ≠ g) t A cap) (hh : hi ≤ w.heap.size) (u0 u1 u2 u3 u4 : Value) :
    IsTerm (((((w.setCell ⟨g, 0, none⟩ u0).setCell ⟨g, 1, none⟩ u1).setCell ⟨g, 2, none⟩ u2).setCell ⟨g, 3, none⟩ u3).setCell ⟨g, 4, none⟩ u4).drew 0 (((((w.setCell ⟨g, 0, none⟩ u0).setCell ⟨g, 1, none⟩ u1).setCell ⟨g, 2, none⟩ u2).setCell ⟨g, 3, none⟩ u3).setCell ⟨g, 4, none⟩ u4).drew.heap.size t A cap := by
  have h5 := ((((h.setAt (q := 0) (fun _ hb => hb.2) u0).setAt (q := 1) (fun _ hb => hb.2) u1).setAt (q := 2) (fun _ hb => hb.2) u2).setAt (q := 3) (fun _ hb => hb.2) u3).setAt (q := 4) (fun _ hb => hb.2) u4
  have hsz : (((((w.setCell ⟨g, 0, none⟩ u0).setCell ⟨g, 1, none⟩ u1).setCell ⟨g, 2, none⟩ u2).setCell ⟨g, 3, none⟩ u3).setCell ⟨g, 4, none⟩ u4).heap.size = w.heap.size := by simp [World.setCell]
  obtain ⟨W, hW⟩ : ∃ W, (((((w.setCell ⟨g, 0, none⟩ u0).setCell ⟨g, 1, none⟩ u1).setCell ⟨g, 2, none⟩ u2).setCell ⟨g, 3, none⟩ u3).setCell ⟨g, 4, none⟩ u4) = W := ⟨_, rfl⟩
  rw [hW] at h5 hsz ⊢
  have h6 : IsTerm W 0 W.heap.size t A cap := TermIn.imp (fun _ _ _ => rfl) (fun b hb => ⟨Nat.zero_le _, by have := hb.1.2; omega⟩) h5
  exact h6.kept (Below.refl W.heap.size W).drew (Nat.le_refl _)
/-- No step at the head. -/
def NoRedex (w : World) (e : Ending) (w' : World) : Prop := e = .returned (.tuple #[.agg #[.int .i64 0, .int .i64 0, .slice none 0 0, .slice none 0 0, .slice none 0 0], .bool false]) ∧ Below w.heap.size w w'
/-- A function with one argument. -/
def LamRedex (t x : TM) (w : World) (e : Ending) (w' : World) : Prop :=
  ∃ A c B d Br dr, e = .returned (.tuple #[.agg #[.int .i64 (headT t).k, .int .i64 (headT t).n, .slice A (headT t).l.length c, .slice B 1 d, .slice Br 0 dr], .bool true]) ∧ IsTerm w' 0 w'.heap.size (headT t) A c ∧ IsTerms w' 0 w'.heap.size [x] B d ∧ dr ≤ maxLen ∧ Below w.heap.size w w'

set_option maxHeartbeats 1000000 in
theorem wredex_lam (P : Option Addr) (t x : TM) (A : Option Addr) (cap : Nat) (w : World) (h : NoEnt w P) (ht : IsTerm w 0 w.heap.size t A cap) (hs : shapedB t = true) (hS : ShapesM w) (hk : (headT t).k = 4) (hx : argsT t = [x]) (hgh : ∀ u ∈ (headT t).l, tgoodB u = true) (hgx : tgoodB x = true) :
    Calls Tryz.prog 53 #[.pointer P, termV t A cap] w (LamRedex t x w) := by
  obtain ⟨q1, q2, q3⟩ := shapedB_true.1 hs
  have HP := Lib.hid (fun (V : World) (hV : Below w.heap.size w V) => (show NoEnt V P from h.over hV))
  have CS := Lib.hid (fun (V : World) (hV : Below w.heap.size w V) => spine_any t 0 w.heap.size A cap V (ht.kept hV (Nat.le_refl _)) hV.size (hS.kept hV) q3 q1 (by omega))
  obtain ⟨H, hH⟩ : ∃ H, headT t = H := ⟨_, rfl⟩
  unfold LamRedex
  rw [hH] at hk hgh ⊢
  unfold GivesSp termV at CS
  rw [hH, hx] at CS
  have CT := Lib.hid (fun (B : Option Addr) (m c : Nat) (V : World) (hV : Below w.heap.size w V) => wtakes_no P 4 H.n B m c V (HP.out V hV))
  unfold takesX at CT
  rw [if_pos rfl] at CT
  obtain ⟨hkk, hn, hl⟩ : ∃ a b c, a = H.k ∧ b = H.n ∧ c = H.l.length := ⟨_, _, _, rfl, rfl, rfl⟩
  unfold termV
  obtain ⟨X, hX⟩ : ∃ X, (w.alloc (.cells #[.int .i64 t.k, .int .i64 t.n, .slice A t.l.length cap] 25)).alloc (.cells #[.int .i64 0, .int .i64 0, .slice none 0 0, .slice none 0 0, .slice none 0 0] 97) = X := ⟨_, rfl⟩
  have HBX := Lib.hid (show Below w.heap.size w X from by rw [← hX]; exact ((Below.refl _ _).alloc (Nat.le_refl _) _).alloc (by simp) _)
  have HKX := Lib.hid (show Bk X (w.heap.size + 1) 97 #[.int .i64 0, .int .i64 0, .slice none 0 0, .slice none 0 0, .slice none 0 0] from by rw [← hX]; exact Bk.last _ _ _ (by simp))
  have HKT := Lib.hid (show Bk X w.heap.size 25 #[.int .i64 t.k, .int .i64 t.n, .slice A t.l.length cap] from by rw [← hX]; exact (Bk.new _ _ _).alloc _)
  have x0 : X.cell? ⟨w.heap.size, 0, none⟩ = some (.int .i64 t.k) := HKT.out.cell 0
  have x1 : X.cell? ⟨w.heap.size, 1, none⟩ = some (.int .i64 t.n) := HKT.out.cell 1
  have x2 : X.cell? ⟨w.heap.size, 2, none⟩ = some (.slice A t.l.length cap) := HKT.out.cell 2
  clear h ht hs hS q1 q2 q3 hx hH
  go_enter Tryz.func53, Tryz.ntmps53
  go_wp2_with fail
  refine (CS.out _ HBX.out).mono ?_
  rintro e w1 ⟨A1, c1, B1, d1, rfl, ht1, ha1, hb1⟩
  have HB1 := Lib.hid (HBX.out.trans (hb1.mono HBX.out.size))
  have HK1 := Lib.hid (HKX.out.below hb1 HKX.out.lt)
  have HT1 := Lib.hid (TermIn.avoid HK1.out.noRdx ht1 hgh)
  have HA1 := Lib.hid (TermIn.avoid HK1.out.noRdx ha1 (fun u hu => by obtain rfl : u = x := by simpa [TM.l] using hu
                                                                      exact hgx))
  obtain ⟨had, hdm⟩ := ha1.bounds
  have hd1 : (1 : Int) ≤ (d1 : Int) := by simp at had; omega
  have HDM := Lib.hid hdm
  obtain ⟨bb, oo, -, -, hBs, -, -, -, -⟩ := ha1.sub 0 (by simp)
  subst hBs
  clear ht1 ha1 hb1 hX had hdm x0 x1 x2
  go_wp2_with fail
  obtain ⟨Y, hY⟩ : ∃ Y, w1.alloc (.cells #[.int .i64 4, .int .i64 H.n, .slice A1 H.l.length c1] 25) = Y := ⟨_, rfl⟩
  have HBY0 := Lib.hid (show Below w1.heap.size w1 Y from by rw [← hY]; exact (Below.refl _ _).alloc (Nat.le_refl _) _)
  have HBY := Lib.hid (HB1.out.trans (HBY0.out.mono HB1.out.size))
  have HKY := Lib.hid (show Bk Y w1.heap.size 25 #[.int .i64 4, .int .i64 H.n, .slice A1 H.l.length c1] from by rw [← hY]; exact Bk.new _ _ _)
  have y0 : Y.cell? ⟨w1.heap.size, 0, none⟩ = some (.int .i64 4) := HKY.out.cell 0
  have y1 : Y.cell? ⟨w1.heap.size, 1, none⟩ = some (.int .i64 H.n) := HKY.out.cell 1
  have y2 : Y.cell? ⟨w1.heap.size, 2, none⟩ = some (.slice A1 H.l.length c1) := HKY.out.cell 2
  have hzY := HBY0.out.size
  rw [hY]
  refine (CT.out _ _ _ _ HBY.out).mono ?_
  rintro e w2 ⟨rfl, hb2⟩
  have HB2 := Lib.hid (HBY.out.trans (hb2.mono HBY.out.size))
  have HB12 := Lib.hid (HBY0.out.trans (hb2.mono HBY0.out.size))
  have HKR := Lib.hid ((HK1.out.below HBY0.out HK1.out.lt).below hb2 (by have := HK1.out.lt; omega))
  have HKH := Lib.hid (HKY.out.below hb2 HKY.out.lt)
  have HLT := Lib.hid HKH.out.lt
  have h0 : w2.cell? ⟨w1.heap.size, 0, none⟩ = some (.int .i64 4) := HKH.out.cell 0
  have h1 : w2.cell? ⟨w1.heap.size, 1, none⟩ = some (.int .i64 H.n) := HKH.out.cell 1
  have h2 : w2.cell? ⟨w1.heap.size, 2, none⟩ = some (.slice A1 H.l.length c1) := HKH.out.cell 2
  have hfz : ∀ q, w2.frozen? ⟨w.heap.size + 1, q, none⟩ = false := fun q => HKR.out.cold q
  clear y0 y1 y2 hY hb2 hzY
  go_wp2_with fail
  have HS := Lib.hid (show w2.cell? ⟨w1.heap.size, 0, none⟩ = some (.int .i64 4) ∧ w2.cell? ⟨w1.heap.size, 1, none⟩ = some (.int .i64 H.n) ∧ w2.cell? ⟨w1.heap.size, 2, none⟩ = some (.slice A1 H.l.length c1) from ⟨h0, h1, h2⟩)
  have B5 := ((((HKR.out.at_ 0 (.int .i64 4)).at_ 1 (.int .i64 H.n)).at_ 2 (.slice A1 H.l.length c1)).at_ 3 (.slice (some ⟨bb, oo, none⟩) 1 d1))
  have hltz : w.heap.size + 1 < w1.heap.size := HK1.out.lt
  have hltz2 : w.heap.size + 1 < w2.heap.size := HKR.out.lt
  have r0 : w2.cell? ⟨w.heap.size + 1, 0, none⟩ = some (.int .i64 0) := HKR.out.cell 0
  have r1 : w2.cell? ⟨w.heap.size + 1, 1, none⟩ = some (.int .i64 0) := HKR.out.cell 1
  have r2 : w2.cell? ⟨w.heap.size + 1, 2, none⟩ = some (.slice none 0 0) := HKR.out.cell 2
  have r3 : w2.cell? ⟨w.heap.size + 1, 3, none⟩ = some (.slice none 0 0) := HKR.out.cell 3
  have r4 : w2.cell? ⟨w.heap.size + 1, 4, none⟩ = some (.slice none 0 0) := HKR.out.cell 4
  by_cases hcq : d1 = 1
  · subst hcq
    go_region
    all_goals
      have B5 := ((((HKR.out.at_ 0 (.int .i64 4)).at_ 1 (.int .i64 H.n)).at_ 2 (.slice A1 H.l.length c1)).at_ 3 (.slice (some ⟨bb, oo, none⟩) 1 1)).at_ 4 (.slice (some ⟨bb, oo, none⟩) 0 0)
      have HS0 := Lib.hid (B5.cell 0)
      have HS1 := Lib.hid (B5.cell 1)
      have HS2 := Lib.hid (B5.cell 2)
      have HS3 := Lib.hid (B5.cell 3)
      have HS4 := Lib.hid (B5.cell 4)
      clear B5
      go_wp2_with fail
      refine bodyPost_ret (v := .tuple #[.agg #[.int .i64 4, .int .i64 H.n, .slice A1 H.l.length c1, .slice (some ⟨bb, oo, none⟩) 1 1, .slice (some ⟨bb, oo, none⟩) 0 0], .bool true]) (by simp [results, Tryz.results53, go_sem, HS0.out, HS1.out, HS2.out, HS3.out, HS4.out]) rfl ?_
      have e1 := TermIn.imp (P' := fun b => (0 ≤ b ∧ b < w1.heap.size) ∧ b ≠ w.heap.size + 1) (fun b o hb => HB12.out.cell (p := ⟨b, o, none⟩) hb.1.2) (fun b hb => hb) HT1.out
      have e2 := TermIn.imp (P' := fun b => (0 ≤ b ∧ b < w1.heap.size) ∧ b ≠ w.heap.size + 1) (fun b o hb => HB12.out.cell (p := ⟨b, o, none⟩) hb.1.2) (fun b hb => hb) HA1.out
      exact ⟨A1, c1, (some ⟨bb, oo, none⟩), 1, (some ⟨bb, oo, none⟩), 0, by first | rfl | rw [hk], e1.five HB12.out.size _ _ _ _ _, e2.five HB12.out.size _ _ _ _ _, by have := HDM.out; omega, (((((HB2.out.setCell (by simp) _).setCell (by simp) _).setCell (by simp) _).setCell (by simp) _).setCell (by simp) _).drew⟩
  · have hcq2 : d1 - 1 = (d1 - 1 : Nat) := rfl
    go_region
    all_goals
      have B5 := ((((HKR.out.at_ 0 (.int .i64 4)).at_ 1 (.int .i64 H.n)).at_ 2 (.slice A1 H.l.length c1)).at_ 3 (.slice (some ⟨bb, oo, none⟩) 1 d1)).at_ 4 (.slice (some ⟨bb, oo + 3, none⟩) 0 (d1 - 1))
      have HS0 := Lib.hid (B5.cell 0)
      have HS1 := Lib.hid (B5.cell 1)
      have HS2 := Lib.hid (B5.cell 2)
      have HS3 := Lib.hid (B5.cell 3)
      have HS4 := Lib.hid (B5.cell 4)
      clear B5
      go_wp2_with fail
      refine bodyPost_ret (v := .tuple #[.agg #[.int .i64 4, .int .i64 H.n, .slice A1 H.l.length c1, .slice (some ⟨bb, oo, none⟩) 1 d1, .slice (some ⟨bb, oo + 3, none⟩) 0 (d1 - 1)], .bool true]) (by simp [results, Tryz.results53, go_sem, HS0.out, HS1.out, HS2.out, HS3.out, HS4.out]) rfl ?_
      have e1 := TermIn.imp (P' := fun b => (0 ≤ b ∧ b < w1.heap.size) ∧ b ≠ w.heap.size + 1) (fun b o hb => HB12.out.cell (p := ⟨b, o, none⟩) hb.1.2) (fun b hb => hb) HT1.out
      have e2 := TermIn.imp (P' := fun b => (0 ≤ b ∧ b < w1.heap.size) ∧ b ≠ w.heap.size + 1) (fun b o hb => HB12.out.cell (p := ⟨b, o, none⟩) hb.1.2) (fun b hb => hb) HA1.out
      exact ⟨A1, c1, (some ⟨bb, oo, none⟩), d1, (some ⟨bb, oo + 3, none⟩), (d1 - 1), by first | rfl | rw [hk], e1.five HB12.out.size _ _ _ _ _, e2.five HB12.out.size _ _ _ _ _, by have := HDM.out; omega, (((((HB2.out.setCell (by simp) _).setCell (by simp) _).setCell (by simp) _).setCell (by simp) _).setCell (by simp) _).drew⟩

set_option maxHeartbeats 1000000 in
theorem wredex_no (P : Option Addr) (t : TM) (A : Option Addr) (cap : Nat) (w : World) (h : NoEnt w P) (ht : IsTerm w 0 w.heap.size t A cap) (hs : shapedB t = true) (hS : ShapesM w) (hk : (headT t).k ≠ 4) :
    Calls Tryz.prog 53 #[.pointer P, termV t A cap] w (NoRedex w) := by
  obtain ⟨q1, q2, q3⟩ := shapedB_true.1 hs
  have HP := Lib.hid (fun (V : World) (hV : Below w.heap.size w V) => (show NoEnt V P from h.over hV))
  have CS := Lib.hid (fun (V : World) (hV : Below w.heap.size w V) => spine_any t 0 w.heap.size A cap V (ht.kept hV (Nat.le_refl _)) hV.size (hS.kept hV) q3 q1 (by omega))
  obtain ⟨H, hH⟩ : ∃ H, headT t = H := ⟨_, rfl⟩
  unfold NoRedex
  rw [hH] at hk
  unfold GivesSp termV at CS
  rw [hH] at CS
  have CT := Lib.hid (fun (B : Option Addr) (m c : Nat) (V : World) (hV : Below w.heap.size w V) => wtakes_no P H.k H.n B m c V (HP.out V hV))
  unfold takesX at CT
  rw [if_neg hk] at CT
  obtain ⟨hkk, hn, hl⟩ : ∃ a b c, a = H.k ∧ b = H.n ∧ c = H.l.length := ⟨_, _, _, rfl, rfl, rfl⟩
  unfold termV
  obtain ⟨X, hX⟩ : ∃ X, (w.alloc (.cells #[.int .i64 t.k, .int .i64 t.n, .slice A t.l.length cap] 25)).alloc (.cells #[.int .i64 0, .int .i64 0, .slice none 0 0, .slice none 0 0, .slice none 0 0] 97) = X := ⟨_, rfl⟩
  have HBX := Lib.hid (show Below w.heap.size w X from by rw [← hX]; exact ((Below.refl _ _).alloc (Nat.le_refl _) _).alloc (by simp) _)
  have HKX := Lib.hid (show Bk X (w.heap.size + 1) 97 #[.int .i64 0, .int .i64 0, .slice none 0 0, .slice none 0 0, .slice none 0 0] from by rw [← hX]; exact Bk.last _ _ _ (by simp))
  have HKT := Lib.hid (show Bk X w.heap.size 25 #[.int .i64 t.k, .int .i64 t.n, .slice A t.l.length cap] from by rw [← hX]; exact (Bk.new _ _ _).alloc _)
  have x0 : X.cell? ⟨w.heap.size, 0, none⟩ = some (.int .i64 t.k) := HKT.out.cell 0
  have x1 : X.cell? ⟨w.heap.size, 1, none⟩ = some (.int .i64 t.n) := HKT.out.cell 1
  have x2 : X.cell? ⟨w.heap.size, 2, none⟩ = some (.slice A t.l.length cap) := HKT.out.cell 2
  clear h ht hs hS q1 q2 q3 hH
  go_enter Tryz.func53, Tryz.ntmps53
  go_wp2_with fail
  refine (CS.out _ HBX.out).mono ?_
  rintro e w1 ⟨A1, c1, B1, d1, rfl, ht1, ha1, hb1⟩
  have HB1 := Lib.hid (HBX.out.trans (hb1.mono HBX.out.size))
  have HK1 := Lib.hid (HKX.out.below hb1 HKX.out.lt)
  clear ht1 ha1 hb1 hX x0 x1 x2
  go_wp2_with fail
  obtain ⟨Y, hY⟩ : ∃ Y, w1.alloc (.cells #[.int .i64 H.k, .int .i64 H.n, .slice A1 H.l.length c1] 25) = Y := ⟨_, rfl⟩
  have HBY0 := Lib.hid (show Below w1.heap.size w1 Y from by rw [← hY]; exact (Below.refl _ _).alloc (Nat.le_refl _) _)
  have HBY := Lib.hid (HB1.out.trans (HBY0.out.mono HB1.out.size))
  have HKY := Lib.hid (show Bk Y w1.heap.size 25 #[.int .i64 H.k, .int .i64 H.n, .slice A1 H.l.length c1] from by rw [← hY]; exact Bk.new _ _ _)
  have y0 : Y.cell? ⟨w1.heap.size, 0, none⟩ = some (.int .i64 H.k) := HKY.out.cell 0
  have y1 : Y.cell? ⟨w1.heap.size, 1, none⟩ = some (.int .i64 H.n) := HKY.out.cell 1
  have y2 : Y.cell? ⟨w1.heap.size, 2, none⟩ = some (.slice A1 H.l.length c1) := HKY.out.cell 2
  have hzY := HBY0.out.size
  rw [hY]
  refine (CT.out _ _ _ _ HBY.out).mono ?_
  rintro e w2 ⟨rfl, hb2⟩
  have HB2 := Lib.hid (HBY.out.trans (hb2.mono HBY.out.size))
  have HB12 := Lib.hid (HBY0.out.trans (hb2.mono HBY0.out.size))
  have HKR := Lib.hid ((HK1.out.below HBY0.out HK1.out.lt).below hb2 (by have := HK1.out.lt; omega))
  have HKH := Lib.hid (HKY.out.below hb2 HKY.out.lt)
  have HLT := Lib.hid HKH.out.lt
  have h0 : w2.cell? ⟨w1.heap.size, 0, none⟩ = some (.int .i64 H.k) := HKH.out.cell 0
  have h1 : w2.cell? ⟨w1.heap.size, 1, none⟩ = some (.int .i64 H.n) := HKH.out.cell 1
  have h2 : w2.cell? ⟨w1.heap.size, 2, none⟩ = some (.slice A1 H.l.length c1) := HKH.out.cell 2
  have hfz : ∀ q, w2.frozen? ⟨w.heap.size + 1, q, none⟩ = false := fun q => HKR.out.cold q
  clear y0 y1 y2 hY hb2 hzY
  have hltz : w.heap.size + 1 < w1.heap.size := HK1.out.lt
  have hltz2 : w.heap.size + 1 < w2.heap.size := HKR.out.lt
  have r0 : w2.cell? ⟨w.heap.size + 1, 0, none⟩ = some (.int .i64 0) := HKR.out.cell 0
  have r1 : w2.cell? ⟨w.heap.size + 1, 1, none⟩ = some (.int .i64 0) := HKR.out.cell 1
  have r2 : w2.cell? ⟨w.heap.size + 1, 2, none⟩ = some (.slice none 0 0) := HKR.out.cell 2
  have r3 : w2.cell? ⟨w.heap.size + 1, 3, none⟩ = some (.slice none 0 0) := HKR.out.cell 3
  have r4 : w2.cell? ⟨w.heap.size + 1, 4, none⟩ = some (.slice none 0 0) := HKR.out.cell 4
  have B5 := ((((HKR.out.at_ 0 (.int .i64 0)).at_ 1 (.int .i64 0)).at_ 2 (.slice none 0 0)).at_ 3 (.slice none 0 0)).at_ 4 (.slice none 0 0)
  have HS0 := Lib.hid (B5.cell 0)
  have HS1 := Lib.hid (B5.cell 1)
  have HS2 := Lib.hid (B5.cell 2)
  have HS3 := Lib.hid (B5.cell 3)
  have HS4 := Lib.hid (B5.cell 4)
  clear B5
  go_wp2_with fail
  refine bodyPost_ret (v := .tuple #[.agg #[.int .i64 0, .int .i64 0, .slice none 0 0, .slice none 0 0, .slice none 0 0], .bool false]) (by simp [results, Tryz.results53, go_sem, HS0.out, HS1.out, HS2.out, HS3.out, HS4.out]) rfl ?_
  exact ⟨rfl, ((((HB2.out.setCell (by simp) _).setCell (by simp) _).setCell (by simp) _).setCell (by simp) _).setCell (by simp) _⟩


end Go.Proofs.YtchllgkgjompgaaGreatDoor
