/- The document's Got: a term, and whether it is too great: in memory, in rows; Fits, raised, done. -/
import Derived.Test.YtofmoggjpgjdgaaDoorUFair
import Derived.Test.YtofmoggjpgjdgaaDoorLMove
import Derived.Deep.RegionLaw
import Derived.Deep.RegionHeld3
namespace Go.Proofs.YtofmoggjpgjdgaaDoor
open Go.RowKit
set_option linter.unusedVariables false
set_option maxRecDepth 100000

abbrev GP := TM × Option Addr × Nat × Bool
def triG (p : GP) : TM × Option Addr × Nat := (p.1, p.2.1, p.2.2.1)
def cellsG (p : GP) : List Value := [.int .i64 p.1.k, .int .i64 p.1.n, .slice p.2.1 p.1.l.length p.2.2.1, .bool p.2.2.2]
def flatG (ps : List GP) : List Value := ps.flatMap cellsG
theorem flatG_snoc (ps : List GP) (p : GP) : flatG (ps ++ [p]) = flatG ps ++ cellsG p := by
  unfold flatG; rw [List.flatMap_append]; simp
theorem flatG_at : ∀ (ps : List GP) (j r : Nat) (h : j < ps.length), r < 4 → (flatG ps)[j * 4 + r]? = (cellsG ps[j])[r]?
  | p :: ps, 0, r, _, hr => by
    show (cellsG p ++ flatG ps)[0 * 4 + r]? = _
    rw [List.getElem?_append_left (by simp [cellsG]; omega)]
    simp
  | p :: ps, j + 1, r, h, hr => by
    show (cellsG p ++ flatG ps)[(j + 1) * 4 + r]? = _
    rw [List.getElem?_append_right (by simp [cellsG]; omega)]
    have e : (j + 1) * 4 + r - (cellsG p).length = j * 4 + r := by simp [cellsG]; omega
    rw [e, flatG_at ps j r (by simpa using h) hr]
    rfl
theorem cellsG_one (p : GP) : ∀ u ∈ cellsG p, u.oneCell' = true := by
  intro u hu
  simp [cellsG] at hu
  rcases hu with rfl | rfl | rfl | rfl <;> rfl
/-- A row of such, of the call's own, and the terms behind them, in other blocks. -/
structure GRow (w : World) (base : Nat) (v : Value) (ps : List GP) (P : Nat → Prop) : Prop where
  row : w.ownsRow base 75 4 v ps.length (flatG ps)
  far : ∀ b, P b → b < w.heap.size ∧ v.ownBlock ≠ some b
  node : ∀ p ∈ ps, TermIn w P p.1 p.2.1 p.2.2.1
theorem GRow.kept {w w' : World} {base : Nat} {v : Value} {ps : List GP} {P : Nat → Prop} (h : GRow w base v ps P) (hz : w.heap.size ≤ w'.heap.size)
    (hr : w'.ownsRow base 75 4 v ps.length (flatG ps)) (hc : ∀ b, P b → w'.heap[b]? = w.heap[b]?) : GRow w' base v ps P :=
  ⟨hr, fun b hb => ⟨Nat.lt_of_lt_of_le (h.far b hb).1 hz, (h.far b hb).2⟩, fun p hp => (h.node p hp).imp (fun b o hb => World.cell?_of_block (a := ⟨b, o, none⟩) (hc b hb)) (fun _ h => h)⟩
theorem GRow.below {w w' : World} {base : Nat} {v : Value} {ps : List GP} {P : Nat → Prop} (h : GRow w base v ps P) (hb : Below w.heap.size w w') : GRow w' base v ps P :=
  h.kept hb.size (h.row.kept (row := none) ⟨hb.os, hb.tape, hb.output, hb.size, fun k hk _ => hb.block k hk⟩ (by cases hv : v.ownBlock <;> simp)) (fun b hb' => hb.block b (h.far b hb').1)
theorem GRow.alloc {w : World} {base : Nat} {v : Value} {ps : List GP} {P : Nat → Prop} (h : GRow w base v ps P) (o : Obj) : GRow (w.alloc o) base v ps P :=
  h.below ((Below.refl _ _).alloc (Nat.le_refl _) _)
theorem GRow.push {w w' : World} {base : Nat} {v v' : Value} {ps : List GP} {P Pn : Nat → Prop} {p : GP} (h : GRow w base v ps P)
    (hn : TermIn w Pn p.1 p.2.1 p.2.2.1) (hf : ∀ b, Pn b → b < w.heap.size ∧ v.ownBlock ≠ some b)
    (hr : w'.ownsRow base 75 4 v' (ps.length + 1) (flatG ps ++ cellsG p)) (hg : w.grownBy w' v.ownBlock) (ho : v'.ownBlock = v.ownBlock ∨ v'.ownBlock = some w.heap.size) : GRow w' base v' (ps ++ [p]) (fun b => P b ∨ Pn b) := by
  have hb : ∀ b, P b ∨ Pn b → b < w.heap.size ∧ v.ownBlock ≠ some b := fun b hb => hb.elim (h.far b) (hf b)
  have hcell : ∀ b o, P b ∨ Pn b → w'.cell? ⟨b, o, none⟩ = w.cell? ⟨b, o, none⟩ := fun b o hb' => World.cell?_of_block (a := ⟨b, o, none⟩) (hg.block b (hb b hb').1 (fun e => (hb b hb').2 e.symm))
  refine ⟨by rw [flatG_snoc, List.length_append]; exact hr, fun b hb' => ⟨Nat.lt_of_lt_of_le (hb b hb').1 hg.size, fun e => ?_⟩, fun q hq => ?_⟩
  · rcases ho with ho | ho
    · exact (hb b hb').2 (ho.symm.trans e)
    · have := (hb b hb').1
      rw [ho] at e
      injection e with e
      omega
  · rcases List.mem_append.1 hq with hq | hq
    · exact (h.node q hq).imp (fun b o hb' => hcell b o (.inl hb')) (fun b hb' => .inl hb')
    · obtain rfl : q = p := by simpa using hq
      exact hn.imp (fun b o hb' => hcell b o (.inr hb')) (fun b hb' => .inr hb')
/-- A place of it. -/
theorem GRow.at_ {w : World} {base : Nat} {A : Option Addr} {cap : Nat} {ps : List GP} {P : Nat → Prop} (h : GRow w base (.slice A ps.length cap) ps P) (i : Nat) (hi : i < ps.length) :
    ∃ g, A = some ⟨g, 0, none⟩ ∧ base ≤ g ∧ g < w.heap.size ∧ w.cell? ⟨g, i * 4, none⟩ = some (.int .i64 ps[i].1.k) ∧ w.cell? ⟨g, i * 4 + 1, none⟩ = some (.int .i64 ps[i].1.n) ∧ w.cell? ⟨g, i * 4 + 2, none⟩ = some (.slice ps[i].2.1 ps[i].1.l.length ps[i].2.2.1) ∧ w.cell? ⟨g, i * 4 + 3, none⟩ = some (.bool ps[i].2.2.2) := by
  rcases h.row.2 with ⟨h1, h2⟩ | ⟨g, c, cur, h1, hbg, hg, _⟩
  · omega
  · injection h1 with h1 _ _
    subst h1
    have hat := fun r (hr : r < 4) => (h.row.cellAt (i * 4 + r) (by omega)).trans (flatG_at ps i r hi hr)
    refine ⟨g, rfl, hbg, ?_, hat 0 (by omega), hat 1 (by omega), hat 2 (by omega), hat 3 (by omega)⟩
    rcases Nat.lt_or_ge g w.heap.size with hlt | hge
    · exact hlt
    · rw [Array.getElem?_eq_none hge] at hg; cases hg
theorem GRow.len {w : World} {base : Nat} {A : Option Addr} {n cap : Nat} {ps : List GP} {P : Nat → Prop} (h : GRow w base (.slice A n cap) ps P) (hn : n = ps.length) : ps.length ≤ maxLen := by
  rcases h.row.2 with ⟨h1, h2⟩ | ⟨g, c, cur, h1, _, _, h2, h3, _⟩
  · have : (flatG ps).length = ps.length * 4 := by
      clear h h1 h2 hn
      induction ps with
      | nil => rfl
      | cons p ps ih => show (cellsG p ++ flatG ps).length = _; rw [List.length_append, ih]; simp [cellsG]; omega
    unfold maxLen; omega
  · unfold maxLen at *; omega
def gotV (p : GP) : Value := .agg #[.int .i64 p.1.k, .int .i64 p.1.n, .slice p.2.1 p.1.l.length p.2.2.1, .bool p.2.2.2]
/-- A call that tells of the term that should come, in blocks from lo on. -/
def TellsGot (u : TM) (lo : Nat) (w : World) (e : Ending) (w' : World) : Prop :=
  ∃ p : GP, e = .returned (gotV p) ∧ IsTerm w' lo w'.heap.size p.1 p.2.1 p.2.2.1 ∧ Below w.heap.size w w' ∧ GotIs u p.1 p.2.2.2

set_option maxHeartbeats 1000000 in
theorem raised_any (a : TM) (y : Int) (lo hi : Nat) (A : Option Addr) (cap : Nat) (w : World) (h : IsTerm w lo hi a A cap) (hhi : hi ≤ w.heap.size) (ha : shapedB a = true) (hy0 : 0 ≤ y) (hy1 : y ≤ 1048576) :
    Calls Tryd.prog 74 #[termV a A cap, .int .i64 y] w (TellsGot (moveT y a 0) w.heap.size w) := by
  obtain ⟨s1, s2, s3⟩ := shapedB_true.1 ha
  have HW := Lib.hid (show Below w.heap.size w ((w.alloc (.cells #[.int .i64 a.k, .int .i64 a.n, .slice A a.l.length cap] 24)).alloc (.cells #[.int .i64 0, .int .i64 0, .slice none 0 0, .bool false] 75)) from ((Below.refl w.heap.size w).alloc (Nat.le_refl _) _).alloc (by simp <;> omega) _)
  have CM := Lib.hid (move_any y (by omega) hy1 a 0 lo hi A cap _ (h.kept HW.out hhi) (by simp; omega) s3 (by omega) (by omega))
  have KR := Lib.hid (fun (V : World) (hV : Below ((w.alloc (.cells #[.int .i64 a.k, .int .i64 a.n, .slice A a.l.length cap] 24)).alloc (.cells #[.int .i64 0, .int .i64 0, .slice none 0 0, .bool false] 75)).heap.size ((w.alloc (.cells #[.int .i64 a.k, .int .i64 a.n, .slice A a.l.length cap] 24)).alloc (.cells #[.int .i64 0, .int .i64 0, .slice none 0 0, .bool false] 75)) V) => (show Bk V (w.heap.size + 1) 75 #[.int .i64 0, .int .i64 0, .slice none 0 0, .bool false] from (Bk.last (w.alloc (.cells #[.int .i64 a.k, .int .i64 a.n, .slice A a.l.length cap] 24)) 75 #[.int .i64 0, .int .i64 0, .slice none 0 0, .bool false] (g := w.heap.size + 1) (by simp)).below hV (by simp)))
  obtain ⟨x, hx⟩ : ∃ x, moveT y a 0 = x := ⟨_, rfl⟩
  rw [hx] at CM ⊢
  have HSH := Lib.hid (fun (lo hi : Nat) (A : Option Addr) (cap : Nat) (V : World) (h : IsTerm V lo hi x A cap) (hhi : hi ≤ V.heap.size) => refShaped_any x lo hi A cap V h hhi)
  obtain ⟨bx, hbx⟩ : ∃ bx, shapedB x = bx := ⟨_, rfl⟩
  rw [hbx] at HSH
  have HG := Lib.hid (show GotIs x x (!bx) from ⟨fun h => by rw [hbx]; simpa using h, fun _ => rfl⟩)
  unfold GivesM at CM
  unfold termV at CM ⊢
  clear h ha s1 s2 s3 hy0 hy1 hx hbx
  go_enter Tryd.func74, Tryd.ntmps74
  go_wp2_with fail
  refine CM.out.mono ?_
  rintro e w1 ⟨A', cap', rfl, hx1, hb1⟩
  have hz1 := hb1.size
  simp at hz1
  have HB1 := Lib.hid (HW.out.trans (hb1.mono (by simp <;> omega)))
  have hbw := Lib.hid (hb1.alloc hb1.size (.cells #[.int .i64 x.k, .int .i64 x.n, .slice A' x.l.length cap'] 24))
  have HXT := Lib.hid (show IsTerm (w1.alloc (.cells #[.int .i64 x.k, .int .i64 x.n, .slice A' x.l.length cap'] 24)) (w.heap.size + 2) w1.heap.size x A' cap' from (hx1.alloc (Nat.le_refl _) _).wide (by simp) (Nat.le_refl _))
  have hq1 : w.heap.size + 1 < w1.heap.size := by omega
  have hbk := Lib.hid (Below.refl (w1.alloc (.cells #[.int .i64 x.k, .int .i64 x.n, .slice A' x.l.length cap'] 24)).heap.size (w1.alloc (.cells #[.int .i64 x.k, .int .i64 x.n, .slice A' x.l.length cap'] 24))).drew
  have HBX := Lib.hid (fun (V : World) (hV : Below (w1.alloc (.cells #[.int .i64 x.k, .int .i64 x.n, .slice A' x.l.length cap'] 24)).heap.size (w1.alloc (.cells #[.int .i64 x.k, .int .i64 x.n, .slice A' x.l.length cap'] 24)) V) => (show Bk V w1.heap.size 24 #[.int .i64 x.k, .int .i64 x.n, .slice A' x.l.length cap'] from (Bk.new w1 _ _).below hV (by simp)))
  have HSX := Lib.hid (fun (V : World) (hV : Below (w1.alloc (.cells #[.int .i64 x.k, .int .i64 x.n, .slice A' x.l.length cap'] 24)).heap.size (w1.alloc (.cells #[.int .i64 x.k, .int .i64 x.n, .slice A' x.l.length cap'] 24)) V) => HSH.out (w.heap.size + 2) w1.heap.size A' cap' V (HXT.out.kept hV (by simp)) (by have := hV.size; simp at this; omega))
  clear hb1 hx1 HSH
  go_upto_region 2 with fail
  go_region_law
    (first
     | (go_simp; go_at_call 19; refine (HSX.out _ hbk.out).mono ?_; rintro e w3 ⟨rfl, hbn⟩; have hbk := Lib.hid (hbk.out.trans (hbn.mono hbk.out.size)); clear hbn; have y0 := (HBX.out _ hbk.out).cell 0; have y1 := (HBX.out _ hbk.out).cell 1; have y2 := (HBX.out _ hbk.out).cell 2; simp at y0 y1 y2; have HK2 := Lib.hid (KR.out _ (hbw.out.trans (hbk.out.mono (by simp <;> omega)))); have hfz : ∀ o, w3.frozen? ⟨w.heap.size + 1, o, none⟩ = false := fun o => HK2.out.cold o; have d0 : w3.cell? ⟨w.heap.size + 1, 0, none⟩ = some (.int .i64 0) := HK2.out.cell 0; have d1 : w3.cell? ⟨w.heap.size + 1, 1, none⟩ = some (.int .i64 0) := HK2.out.cell 1; have d2 : w3.cell? ⟨w.heap.size + 1, 2, none⟩ = some (.slice none 0 0) := HK2.out.cell 2; have d3 : w3.cell? ⟨w.heap.size + 1, 3, none⟩ = some (.bool false) := HK2.out.cell 3))
  all_goals
    have hz3 := hbk.out.size
    simp at hz3
    have B5 := (((HK2.out.at_ 0 (.int .i64 x.k)).at_ 1 (.int .i64 x.n)).at_ 2 (.slice A' x.l.length cap')).at_ 3 (.bool (!bx))
    have HS0 := Lib.hid (B5.cell 0)
    have HS1 := Lib.hid (B5.cell 1)
    have HS2 := Lib.hid (B5.cell 2)
    have HS3 := Lib.hid (B5.cell 3)
    have HX3 := Lib.hid (HXT.out.kept hbk.out (by simp))
    have HB3 := Lib.hid ((HB1.out.alloc (by omega) (.cells #[.int .i64 x.k, .int .i64 x.n, .slice A' x.l.length cap'] 24)).trans (hbk.out.mono (by simp; omega)))
    clear B5
    go_wp2_with fail
    refine bodyPost_ret (v := gotV (x, A', cap', !bx)) (by simp [results, Tryd.results74, go_sem, gotV, HS0.out, HS1.out, HS2.out, HS3.out]) rfl ?_
    refine ⟨(x, A', cap', !bx), rfl, ?_, (((HB3.out.setCell (by simp) _).setCell (by simp) _).setCell (by simp) _).setCell (by simp) _, HG.out⟩
    exact ((HX3.out.far3 (by omega) _ _ _).setFar (by show w.heap.size + 1 < _; omega) _).wide (by omega) (by simp [World.setCell]; omega)

/-- What the document's calls answer: in blocks from lo on. -/
def GivesAt (p : TM × Int) (lo : Nat) (w : World) (e : Ending) (w' : World) : Prop :=
  ∃ A cap, e = .returned (.tuple #[.agg #[.int .i64 p.1.k, .int .i64 p.1.n, .slice A p.1.l.length cap], .int .i64 p.2]) ∧ IsTerm w' lo w'.heap.size p.1 A cap ∧ Below w.heap.size w w'
set_option maxHeartbeats 1000000 in
theorem done_any (u : TM) (p : GP) (lo : Nat) (w : World) (hg : GotIs u p.1 p.2.2.2) (h : IsTerm w lo w.heap.size p.1 p.2.1 p.2.2.1) :
    Calls Tryd.prog 61 #[gotV p] w (GivesAt (gotX u) lo w) := by
  obtain ⟨x, A, cap, bl⟩ := p
  simp only at hg h
  have HW := Lib.hid (show Below w.heap.size w ((w.alloc (.cells #[.int .i64 x.k, .int .i64 x.n, .slice A x.l.length cap, .bool bl] 75)).alloc (.cells #[.int .i64 0, .int .i64 0, .slice none 0 0] 24)) from ((Below.refl w.heap.size w).alloc (Nat.le_refl _) _).alloc (by simp <;> omega) _)
  have KT := Lib.hid (fun (V : World) (hV : Below ((w.alloc (.cells #[.int .i64 x.k, .int .i64 x.n, .slice A x.l.length cap, .bool bl] 75)).alloc (.cells #[.int .i64 0, .int .i64 0, .slice none 0 0] 24)).heap.size ((w.alloc (.cells #[.int .i64 x.k, .int .i64 x.n, .slice A x.l.length cap, .bool bl] 75)).alloc (.cells #[.int .i64 0, .int .i64 0, .slice none 0 0] 24)) V) => (show Bk V w.heap.size 75 #[.int .i64 x.k, .int .i64 x.n, .slice A x.l.length cap, .bool bl] ∧ Bk V (w.heap.size + 1) 24 #[.int .i64 0, .int .i64 0, .slice none 0 0] from ⟨((Bk.new w _ _).alloc _).below hV (by simp <;> omega), (Bk.last (w.alloc (.cells #[.int .i64 x.k, .int .i64 x.n, .slice A x.l.length cap, .bool bl] 75)) _ _ (by simp)).below hV (by simp)⟩))
  have HSX := Lib.hid (refShaped_any x lo w.heap.size A cap ((w.alloc (.cells #[.int .i64 x.k, .int .i64 x.n, .slice A x.l.length cap, .bool bl] 75)).alloc (.cells #[.int .i64 0, .int .i64 0, .slice none 0 0] 24)) (h.kept HW.out (Nat.le_refl _)) (by simp <;> omega))
  have HX := Lib.hid h
  obtain ⟨bx, hbx⟩ : ∃ bx, shapedB x = bx := ⟨_, rfl⟩
  rw [hbx] at HSX
  have HE1 := Lib.hid (show bl = true → gotX u = (.node 0 0 [], 2) from fun e => by unfold gotX; rw [hg.yes e]; rfl)
  have HE2 := Lib.hid (show bl = false → gotX u = if bx then (x, 0) else (.node 0 0 [], 2) from fun e => by unfold gotX; rw [← hg.no e, hbx])
  obtain ⟨RR, hRR⟩ : ∃ RR, gotX u = RR := ⟨_, rfl⟩
  rw [hRR] at HE1 HE2 ⊢
  unfold termV at HSX
  unfold gotV
  clear hg hbx hRR h
  cases bl with
  | true =>
    have HE := Lib.hid (HE1.out rfl)
    clear HE1 HE2
    go_enter Tryd.func61, Tryd.ntmps61
    go_wp2_with fail
    refine bodyPost_ret (v := .tuple #[.agg #[.int .i64 0, .int .i64 0, .slice none 0 0], .int .i64 2]) (by simp [results, Tryd.results61, go_sem]) rfl ?_
    rw [HE.out]
    exact ⟨none, 0, rfl, leaf_in _ _ 0 0, by repeat first | exact Below.refl _ _ | refine Below.setCell ?_ (by simp) _ | refine Below.alloc ?_ (by simp <;> omega) _⟩
  | false =>
    have HE := Lib.hid (HE2.out rfl)
    clear HE1 HE2
    go_enter Tryd.func61, Tryd.ntmps61
    go_wp2_with fail
    refine HSX.out.mono ?_
    rintro e w1 ⟨rfl, hb1⟩
    obtain ⟨K1, K2⟩ := KT.out _ hb1
    have hz1 := hb1.size
    simp at hz1
    have HB1 := Lib.hid (HW.out.trans (hb1.mono (by simp <;> omega)))
    have c0 : w1.cell? ⟨w.heap.size, 0, none⟩ = some (.int .i64 x.k) := K1.cell 0
    have c1 : w1.cell? ⟨w.heap.size, 1, none⟩ = some (.int .i64 x.n) := K1.cell 1
    have c2 : w1.cell? ⟨w.heap.size, 2, none⟩ = some (.slice A x.l.length cap) := K1.cell 2
    have hfz : ∀ o, w1.frozen? ⟨w.heap.size + 1, o, none⟩ = false := fun o => K2.cold o
    have d0 : w1.cell? ⟨w.heap.size + 1, 0, none⟩ = some (.int .i64 0) := K2.cell 0
    have d1 : w1.cell? ⟨w.heap.size + 1, 1, none⟩ = some (.int .i64 0) := K2.cell 1
    have d2 : w1.cell? ⟨w.heap.size + 1, 2, none⟩ = some (.slice none 0 0) := K2.cell 2
    have HX1 := Lib.hid (HX.out.kept HB1.out (Nat.le_refl _))
    have HK2 := Lib.hid K2
    clear hb1 K1 K2
    cases bx with
    | false =>
      have B5 := ((HK2.out.at_ 0 (.int .i64 0)).at_ 1 (.int .i64 0)).at_ 2 (.slice none 0 0)
      have HS0 := Lib.hid (B5.cell 0)
      have HS1 := Lib.hid (B5.cell 1)
      have HS2 := Lib.hid (B5.cell 2)
      clear B5
      go_wp2_with fail
      refine bodyPost_ret (v := .tuple #[.agg #[.int .i64 0, .int .i64 0, .slice none 0 0], .int .i64 2]) (by simp [results, Tryd.results61, go_sem, HS0.out, HS1.out, HS2.out]) rfl ?_
      rw [HE.out]
      exact ⟨none, 0, rfl, leaf_in _ _ 0 0, ((HB1.out.setCell (by simp) _).setCell (by simp) _).setCell (by simp) _⟩
    | true =>
      have B5 := ((HK2.out.at_ 0 (.int .i64 x.k)).at_ 1 (.int .i64 x.n)).at_ 2 (.slice A x.l.length cap)
      have HS0 := Lib.hid (B5.cell 0)
      have HS1 := Lib.hid (B5.cell 1)
      have HS2 := Lib.hid (B5.cell 2)
      have HBC := Lib.hid (show ∀ b, b < w.heap.size → ((((w1.setCell ⟨w.heap.size + 1, 0, none⟩ (.int .i64 x.k)).setCell ⟨w.heap.size + 1, 1, none⟩ (.int .i64 x.n)).setCell ⟨w.heap.size + 1, 2, none⟩ (.slice A x.l.length cap)).heap[b]? = w1.heap[b]?) from fun b hb => block_three w1 (w.heap.size + 1) b (by omega) _ _ _)
      clear B5
      go_wp2_with fail
      refine bodyPost_ret (v := .tuple #[.agg #[.int .i64 x.k, .int .i64 x.n, .slice A x.l.length cap], .int .i64 0]) (by simp [results, Tryd.results61, go_sem, HS0.out, HS1.out, HS2.out]) rfl ?_
      rw [HE.out]
      exact ⟨A, cap, rfl, HX1.out.imp (fun b o _ h2 => World.cell?_of_block (a := ⟨b, o, none⟩) (HBC.out b h2)) (Nat.le_refl _) (by simp [World.setCell]; omega), ((HB1.out.setCell (by simp) _).setCell (by simp) _).setCell (by simp) _⟩

end Go.Proofs.YtofmoggjpgjdgaaDoor

/- The document's subs: a term of terms that were made, or that it is too great. -/
namespace Go.Proofs.YtofmoggjpgjdgaaDoor
open Go.RowKit
set_option linter.unusedVariables false
set_option maxRecDepth 100000

theorem any_take {ps : List GP} {i : Nat} (h : i < ps.length) : (ps.take (i + 1)).any (·.2.2.2) = ((ps.take i).any (·.2.2.2) || ps[i].2.2.2) := by
  rw [List.take_succ_eq_append_getElem h, List.any_append]; simp
theorem map_take {ps : List GP} {i : Nat} (h : i < ps.length) : (ps.take (i + 1)).map triG = (ps.take i).map triG ++ [triG ps[i]] := by
  rw [List.take_succ_eq_append_getElem h, List.map_append]; rfl
theorem got_long {k n : Int} {us : List TM} {ps : List GP} (hu : us.length = ps.length) (hg : ∀ i (h1 : i < us.length) (h2 : i < ps.length), GotIs us[i] ps[i].1 ps[i].2.2.2) (h : ps.any (·.2.2.2) = true) : shapedB (.node k n us) = false := by
  rw [List.any_eq_true] at h
  obtain ⟨p, hp, hl⟩ := h
  obtain ⟨i, hi, rfl⟩ := List.getElem_of_mem hp
  have h1 := (hg i (by omega) hi).yes hl
  cases e : shapedB (.node k n us) with
  | false => rfl
  | true =>
    have := shaped_part (List.getElem_mem (by omega : i < us.length)) e
    rw [h1] at this; cases this
theorem got_all {us : List TM} {ps : List GP} (hu : us.length = ps.length) (hg : ∀ i (h1 : i < us.length) (h2 : i < ps.length), GotIs us[i] ps[i].1 ps[i].2.2.2) (h : ps.any (·.2.2.2) = false) : ps.map (fun p => p.1) = us := by
  refine List.ext_getElem (by rw [List.length_map, hu]) fun i h1 h2 => ?_
  have hi : i < ps.length := by rw [List.length_map] at h1; exact h1
  rw [List.getElem_map]
  refine (hg i h2 hi).no ?_
  rw [List.any_eq_false] at h
  simpa using h _ (List.getElem_mem hi)
theorem own_nodeM {w : World} {base : Nat} {e : TypeId} {v : Value} {n : Nat} {xs : List Value} (h : w.ownsRow base e 3 v n xs) : ∃ a c, v = .slice a n c := by
  rcases h.2 with ⟨h1, h2⟩ | ⟨g, c, cur, h1, _⟩
  · exact ⟨none, 0, by rw [h1, h2]⟩
  · exact ⟨_, _, h1⟩

def SubRel (w : World) (k n : Int) (l : List TM) (A : Option Addr) (cap : Nat) (ps : List GP) (P : Nat → Prop) (iv : Value) (wr : World) : Prop :=
  ∃ (i : Nat) (a1 : Option Addr) (c1 : Nat) (lg : Bool), i ≤ ps.length ∧ iv = .int .i64 i ∧ Below w.heap.size w wr ∧
    Bk wr w.heap.size 24 #[.int .i64 k, .int .i64 n, .slice A l.length cap] ∧ Bk wr (w.heap.size + 1) 75 #[.int .i64 0, .int .i64 0, .slice none 0 0, .bool false] ∧
    Bk wr (w.heap.size + 2) 75 #[.int .i64 k, .int .i64 n, .slice a1 i c1, .bool lg] ∧ TermRow wr (w.heap.size + 3) 24 (.slice a1 i c1) ((ps.take i).map triG) P ∧ (ps.take i).any (·.2.2.2) = lg

set_option maxHeartbeats 8000000 in
theorem subs_any (k n : Int) (l : List TM) (A : Option Addr) (cap : Nat) (w : World) (base lo : Nat) (GA : Option Addr) (capG : Nat) (ps : List GP) (P : Nat → Prop) (us : List TM)
    (hr : GRow w base (.slice GA ps.length capG) ps P) (hbase : base ≤ w.heap.size) (hP : ∀ b, P b → lo ≤ b) (hlo : lo ≤ w.heap.size) (hu : us.length = ps.length) (hg : ∀ i (h1 : i < us.length) (h2 : i < ps.length), GotIs us[i] ps[i].1 ps[i].2.2.2) (hlen : ps.length ≤ 8192) :
    Calls Tryd.prog 76 #[termV (.node k n l) A cap, .slice GA ps.length capG] w (TellsGot (.node k n us) lo w) := by
  obtain ⟨i0, hi0, hz0, hz1, hz2⟩ := info_parts infoM
  have HR := Lib.hid hr
  have HPF := Lib.hid (fun b (hb : P b) => (hr.far b hb).1)
  have HP := Lib.hid hP
  have HND := Lib.hid (fun (V : World) (hV : Below w.heap.size w V) (p : GP) (hp : p ∈ ps) => (hr.node p hp).imp (w' := V) (P' := P) (fun b o hb => hV.cell (p := ⟨b, o, none⟩) (hr.far b hb).1) (fun _ h => h))
  have HC := Lib.hid (fun (V : World) (hV : Below w.heap.size w V) (i : Nat) (hi : i < ps.length) => (show ∃ g, GA = some ⟨g, 0, none⟩ ∧ g < w.heap.size ∧ V.cell? ⟨g, i * 4, none⟩ = some (.int .i64 ps[i].1.k) ∧ V.cell? ⟨g, i * 4 + 1, none⟩ = some (.int .i64 ps[i].1.n) ∧ V.cell? ⟨g, i * 4 + 2, none⟩ = some (.slice ps[i].2.1 ps[i].1.l.length ps[i].2.2.1) ∧ V.cell? ⟨g, i * 4 + 3, none⟩ = some (.bool ps[i].2.2.2) from by
    obtain ⟨g, h1, h2, h3, c0, c1, c2, c3⟩ := hr.at_ i hi
    exact ⟨g, h1, h3, (hV.cell (p := ⟨g, _, none⟩) h3).trans c0, (hV.cell (p := ⟨g, _, none⟩) h3).trans c1, (hV.cell (p := ⟨g, _, none⟩) h3).trans c2, (hV.cell (p := ⟨g, _, none⟩) h3).trans c3⟩))
  have HYES := Lib.hid (fun h => got_long (k := k) (n := n) hu hg h)
  have HNO := Lib.hid (fun h => got_all hu hg h)
  have HLO := Lib.hid hlo
  have HU := Lib.hid hu
  clear hr hP hu hg
  rw [termV_node]
  go_enter Tryd.func76, Tryd.ntmps76
  go_wp2_with fail
  go_loopw [6] (SubRel w k n l A cap ps P) (fun iv _ => ps.length - (intOf iv).toNat)
  case atStart =>
    refine ⟨0, none, 0, false, Nat.zero_le _, rfl, (((Below.refl w.heap.size w).alloc (Nat.le_refl _) _).alloc (by simp) _).alloc (by simp <;> omega) _, ((Bk.new w 24 _).alloc _).alloc _, (Bk.last _ _ _ (by simp)).alloc _, Bk.last _ _ _ (by simp), ⟨World.ownsRow_nil _ _ _ _, fun b hb => ⟨?_, by simp [Value.ownBlock]⟩, fun _ h => by simp at h⟩, rfl⟩
    have := HPF.out b hb
    simp; omega
  case round =>
    obtain ⟨i, a1, c1, lg, hi1, rfl, hB, b1, b2, b3, hrow, hlg⟩ := hrel
    have hz := hB.size
    have hlt3 := b3.lt
    have HB1 := Lib.hid b1
    have HB2 := Lib.hid b2
    have HB3 := Lib.hid b3
    have HROW := Lib.hid hrow
    have HBB := Lib.hid hB
    have HLG := Lib.hid hlg
    have q0 : wr.cell? ⟨w.heap.size + 1 + 1, 0, none⟩ = some (.int .i64 k) := b3.cell 0
    have q1 : wr.cell? ⟨w.heap.size + 1 + 1, 1, none⟩ = some (.int .i64 n) := b3.cell 1
    have q2 : wr.cell? ⟨w.heap.size + 1 + 1, 2, none⟩ = some (.slice a1 i c1) := b3.cell 2
    have q3 : wr.cell? ⟨w.heap.size + 1 + 1, 3, none⟩ = some (.bool lg) := b3.cell 3
    have hfz2 : ∀ q, wr.frozen? ⟨w.heap.size + 1 + 1, q, none⟩ = false := fun q => b3.cold q
    clear b1 b2 b3 hrow hlg
    by_cases hil : i < ps.length
    · obtain ⟨gb, hGA, hgb, y0, y1, y2, y3⟩ := HC.out wr hB i hil
      subst hGA
      have hnode := HND.out wr hB ps[i] (List.getElem_mem hil)
      have hany := any_take hil
      have hmap := map_take hil
      have hi1' : (i : Int) < (ps.length : Int) := by omega
      have hi0' : (0 : Int) ≤ (i : Int) := by omega
      have hplen : ((ps.take i).map triG).length = i := by rw [List.length_map, List.length_take]; omega
      obtain ⟨p, hp⟩ : ∃ p, ps[i] = p := ⟨_, rfl⟩
      rw [hp] at y0 y1 y2 y3 hnode hany hmap
      obtain ⟨u, F, C, bl⟩ := p
      simp only at y0 y1 y2 y3 hnode hany
      have hmap2 : (ps.take (i + 1)).map triG = (ps.take i).map triG ++ [(u, F, C)] := hmap
      have HANY := Lib.hid hany
      have HMAP := Lib.hid hmap2
      have HNODE := Lib.hid hnode
      have HPL := Lib.hid hplen
      have hgw : gb < wr.heap.size := by omega
      have HW2 := Lib.hid (show ∀ V v2 w4, Below wr.heap.size wr V → wr.heap.size ≤ V.heap.size → AppTo V (w.heap.size + 3) 24 3 (.slice a1 i c1) (i + 1) (flatM ((ps.take i).map triG) ++ cellsM (u, F, C)) v2 w4 →
          Hid (Bk w4 (w.heap.size + 2) 75 #[.int .i64 k, .int .i64 n, .slice a1 i c1, .bool lg]) ∧ Hid (Bk w4 w.heap.size 24 #[.int .i64 k, .int .i64 n, .slice A l.length cap]) ∧ Hid (Bk w4 (w.heap.size + 1) 75 #[.int .i64 0, .int .i64 0, .slice none 0 0, .bool false]) ∧
          Hid (TermRow w4 (w.heap.size + 3) 24 v2 ((ps.take (i + 1)).map triG) P) ∧ Hid (Below w.heap.size w w4) ∧ w4.cell? ⟨gb, i * 4 + 3, none⟩ = some (.bool bl) ∧ Hid (∃ a2 c2, v2 = .slice a2 (i + 1) c2) ∧ gb < w4.heap.size from by
        intro V v2 w4 hV hVz ha
        have hR := HROW.out.below hV
        have hlt0 := hR.row.lt
        have hne : ∀ g, g < w.heap.size + 3 → some g ≠ (Value.slice a1 i c1).ownBlock := fun g hg e => by
          have := hlt0 g e.symm
          omega
        refine ⟨(HB3.out.below hV hlt3).grown ha.2.1 (hne _ (by omega)), (HB1.out.below hV (by omega)).grown ha.2.1 (hne _ (by omega)), (HB2.out.below hV (by omega)).grown ha.2.1 (hne _ (by omega)), ?_, (HBB.out.trans (hV.mono hz)).grown ha.2.1 (by omega) (fun g e => by have := hlt0 g e; omega), (ha.2.1.cell_far ⟨gb, i * 4 + 3, none⟩ (by show gb < _; omega) (hne gb (by omega))).trans ((hV.cell (p := ⟨gb, _, none⟩) hgw).trans y3), own_nodeM ha.1, by have := ha.2.1.size; omega⟩
        have hpush := hR.push (Pn := P) (p := (u, F, C)) (HNODE.out.imp (fun b o hb => hV.cell (p := ⟨b, o, none⟩) (by have := HPF.out b hb; show b < _; omega)) (fun _ h => h)) (fun b hb => ⟨by have := HPF.out b hb; omega, fun e => by have h1 := hlt0 b e; have h2 := HPF.out b hb; omega⟩) (by rw [HPL.out]; exact ha.1) ha.2.1 ha.2.2
        show TermRow _ _ _ _ _ _
        rw [HMAP.out]
        exact ⟨hpush.row, fun b hb => hpush.far b (.inl hb), fun p hp => (hpush.node p hp).imp (fun _ _ _ => rfl) (fun b hb => hb.elim id id)⟩)
      have HV1 := Lib.hid (show Below wr.heap.size wr (wr.drew.alloc (.cells #[.int .i64 u.k, .int .i64 u.n, .slice F u.l.length C] 24)) from ((Below.refl wr.heap.size wr).drew).alloc (Nat.le_refl _) _)
      have HV2 := Lib.hid (show Below wr.heap.size wr (wr.alloc (.cells #[.int .i64 u.k, .int .i64 u.n, .slice F u.l.length C] 24)).drew from ((Below.refl wr.heap.size wr).alloc (Nat.le_refl _) _).drew)
      have HO1 := Lib.hid (show (wr.drew.alloc (.cells #[.int .i64 u.k, .int .i64 u.n, .slice F u.l.length C] 24)).ownsRow (w.heap.size + 3) 24 3 (.slice a1 i c1) i (flatM ((ps.take i).map triG)) from by have := (HROW.out.below HV1.out).row; rw [HPL.out] at this; exact this)
      have HO2 := Lib.hid (show (wr.alloc (.cells #[.int .i64 u.k, .int .i64 u.n, .slice F u.l.length C] 24)).drew.ownsRow (w.heap.size + 3) 24 3 (.slice a1 i c1) i (flatM ((ps.take i).map triG)) from by have := (HROW.out.below HV2.out).row; rw [HPL.out] at this; exact this)
      have HS1 := Lib.hid (show Src (wr.drew.alloc (.cells #[.int .i64 u.k, .int .i64 u.n, .slice F u.l.length C] 24)) 3 (some ⟨wr.heap.size, 0, none⟩) 1 (cellsM (u, F, C)) from src_at wr.drew #[.int .i64 u.k, .int .i64 u.n, .slice F u.l.length C] _ rfl rfl)
      have HS2 := Lib.hid (show Src (wr.alloc (.cells #[.int .i64 u.k, .int .i64 u.n, .slice F u.l.length C] 24)).drew 3 (some ⟨wr.heap.size, 0, none⟩) 1 (cellsM (u, F, C)) from src_at wr #[.int .i64 u.k, .int .i64 u.n, .slice F u.l.length C] _ rfl rfl)
      have hl9 : (i + 1) * 40 ≤ 140737488351232 := by omega
      clear hany hmap hmap2 hnode hplen hp HNO HYES HC HND
      go_wp2_with fail
      go_region_law
        (first
         | (first
            | (refine step_app rfl (.tmp 21) (.tmp 27) 22 rfl (w.heap.size + 3) 24 i0 (.agg #[.int .i64 0, .int .i64 0, .slice none 0 0]) 3 40 Tryd.underlying22 hi0 hz0 hz1 hz2 rfl (by decide) (.slice a1 i c1) i (flatM ((ps.take i).map triG)) rfl HO1.out (some ⟨wr.heap.size, 0, none⟩) 1 1 (cellsM (u, F, C)) rfl HS1.out (cellsM_one _) (by unfold maxLen; omega) (by omega) (by simp; omega) ?_; have hvv := HV1)
            | (refine step_app rfl (.tmp 21) (.tmp 27) 22 rfl (w.heap.size + 3) 24 i0 (.agg #[.int .i64 0, .int .i64 0, .slice none 0 0]) 3 40 Tryd.underlying22 hi0 hz0 hz1 hz2 rfl (by decide) (.slice a1 i c1) i (flatM ((ps.take i).map triG)) rfl HO2.out (some ⟨wr.heap.size, 0, none⟩) 1 1 (cellsM (u, F, C)) rfl HS2.out (cellsM_one _) (by unfold maxLen; omega) (by omega) (by simp; omega) ?_; have hvv := HV2)
            rintro v2 w4 ha4
            obtain ⟨HO4, HT4, HR4, HROW4, HBL4, y3', HSL4, hgw4⟩ := HW2.out _ _ _ hvv.out (by simp) ha4
            obtain ⟨a2, c2, hv2⟩ := HSL4.out
            subst hv2
            have d4 : w4.cell? ⟨w.heap.size + 1 + 1, 2, none⟩ = some (.slice a1 i c1) := HO4.out.cell 2
            have hfz4 : ∀ q, w4.frozen? ⟨w.heap.size + 1 + 1, q, none⟩ = false := fun q => HO4.out.cold q
            clear ha4 hvv))
      all_goals
        have q3' : w4.cell? ⟨w.heap.size + 1 + 1, 3, none⟩ = some (.bool lg) := HO4.out.cell 3
        have HNB := Lib.hid (show (ps.take (i + 1)).any (·.2.2.2) = (lg || bl) from HANY.out.trans (by rw [HLG.out]))
        have HQ1 := Lib.hid ((HROW4.out.setCell (a := ⟨w.heap.size + 1 + 1, 2, none⟩) (by show w.heap.size + 2 < _; omega) (fun b hb => by have := HPF.out b hb; show b ≠ w.heap.size + 2; omega) (.slice a2 (i + 1) c2)).setCell (a := ⟨w.heap.size + 1 + 1, 3, none⟩) (by show w.heap.size + 2 < _; omega) (fun b hb => by have := HPF.out b hb; show b ≠ w.heap.size + 2; omega) (.bool (lg || bl)))
        have HQ2 := Lib.hid ((HO4.out.at_ 2 (.slice a2 (i + 1) c2)).at_ 3 (.bool (lg || bl)))
        have HQ3 := Lib.hid ((HT4.out.far (a := ⟨w.heap.size + 1 + 1, 2, none⟩) (by show w.heap.size ≠ w.heap.size + 2; omega) (.slice a2 (i + 1) c2)).far (a := ⟨w.heap.size + 1 + 1, 3, none⟩) (by show w.heap.size ≠ w.heap.size + 2; omega) (.bool (lg || bl)))
        have HQ4 := Lib.hid ((HR4.out.far (a := ⟨w.heap.size + 1 + 1, 2, none⟩) (by show w.heap.size + 1 ≠ w.heap.size + 2; omega) (.slice a2 (i + 1) c2)).far (a := ⟨w.heap.size + 1 + 1, 3, none⟩) (by show w.heap.size + 1 ≠ w.heap.size + 2; omega) (.bool (lg || bl)))
        have HQ5 := Lib.hid ((HBL4.out.setCell (p := ⟨w.heap.size + 1 + 1, 2, none⟩) (by show w.heap.size ≤ w.heap.size + 2; omega) (.slice a2 (i + 1) c2)).setCell (p := ⟨w.heap.size + 1 + 1, 3, none⟩) (by show w.heap.size ≤ w.heap.size + 2; omega) (.bool (lg || bl)))
        have hne1 : gb ≠ w.heap.size + 2 := by omega
        have hne2 : w.heap.size + 2 ≠ gb := by omega
        cases lg
        all_goals
          go_wp2_with fail
          go_roundw
          case rel => exact ⟨i + 1, a2, c2, _, by omega, rfl, HQ5.out, HQ3.out, HQ4.out, HQ2.out, HQ1.out, HNB.out⟩
          case measure => simp [intOf]; omega
    · obtain rfl : i = ps.length := by omega
      have d0 : wr.cell? ⟨w.heap.size + 1, 0, none⟩ = some (.int .i64 0) := HB2.out.cell 0
      have d1 : wr.cell? ⟨w.heap.size + 1, 1, none⟩ = some (.int .i64 0) := HB2.out.cell 1
      have d2 : wr.cell? ⟨w.heap.size + 1, 2, none⟩ = some (.slice none 0 0) := HB2.out.cell 2
      have d3 : wr.cell? ⟨w.heap.size + 1, 3, none⟩ = some (.bool false) := HB2.out.cell 3
      have hfz1 : ∀ q, wr.frozen? ⟨w.heap.size + 1, q, none⟩ = false := fun q => HB2.out.cold q
      have hlt1 : w.heap.size + 1 < wr.heap.size := by omega
      have HLG2 := Lib.hid (show ps.any (·.2.2.2) = lg by have := HLG.out; rw [List.take_length] at this; exact this)
      cases lg with
      | true =>
        have HE := Lib.hid (HYES.out HLG2.out)
        have CLF := Lib.hid (fun (V : World) => (mk_leaf 2 0 V).mono fun e w' (h : _ ∧ _) => And.intro h.1 (show Below V.heap.size V w' from by rw [h.2]; exact (Below.refl _ _).alloc (Nat.le_refl _) _))
        clear HC HND HNO HYES HROW
        have HKX := Lib.hid (HB2.out.far (a := ⟨w.heap.size + 1 + 1, 3, none⟩) (by show w.heap.size + 1 ≠ w.heap.size + 2; omega) (.bool true))
        have HBX := Lib.hid (HBB.out.setCell (p := ⟨w.heap.size + 1 + 1, 3, none⟩) (by show w.heap.size ≤ w.heap.size + 2; omega) (.bool true))
        go_wp2_with fail
        refine (CLF.out _).mono ?_
        rintro e w6 ⟨rfl, hb6⟩
        have K6 := HKX.out.below hb6 (by simp [World.setCell]; omega)
        have HB6 := Lib.hid (HBX.out.trans (hb6.mono (by simp [World.setCell]; omega)))
        have z0 : w6.cell? ⟨w.heap.size + 1, 0, none⟩ = some (.int .i64 0) := K6.cell 0
        have z1 : w6.cell? ⟨w.heap.size + 1, 1, none⟩ = some (.int .i64 0) := K6.cell 1
        have z2 : w6.cell? ⟨w.heap.size + 1, 2, none⟩ = some (.slice none 0 0) := K6.cell 2
        have z3 : w6.cell? ⟨w.heap.size + 1, 3, none⟩ = some (.bool false) := K6.cell 3
        have hf6 : ∀ q, w6.frozen? ⟨w.heap.size + 1, q, none⟩ = false := fun q => K6.cold q
        have B5 := (((K6.at_ 0 (.int .i64 2)).at_ 1 (.int .i64 0)).at_ 2 (.slice none 0 0)).at_ 3 (.bool true)
        have HS0 := Lib.hid (B5.cell 0)
        have HS1 := Lib.hid (B5.cell 1)
        have HS2 := Lib.hid (B5.cell 2)
        have HS3 := Lib.hid (B5.cell 3)
        clear B5 K6 hb6
        go_wp2_with fail
        refine bodyPost_ret (v := gotV (.node 2 0 [], none, 0, true)) (by simp [results, Tryd.results76, go_sem, gotV, TM.k, TM.n, TM.l, HS0.out, HS1.out, HS2.out, HS3.out]) rfl ?_
        exact ⟨(.node 2 0 [], none, 0, true), rfl, leaf_in _ _ 2 0, (((HB6.out.setCell (by simp) _).setCell (by simp) _).setCell (by simp) _).setCell (by simp) _, ⟨fun _ => HE.out, fun h => by cases h⟩⟩
      | false =>
        have hus := HNO.out HLG2.out
        have hmm : ((ps.take ps.length).map triG).map (·.1) = us := by rw [List.take_length, List.map_map, ← hus]; rfl
        have hlen2 : ((ps.take ps.length).map triG).length = ps.length := by rw [List.take_length, List.length_map]
        have hrow2 : TermRow wr (w.heap.size + 3) 24 (.slice a1 ((ps.take ps.length).map triG).length c1) ((ps.take ps.length).map triG) P := by rw [hlen2]; exact HROW.out
        have hpar := hrow2.parentQ (Q := fun b => (lo ≤ b ∧ b < wr.heap.size) ∧ b ≠ w.heap.size + 1 ∧ b ≠ w.heap.size + 2) (fun b hb => by have := HP.out b hb; have := HPF.out b hb; omega) (fun b hb => by have := hrow2.row.lt b hb; have := HLO.out; omega) k n
        rw [hmm] at hpar
        have HPAR := Lib.hid hpar
        have CSZ := refTSize_any (.node k n us) lo wr.heap.size a1 c1 wr (hpar.imp (fun _ _ _ => rfl) (fun b hb => hb.1)) (Nat.le_refl _)
        rw [termV_node, HU.out] at CSZ
        obtain ⟨sz, hsz⟩ : ∃ sz : Int, (topN (TM.node k n us).size : Int) = sz := ⟨_, rfl⟩
        rw [hsz] at CSZ
        have HBIG := Lib.hid (show 8192 < sz → shapedB (.node k n us) = false from fun h => by
          cases e : shapedB (.node k n us) with
          | false => rfl
          | true =>
            have h1 := (shapedB_true.1 e).1
            have h2 := topN_le' (TM.node k n us).size
            omega)
        have HCSZ := Lib.hid CSZ
        clear HC HND HNO HYES HROW hus hmm hlen2 hrow2 hpar CSZ hsz
        go_wp2_with fail
        refine HCSZ.out.mono ?_
        rintro e w5 ⟨rfl, hb5⟩
        have hz5 := hb5.size
        have K1 := HB2.out.below hb5 hlt1
        have K2 := HB3.out.below hb5 hlt3
        have HBE := Lib.hid (HBB.out.trans (hb5.mono hz))
        have HB5 := Lib.hid hb5
        have p0 : w5.cell? ⟨w.heap.size + 1 + 1, 0, none⟩ = some (.int .i64 k) := K2.cell 0
        have p1 : w5.cell? ⟨w.heap.size + 1 + 1, 1, none⟩ = some (.int .i64 n) := K2.cell 1
        have p2 : w5.cell? ⟨w.heap.size + 1 + 1, 2, none⟩ = some (.slice a1 ps.length c1) := K2.cell 2
        have p3 : w5.cell? ⟨w.heap.size + 1 + 1, 3, none⟩ = some (.bool false) := K2.cell 3
        have hfp : ∀ q, w5.frozen? ⟨w.heap.size + 1 + 1, q, none⟩ = false := fun q => K2.cold q
        have d0 : w5.cell? ⟨w.heap.size + 1, 0, none⟩ = some (.int .i64 0) := K1.cell 0
        have d1 : w5.cell? ⟨w.heap.size + 1, 1, none⟩ = some (.int .i64 0) := K1.cell 1
        have d2 : w5.cell? ⟨w.heap.size + 1, 2, none⟩ = some (.slice none 0 0) := K1.cell 2
        have d3 : w5.cell? ⟨w.heap.size + 1, 3, none⟩ = some (.bool false) := K1.cell 3
        have hfz : ∀ q, w5.frozen? ⟨w.heap.size + 1, q, none⟩ = false := fun q => K1.cold q
        have hlt5 : w.heap.size + 2 < w5.heap.size := by omega
        have HK1 := Lib.hid K1
        clear K1 K2 hb5 q0 q1 q2 q3 hfz2 hfz1
        by_cases hs : 8192 < sz
        · have t1 : decide (8192 < sz) = true := decide_eq_true hs
          have HE := Lib.hid (HBIG.out hs)
          have CLF := Lib.hid (fun (V : World) => (mk_leaf 2 0 V).mono fun e w' (h : _ ∧ _) => And.intro h.1 (show Below V.heap.size V w' from by rw [h.2]; exact (Below.refl _ _).alloc (Nat.le_refl _) _))
          have HKX := Lib.hid (HK1.out.far (a := ⟨w.heap.size + 1 + 1, 3, none⟩) (by show w.heap.size + 1 ≠ w.heap.size + 2; omega) (.bool true))
          have HBX := Lib.hid (HBE.out.setCell (p := ⟨w.heap.size + 1 + 1, 3, none⟩) (by show w.heap.size ≤ w.heap.size + 2; omega) (.bool true))
          go_wp2_with fail
          refine (CLF.out _).mono ?_
          rintro e w6 ⟨rfl, hb6⟩
          have K6 := HKX.out.below hb6 (by simp [World.setCell]; omega)
          have HB6 := Lib.hid (HBX.out.trans (hb6.mono (by simp [World.setCell]; omega)))
          have z0 : w6.cell? ⟨w.heap.size + 1, 0, none⟩ = some (.int .i64 0) := K6.cell 0
          have z1 : w6.cell? ⟨w.heap.size + 1, 1, none⟩ = some (.int .i64 0) := K6.cell 1
          have z2 : w6.cell? ⟨w.heap.size + 1, 2, none⟩ = some (.slice none 0 0) := K6.cell 2
          have z3 : w6.cell? ⟨w.heap.size + 1, 3, none⟩ = some (.bool false) := K6.cell 3
          have hf6 : ∀ q, w6.frozen? ⟨w.heap.size + 1, q, none⟩ = false := fun q => K6.cold q
          have B5 := (((K6.at_ 0 (.int .i64 2)).at_ 1 (.int .i64 0)).at_ 2 (.slice none 0 0)).at_ 3 (.bool true)
          have HS0 := Lib.hid (B5.cell 0)
          have HS1 := Lib.hid (B5.cell 1)
          have HS2 := Lib.hid (B5.cell 2)
          have HS3 := Lib.hid (B5.cell 3)
          clear B5 K6 hb6
          go_wp2_with fail
          refine bodyPost_ret (v := gotV (.node 2 0 [], none, 0, true)) (by simp [results, Tryd.results76, go_sem, gotV, TM.k, TM.n, TM.l, HS0.out, HS1.out, HS2.out, HS3.out]) rfl ?_
          exact ⟨(.node 2 0 [], none, 0, true), rfl, leaf_in _ _ 2 0, (((HB6.out.setCell (by simp) _).setCell (by simp) _).setCell (by simp) _).setCell (by simp) _, ⟨fun _ => HE.out, fun h => by cases h⟩⟩
        · have t1 : decide (8192 < sz) = false := decide_eq_false hs
          have B5 := ((((HK1.out.far (a := ⟨w.heap.size + 1 + 1, 3, none⟩) (by show w.heap.size + 1 ≠ w.heap.size + 2; omega) (.bool false)).at_ 0 (.int .i64 k)).at_ 1 (.int .i64 n)).at_ 2 (.slice a1 ps.length c1)).at_ 3 (.bool false)
          have HS0 := Lib.hid (B5.cell 0)
          have HS1 := Lib.hid (B5.cell 1)
          have HS2 := Lib.hid (B5.cell 2)
          have HS3 := Lib.hid (B5.cell 3)
          have HULN := Lib.hid (show us.length = ps.length from HU.out)
          have HBC := Lib.hid (show ∀ b, b ≠ w.heap.size + 1 → b ≠ w.heap.size + 2 → (((((w5.setCell ⟨w.heap.size + 1 + 1, 3, none⟩ (.bool false)).setCell ⟨w.heap.size + 1, 0, none⟩ (.int .i64 k)).setCell ⟨w.heap.size + 1, 1, none⟩ (.int .i64 n)).setCell ⟨w.heap.size + 1, 2, none⟩ (.slice a1 ps.length c1)).setCell ⟨w.heap.size + 1, 3, none⟩ (.bool false)).heap[b]? = w5.heap[b]? from fun b h1 h2 => by
            rw [Below.heap_setCell _ _ _ _ h1, Below.heap_setCell _ _ _ _ h1, Below.heap_setCell _ _ _ _ h1, Below.heap_setCell _ _ _ _ h1, Below.heap_setCell _ _ _ _ h2])
          have HPF2 := Lib.hid (show IsTerm (((((w5.setCell ⟨w.heap.size + 1 + 1, 3, none⟩ (.bool false)).setCell ⟨w.heap.size + 1, 0, none⟩ (.int .i64 k)).setCell ⟨w.heap.size + 1, 1, none⟩ (.int .i64 n)).setCell ⟨w.heap.size + 1, 2, none⟩ (.slice a1 ps.length c1)).setCell ⟨w.heap.size + 1, 3, none⟩ (.bool false)) lo w5.heap.size (.node k n us) a1 c1 from
            HPAR.out.imp (fun b o hb => (World.cell?_of_block (a := ⟨b, o, none⟩) (HBC.out b hb.2.1 hb.2.2)).trans (HB5.out.cell (p := ⟨b, o, none⟩) (by show b < _; omega))) (fun b hb => ⟨hb.1.1, by omega⟩))
          have HG := Lib.hid (show GotIs (.node k n us) (.node k n us) false from ⟨fun h => (nomatch h), fun _ => rfl⟩)
          clear B5
          go_wp2_with fail
          refine bodyPost_ret (v := gotV (.node k n us, a1, c1, false)) (by simp [results, Tryd.results76, go_sem, gotV, TM.k, TM.n, TM.l, HULN.out, HS0.out, HS1.out, HS2.out, HS3.out]) rfl ?_
          exact ⟨(.node k n us, a1, c1, false), rfl, HPF2.out.wide (Nat.le_refl _) (by simp [World.setCell]), (by repeat first | exact HBE.out | refine Below.setCell ?_ (by simp <;> omega) _ | refine Below.alloc ?_ (by simp [World.setCell] <;> omega) _), HG.out⟩

end Go.Proofs.YtofmoggjpgjdgaaDoor

/- The document's many, at, named: what they share. -/
namespace Go.Proofs.YtofmoggjpgjdgaaDoor
open Go.RowKit
set_option linter.unusedVariables false
set_option maxRecDepth 100000

theorem infoG : (Tryd.prog.info? 75).map (fun i => (i.zero, i.size, i.bytes)) = some (some (.agg #[.int .i64 0, .int .i64 0, .slice none 0 0, .bool false]), 4, 48) := by kernel_rfl
theorem putM_at (H : Put) (k b : Int) : ∀ (l : List TM) (i j : Nat) (h : j < (putM H k i l b).length) (h2 : j < l.length), (putM H k i l b)[j] = putT H l[j] (b + bnd k (i + j))
  | t :: l, i, 0, h, h2 => by simp only [putM_cons, List.getElem_cons_zero, Nat.add_zero]
  | t :: l, i, j + 1, h, h2 => by
    have h3 : j < (putM H k (i + 1) l b).length := by rw [putM_cons, List.length_cons] at h; omega
    simp only [putM_cons, List.getElem_cons_succ]
    rw [putM_at H k b l (i + 1) j h3 (by simpa using h2)]
    have e : i + 1 + j = i + (j + 1) := by omega
    rw [e]
theorem own_sliceG {w : World} {base : Nat} {e : TypeId} {v : Value} {n : Nat} {xs : List Value} (h : w.ownsRow base e 4 v n xs) : ∃ a c, v = .slice a n c := by
  rcases h.2 with ⟨h1, h2⟩ | ⟨g, c, cur, h1, _⟩
  · exact ⟨none, 0, by rw [h1, h2]⟩
  · exact ⟨_, _, h1⟩
theorem TellsGot.over {u : TM} {lo lo' : Nat} {w w0 : World} {e : Ending} {w' : World} (h : TellsGot u lo w e w') (hb : Below w0.heap.size w0 w) (hl : lo' ≤ lo) : TellsGot u lo' w0 e w' := by
  obtain ⟨p, h1, h2, h3, h4⟩ := h
  exact ⟨p, h1, h2.wide hl (Nat.le_refl _), hb.trans (h3.mono hb.size), h4⟩
/-- What is told, stored into a box of its own. -/
theorem tells_of {u x : TM} {bl : Bool} {A : Option Addr} {cap g lo : Nat} {w w1 : World} (hx : IsTerm w1 lo w1.heap.size x A cap) (hlo : g < lo) (hg : w.heap.size ≤ g) (hb : Below w.heap.size w w1) (h : GotIs u x bl) :
    TellsGot u w.heap.size w (.returned (.agg #[.int .i64 x.k, .int .i64 x.n, .slice A x.l.length cap, .bool bl])) ((((w1.setCell ⟨g, 0, none⟩ (.int .i64 x.k)).setCell ⟨g, 1, none⟩ (.int .i64 x.n)).setCell ⟨g, 2, none⟩ (.slice A x.l.length cap)).setCell ⟨g, 3, none⟩ (.bool bl)) :=
  ⟨(x, A, cap, bl), rfl, ((hx.far3 hlo _ _ _).setFar hlo _).wide (by omega) (by simp [World.setCell]), (((hb.setCell (p := ⟨g, 0, none⟩) hg _).setCell (p := ⟨g, 1, none⟩) hg _).setCell (p := ⟨g, 2, none⟩) hg _).setCell (p := ⟨g, 3, none⟩) hg _, h⟩
theorem got_self (u : TM) : GotIs u u false := ⟨fun h => (nomatch h), fun _ => rfl⟩

end Go.Proofs.YtofmoggjpgjdgaaDoor

/- The document's many: a good term gone over, each variable as it should be. -/
namespace Go.Proofs.YtofmoggjpgjdgaaDoor
open Go.RowKit
set_option linter.unusedVariables false
set_option maxRecDepth 100000

def ManyRel (ls : List TM) (w : World) (k n b : Int) (l : List TM) (A : Option Addr) (cap : Nat) (pv iv : Value) (wr : World) : Prop :=
  ∃ (i : Nat) (ps : List GP) (P : Nat → Prop) (a1 : Option Addr) (c1 : Nat), i ≤ l.length ∧ iv = .int .i64 i ∧ pv = .slice a1 ps.length c1 ∧ Below w.heap.size w wr ∧
    Bk wr w.heap.size 24 #[.int .i64 k, .int .i64 n, .slice A l.length cap] ∧ Bk wr (w.heap.size + 1) 75 #[.int .i64 0, .int .i64 0, .slice none 0 0, .bool false] ∧
    GRow wr (w.heap.size + 2) (.slice a1 ps.length c1) ps P ∧ (∀ b, P b → w.heap.size + 2 ≤ b) ∧ ps.length = i ∧
    ∀ j (h1 : j < (putM (firstP ls) k 0 l b).length) (h2 : j < ps.length), GotIs (putM (firstP ls) k 0 l b)[j] ps[j].1 ps[j].2.2.2

set_option maxHeartbeats 4000000 in
theorem rmany_any (ls : List TM) (lo2 hi2 : Nat) (L : Option Addr) (capL : Nat) (hA : ls.all shapedB = true) (hl4 : ls.length ≤ 4000000000) : ∀ (t : TM) (b : Int) (lo hi : Nat) (A : Option Addr) (cap : Nat) (w : World), IsTerm w lo hi t A cap → hi ≤ w.heap.size → IsTerm w lo2 hi2 (.node 0 0 ls) L capL → hi2 ≤ w.heap.size → tgoodB t = true → 0 ≤ b → b + t.depth ≤ 200 →
    Calls Tryd.prog 62 #[termV t A cap, .slice L ls.length capL, .int .i64 b] w (TellsGot (putT (firstP ls) t b) w.heap.size w) := by
  intro t
  induction t using TM.ind with
  | h k n l ih =>
    intro b lo hi A cap w h hhi h2 hhi2 hg hb0 hb1
    obtain ⟨i0, hi0, hz0, hz1, hz2⟩ := info_parts infoG
    obtain ⟨hl, hm⟩ := h.bounds
    obtain ⟨g1, g2, g3, g4, g5, g6, g7⟩ := good_parts hg
    rw [tdepth_node] at hb1
    have HWB := Lib.hid (show Below w.heap.size w ((w.alloc (.cells #[.int .i64 k, .int .i64 n, .slice A l.length cap] 24)).alloc (.cells #[.int .i64 0, .int .i64 0, .slice none 0 0, .bool false] 75)) from ((Below.refl w.heap.size w).alloc (Nat.le_refl _) (.cells #[.int .i64 k, .int .i64 n, .slice A l.length cap] 24)).alloc (by simp <;> omega) (.cells #[.int .i64 0, .int .i64 0, .slice none 0 0, .bool false] 75))
    have KR := Lib.hid (fun (V : World) (hV : Below ((w.alloc (.cells #[.int .i64 k, .int .i64 n, .slice A l.length cap] 24)).alloc (.cells #[.int .i64 0, .int .i64 0, .slice none 0 0, .bool false] 75)).heap.size ((w.alloc (.cells #[.int .i64 k, .int .i64 n, .slice A l.length cap] 24)).alloc (.cells #[.int .i64 0, .int .i64 0, .slice none 0 0, .bool false] 75)) V) => (show Bk V (w.heap.size + 1) 75 #[.int .i64 0, .int .i64 0, .slice none 0 0, .bool false] from (Bk.last (w.alloc (.cells #[.int .i64 k, .int .i64 n, .slice A l.length cap] 24)) 75 #[.int .i64 0, .int .i64 0, .slice none 0 0, .bool false] (g := w.heap.size + 1) (by simp)).below hV (by simp <;> omega)))
    have CLF := Lib.hid (fun (z : Int) (V : World) => (mk_leaf 1 z V).mono fun e w' (h : _ ∧ _) => And.intro h.1 (show Below V.heap.size V w' from by rw [h.2]; exact (Below.refl _ _).alloc (Nat.le_refl _) _))
    have HCAP := Lib.hid hm
    by_cases hk : k = 1
    · have t1 : (k == 1) = true := by simpa using hk
      obtain rfl : l = [] := var_nil hg hk
      by_cases hb : n < b
      · have t2 : decide (n < b) = true := decide_eq_true hb
        have hE : putT (firstP ls) (.node k n []) b = .node k n [] := by rw [putT_node, if_neg (fun h => by rcases h with h | h <;> omega), putM_nil]
        rw [hE, termV_node]
        clear ih h h2 hg g1 g2 g3 g4 g5 g6 g7 hb0 hb1 hhi hhi2 hl hm hk hb hE
        go_enter Tryd.func62, Tryd.ntmps62
        have K := KR.out _ (Below.refl _ _)
        have B5 := (((K.at_ 0 (.int .i64 k)).at_ 1 (.int .i64 n)).at_ 2 (.slice A 0 cap)).at_ 3 (.bool false)
        have HS0 := Lib.hid (B5.cell 0)
        have HS1 := Lib.hid (B5.cell 1)
        have HS2 := Lib.hid (B5.cell 2)
        have HS3 := Lib.hid (B5.cell 3)
        clear B5
        clear K
        go_wp2_with fail
        refine bodyPost_ret (v := .agg #[.int .i64 k, .int .i64 n, .slice A 0 cap, .bool false]) (by simp [results, Tryd.results62, go_sem]) rfl ?_
        exact ⟨(.node k n [], A, cap, false), rfl, leaf_any _ _ _ _ HCAP.out, (by repeat first | exact Below.refl _ _ | refine Below.setCell ?_ (by simp) _ | refine Below.alloc ?_ (by simp <;> omega) _), got_self _⟩
      · have t2 : decide (n < b) = false := decide_eq_false hb
        have hiv : isV k n b := .inr ⟨hk, by omega⟩
        have hw1 : IntKind.i64.wrap (n - b) = n - b := IntWalk.i64_in _ (by omega)
        by_cases hm2 : n - b < (ls.length : Int)
        · obtain ⟨m, hmm⟩ : ∃ m : Nat, n - b = (m : Int) := ⟨(n - b).toNat, by omega⟩
          have hml : m < ls.length := by omega
          have hE : putT (firstP ls) (.node k n []) b = moveT b ls[m] 0 := by
            rw [putT_node, if_pos hiv]
            unfold firstP
            rw [if_neg (by omega), if_pos hm2, hmm, Int.toNat_natCast, List.getD_eq_getElem?_getD, List.getElem?_eq_getElem hml]; rfl
          rw [hE, termV_node]
          rw [hmm] at hw1 hm2
          have hm0 : (0 : Int) ≤ (m : Int) := by omega
          have t3 : decide ((m : Int) < (ls.length : Int)) = true := decide_eq_true hm2
          obtain ⟨gb, go, F, C, hLA, hb1', hb2', ⟨y0, y1, y2⟩, hnode⟩ := h2.sub m hml
          subst hLA
          have hsh := List.all_eq_true.1 hA _ (List.getElem_mem hml)
          obtain ⟨u, hu⟩ : ∃ u, ls[m] = u := ⟨_, rfl⟩
          rw [hu] at y0 y1 y2 hnode hsh ⊢
          have hgb : gb < w.heap.size := by omega
          have CR := Lib.hid (raised_any u b lo2 hi2 F C ((w.alloc (.cells #[.int .i64 k, .int .i64 n, .slice A 0 cap] 24)).alloc (.cells #[.int .i64 0, .int .i64 0, .slice none 0 0, .bool false] 75)) (hnode.kept HWB.out hhi2) (by simp; omega) hsh hb0 (by omega))
          unfold termV at CR
          clear ih h h2 hg g1 g2 g3 g4 g5 g6 g7 hb0 hb1 hhi hhi2 hl hm hk hb hE hiv hml hu hnode hsh hb1' hb2'
          go_enter Tryd.func62, Tryd.ntmps62
          go_wp2_with fail
          refine CR.out.mono ?_
          rintro e w1 ⟨⟨x, A3, c3, bl⟩, rfl, hx1, hb1, hgot⟩
          have hz1 := hb1.size
          simp at hz1
          have HB1 := Lib.hid (HWB.out.trans (hb1.mono (by simp <;> omega)))
          have HX1 := Lib.hid (show IsTerm w1 (w.heap.size + 2) w1.heap.size x A3 c3 from hx1.wide (by simp) (Nat.le_refl _))
          have HG1 := Lib.hid hgot
          have K := KR.out _ hb1
          have d0 : w1.cell? ⟨w.heap.size + 1, 0, none⟩ = some (.int .i64 0) := K.cell 0
          have d1 : w1.cell? ⟨w.heap.size + 1, 1, none⟩ = some (.int .i64 0) := K.cell 1
          have d2 : w1.cell? ⟨w.heap.size + 1, 2, none⟩ = some (.slice none 0 0) := K.cell 2
          have d3 : w1.cell? ⟨w.heap.size + 1, 3, none⟩ = some (.bool false) := K.cell 3
          have hfz : ∀ o, w1.frozen? ⟨w.heap.size + 1, o, none⟩ = false := fun o => K.cold o
          have B5 := (((K.at_ 0 (.int .i64 x.k)).at_ 1 (.int .i64 x.n)).at_ 2 (.slice A3 x.l.length c3)).at_ 3 (.bool bl)
          have HS0 := Lib.hid (B5.cell 0)
          have HS1 := Lib.hid (B5.cell 1)
          have HS2 := Lib.hid (B5.cell 2)
          have HS3 := Lib.hid (B5.cell 3)
          clear B5
          unfold gotV
          clear K hb1 hx1 hgot
          go_wp2_with fail
          refine bodyPost_ret (v := .agg #[.int .i64 x.k, .int .i64 x.n, .slice A3 x.l.length c3, .bool bl]) (by simp [results, Tryd.results62, go_sem, HS0.out, HS1.out, HS2.out, HS3.out]) rfl ?_
          exact tells_of HX1.out (by omega) (by omega) HB1.out HG1.out
        · have t3 : decide (n - b < (ls.length : Int)) = false := decide_eq_false hm2
          have hw2 : IntKind.i64.wrap (n - (ls.length : Int)) = n - (ls.length : Int) := IntWalk.i64_in _ (by omega)
          have hE : putT (firstP ls) (.node k n []) b = .node 1 (n - (ls.length : Int)) [] := by
            rw [putT_node, if_pos hiv]
            unfold firstP
            rw [if_neg (by omega), if_neg hm2]
          rw [hE, termV_node]
          clear ih h h2 hg g1 g2 g3 g4 g5 g6 g7 hb0 hb1 hhi hhi2 hl hm hk hb hE hiv
          go_enter Tryd.func62, Tryd.ntmps62
          go_wp2_with fail
          refine (CLF.out _ _).mono ?_
          rintro e w1 ⟨rfl, hb1⟩
          have hz1 := hb1.size
          simp at hz1
          have HB1 := Lib.hid (HWB.out.trans (hb1.mono (by simp <;> omega)))
          have K := KR.out _ hb1
          have d0 : w1.cell? ⟨w.heap.size + 1, 0, none⟩ = some (.int .i64 0) := K.cell 0
          have d1 : w1.cell? ⟨w.heap.size + 1, 1, none⟩ = some (.int .i64 0) := K.cell 1
          have d2 : w1.cell? ⟨w.heap.size + 1, 2, none⟩ = some (.slice none 0 0) := K.cell 2
          have d3 : w1.cell? ⟨w.heap.size + 1, 3, none⟩ = some (.bool false) := K.cell 3
          have hfz : ∀ o, w1.frozen? ⟨w.heap.size + 1, o, none⟩ = false := fun o => K.cold o
          have B5 := (((K.at_ 0 (.int .i64 1)).at_ 1 (.int .i64 (n - (ls.length : Int)))).at_ 2 (.slice none 0 0)).at_ 3 (.bool false)
          have HS0 := Lib.hid (B5.cell 0)
          have HS1 := Lib.hid (B5.cell 1)
          have HS2 := Lib.hid (B5.cell 2)
          have HS3 := Lib.hid (B5.cell 3)
          clear B5
          clear K hb1
          go_wp2_with fail
          refine bodyPost_ret (v := .agg #[.int .i64 1, .int .i64 (n - (ls.length : Int)), .slice none 0 0, .bool false]) (by simp [results, Tryd.results62, go_sem, HS0.out, HS1.out, HS2.out, HS3.out]) rfl ?_
          exact tells_of (x := .node 1 (n - (ls.length : Int)) []) (lo := w.heap.size + 2) (leaf_in _ _ _ _) (by omega) (by omega) HB1.out (got_self _)
    · have t1 : (k == 1) = false := by simpa using hk
      have HEQ := Lib.hid (show putT (firstP ls) (.node k n l) b = .node k n (putM (firstP ls) k 0 l b) from by
        rw [putT_node]
        by_cases h8 : k = 8
        · have hln : l = [] := by
            have h0 : manyM k = 0 := by unfold manyM; rw [if_neg (by omega), if_neg (by omega)]
            rw [h0] at g3
            exact List.length_eq_zero_iff.1 g3
          rw [if_pos (.inl h8), hln, putM_nil]
          unfold firstP
          rw [if_pos h8]
        · rw [if_neg (fun h => h.elim h8 (fun h => hk h.1))])
      have HFACT : Hid ((∀ u ∈ l, tgoodB u = true) ∧ b + depthM l ≤ 199 ∧ 1 ≤ k ∧ k ≤ 8 ∧ l.length = manyM k) := Lib.hid ⟨g7, by omega, g1, g2, g3⟩
      have hlen2 : l.length ≤ 2 := by have := manyM_le k; omega
      have hmx : b ≤ 2000000 ∧ 0 ≤ b := by omega
      have IH := Lib.hid ih
      have HN := Lib.hid h.sub
      have HLT := Lib.hid hhi
      have H2 := Lib.hid h2
      have HLT2 := Lib.hid hhi2
      have HA := Lib.hid hA
      have hbb0 := Lib.hid hb0
      have HMN : True := trivial
      rw [HEQ.out]
      unfold maxLen at hm
      have hcap := hm
      clear ih h h2 hg g1 g2 g3 g4 g5 g6 g7 hb1 hb0 hA hhi hhi2 hm hk
      rw [termV_node]
      skip
      skip
      all_goals
        go_enter Tryd.func62, Tryd.ntmps62
        go_wp2_with fail
        go_loopw [7, 8] (ManyRel ls w k n b l A cap) (fun _ iv _ => l.length - (intOf iv).toNat)
        case atStart =>
          have hE := World.ownsRow_lit (base := w.heap.size + 2) (e := 75) (size := 4) ((w.alloc (.cells #[.int .i64 k, .int .i64 n, .slice A l.length cap] 24)).alloc (.cells #[.int .i64 0, .int .i64 0, .slice none 0 0, .bool false] 75)) #[] 0 (by simp) (by decide) rfl
          refine ⟨0, [], fun _ => False, some ⟨w.heap.size + 2, 0, none⟩, 0, Nat.zero_le _, rfl, rfl, ?_, ?_, ?_, ⟨?_, fun _ h => h.elim, fun _ h => by cases h⟩, fun _ h => h.elim, rfl, fun j h1 h2 => by simp at h2⟩
          · exact HWB.out.alloc (by simp <;> omega) _
          · exact ((Bk.new w 24 _).alloc _).alloc _
          · exact (KR.out _ (Below.refl _ _)).alloc _
          · simpa [flatG] using hE
        case round =>
          obtain ⟨i, ps, P, a1, c1, hi1, rfl, rfl, hB, b1, b3, hrow, hP, hps, hgots⟩ := hrel
          have hz := hB.size
          have hlt3 := b3.lt
          have HPS := Lib.hid hps
          have HB1 := Lib.hid b1
          skip
          have HB3 := Lib.hid b3
          have HROW := Lib.hid hrow
          have HPP := Lib.hid hP
          have HGS := Lib.hid hgots
          have HBB := Lib.hid hB
          have f0 : wr.cell? ⟨w.heap.size, 0, none⟩ = some (.int .i64 k) := b1.cell 0
          have f1 : wr.cell? ⟨w.heap.size, 1, none⟩ = some (.int .i64 n) := b1.cell 1
          have f2 : wr.cell? ⟨w.heap.size, 2, none⟩ = some (.slice A l.length cap) := b1.cell 2
          skip
          clear b1 b3 hrow hP hgots hps
          by_cases hil : i < l.length
          · obtain ⟨bk, o, F, C, hAA, hb1', hb2', ⟨x0, x1, x2⟩, hnode⟩ := (HN.out i hil).kept hB HLT.out
            subst hAA
            have hi1' : (i : Int) < (l.length : Int) := by omega
            have hi0' : (0 : Int) ≤ (i : Int) := by omega
            have hgood := HFACT.out.1 _ (List.getElem_mem hil)
            have hdep : l[i].depth ≤ depthM l := wit_put.depth_mem (List.getElem_mem hil)
            have hbnd : bndR k i = bnd k i := (bnd_good (m := l.length - i) HFACT.out.2.2.1 HFACT.out.2.2.2.1 (by have := HFACT.out.2.2.2.2; omega) (by omega)).symm
            have hb01 := bnd_01 k i
            have hih := fun (V : World) (hV : Below wr.heap.size wr V) => IH.out (l[i]'hil) (List.getElem_mem hil) (b + bnd k i) lo hi F C V (hnode.kept hV (by have := HLT.out; omega)) (by have := hV.size; have := HLT.out; omega) (H2.out.kept (HBB.out.trans (hV.mono hz)) HLT2.out) (by have := hV.size; have := HLT2.out; omega) hgood (by have := hbb0.out; omega) (by have := HFACT.out.2.1; omega)
            have hput := fun (h1 : i < (putM (firstP ls) k 0 l b).length) => putM_at (firstP ls) k b l 0 i h1 hil
            simp only [Nat.zero_add] at hput
            obtain ⟨u, hu⟩ : ∃ u, l[i] = u := ⟨_, rfl⟩
            rw [hu] at x0 x1 x2 hnode hih hput
            obtain ⟨bb, hbbv⟩ : ∃ bb, bnd k i = bb := ⟨_, rfl⟩
            rw [hbbv] at hbnd hb01 hih hput
            have CB := Lib.hid (fun V => beneath_any k n (some ⟨bk, o, none⟩) l.length cap i V)
            rw [hbnd] at CB
            have hw1 : IntKind.i64.wrap (b + bb) = b + bb := IntWalk.i64_in _ (by omega)
            obtain ⟨x, hx⟩ : ∃ x, putT (firstP ls) u (b + bb) = x := ⟨_, rfl⟩
            rw [hx] at hih hput
            have HPUT := Lib.hid hput
            unfold TellsGot gotV termV at hih
            have HIH := Lib.hid hih
            have hbw : bk < wr.heap.size := by have := HLT.out; omega
            have HKS := Lib.hid (fun (V : World) (hV : Below wr.heap.size wr V) => (show V.cell? ⟨w.heap.size, 0, none⟩ = some (.int .i64 k) ∧ V.cell? ⟨w.heap.size, 1, none⟩ = some (.int .i64 n) ∧ V.cell? ⟨w.heap.size, 2, none⟩ = some (.slice (some ⟨bk, o, none⟩) l.length cap) ∧ V.cell? ⟨bk, o + i * 3, none⟩ = some (.int .i64 u.k) ∧ V.cell? ⟨bk, o + i * 3 + 1, none⟩ = some (.int .i64 u.n) ∧ V.cell? ⟨bk, o + i * 3 + 2, none⟩ = some (.slice F u.l.length C) from
              ⟨(hV.cell (p := ⟨w.heap.size, 0, none⟩) (by show w.heap.size < _; omega)).trans f0, (hV.cell (p := ⟨w.heap.size, 1, none⟩) (by show w.heap.size < _; omega)).trans f1, (hV.cell (p := ⟨w.heap.size, 2, none⟩) (by show w.heap.size < _; omega)).trans f2, (hV.cell (p := ⟨bk, _, none⟩) hbw).trans x0, (hV.cell (p := ⟨bk, _, none⟩) hbw).trans x1, (hV.cell (p := ⟨bk, _, none⟩) hbw).trans x2⟩))
            have HFIN : Hid (∀ (w3 : World) (x3 : TM) (A3 : Option Addr) (c3 : Nat) (l3 : Bool) (v2 : Value) (w4 : World), Below wr.heap.size wr w3 → IsTerm w3 wr.heap.size w3.heap.size x3 A3 c3 →
                AppTo (w3.alloc (.cells #[.int .i64 x3.k, .int .i64 x3.n, .slice A3 x3.l.length c3, .bool l3] 75)) (w.heap.size + 2) 75 4 (.slice a1 ps.length c1) (ps.length + 1) (flatG ps ++ cellsG (x3, A3, c3, l3)) v2 w4 →
                (w4.cell? ⟨w.heap.size, 0, none⟩ = some (.int .i64 k) ∧ w4.cell? ⟨w.heap.size, 1, none⟩ = some (.int .i64 n) ∧ w4.cell? ⟨w.heap.size, 2, none⟩ = some (.slice (some ⟨bk, o, none⟩) l.length cap) ∧ w4.cell? ⟨bk, o + i * 3, none⟩ = some (.int .i64 u.k) ∧ w4.cell? ⟨bk, o + i * 3 + 1, none⟩ = some (.int .i64 u.n) ∧ w4.cell? ⟨bk, o + i * 3 + 2, none⟩ = some (.slice F u.l.length C)) ∧ Hid (Bk w4 w.heap.size 24 #[.int .i64 k, .int .i64 n, .slice (some ⟨bk, o, none⟩) l.length cap]) ∧ Hid (Bk w4 (w.heap.size + 1) 75 #[.int .i64 0, .int .i64 0, .slice none 0 0, .bool false]) ∧
                Hid (GRow w4 (w.heap.size + 2) v2 (ps ++ [(x3, A3, c3, l3)]) (fun b => P b ∨ (wr.heap.size ≤ b ∧ b < w3.heap.size))) ∧ Hid (Below w.heap.size w w4) ∧ Hid (∃ a2 c2, v2 = .slice a2 (ps.length + 1) c2)) := Lib.hid (by
              intro w3 x3 A3 c3 l3 v2 w4 hV hx3 ha
              have hVz := hV.size
              have hVa := hV.alloc hV.size (.cells #[.int .i64 x3.k, .int .i64 x3.n, .slice A3 x3.l.length c3, .bool l3] 75)
              have hR := (HROW.out.below hV).alloc (.cells #[.int .i64 x3.k, .int .i64 x3.n, .slice A3 x3.l.length c3, .bool l3] 75)
              have hlt0 := hR.row.lt
              have hlt1 := HROW.out.row.lt
              have hne : ∀ g, g < w.heap.size + 2 → some g ≠ (Value.slice a1 ps.length c1).ownBlock := fun g hg e => by
                have := hlt0 g e.symm
                omega
              have hnb : some bk ≠ (Value.slice a1 ps.length c1).ownBlock := fun e => by
                have := hlt0 bk e.symm
                have := HLT.out
                omega
              have cA := fun g (hg : g < w.heap.size + 2) q => (ha.2.1.cell_far ⟨g, q, none⟩ (by show g < _; simp; omega) (hne g hg)).trans (hVa.cell (p := ⟨g, q, none⟩) (by show g < _; omega))
              have cB := fun q => (ha.2.1.cell_far ⟨bk, q, none⟩ (by show bk < _; simp; omega) hnb).trans (hVa.cell (p := ⟨bk, q, none⟩) hbw)
              refine ⟨⟨(cA _ (by omega) 0).trans f0, (cA _ (by omega) 1).trans f1, (cA _ (by omega) 2).trans f2, (cB _).trans x0, (cB _).trans x1, (cB _).trans x2⟩, (HB1.out.below hVa (by omega)).grown ha.2.1 (hne _ (by omega)), (HB3.out.below hVa (by omega)).grown ha.2.1 (hne _ (by omega)), ?_, (HBB.out.trans (hVa.mono hz)).grown ha.2.1 (by have := hVa.size; omega) (fun g e => by have := hlt0 g e; omega), own_sliceG ha.1⟩
              exact hR.push (Pn := fun b => wr.heap.size ≤ b ∧ b < w3.heap.size) (p := (x3, A3, c3, l3)) (hx3.alloc (Nat.le_refl _) _) (fun b hb => ⟨by simp; omega, fun e => by have := hlt1 b e; omega⟩) ha.1 ha.2.1 ha.2.2)
            have HOW := Lib.hid (fun (w3 : World) (x3 : TM) (A3 : Option Addr) (c3 : Nat) (l3 : Bool) (hV : Below wr.heap.size wr w3) => ((HROW.out.below hV).alloc (.cells #[.int .i64 x3.k, .int .i64 x3.n, .slice A3 x3.l.length c3, .bool l3] 75)).row)
            have HZW := Lib.hid (fun (V : World) (hV : Below wr.heap.size wr V) => hV.size)
            have hbk := Lib.hid ((Below.refl wr.heap.size wr).drew)
            have hps9 : ps.length ≤ 2 := by have := HPS.out; omega
            clear hih hput hnode hu hx hgood hdep hbnd hbbv
            go_upto_region 11 with fail
            go_region_held3 (fun w' => w'.cell? ⟨w.heap.size, 0, none⟩ = some (.int .i64 k) ∧ w'.cell? ⟨w.heap.size, 1, none⟩ = some (.int .i64 n) ∧ w'.cell? ⟨w.heap.size, 2, none⟩ = some (.slice (some ⟨bk, o, none⟩) l.length cap) ∧ w'.cell? ⟨bk, o + i * 3, none⟩ = some (.int .i64 u.k) ∧ w'.cell? ⟨bk, o + i * 3 + 1, none⟩ = some (.int .i64 u.n) ∧ w'.cell? ⟨bk, o + i * 3 + 2, none⟩ = some (.slice F u.l.length C))
              (first | exact hks | exact HKS.out _ hbk.out | exact HKS.out _ (hbk.out.alloc hbk.out.size _))
              (first
              | (go_at_call 63; refine (CB.out _).mono ?_; rintro e w2 ⟨rfl, hb2⟩; have hbk := Lib.hid (hbk.out.trans (hb2.mono hbk.out.size)); clear hb2)
              | (go_at_call 62
                 refine (HIH.out _ hbk.out).mono ?_
                 rintro e w3 ⟨⟨x3, A3, c3, l3⟩, rfl, hx3, hbn, hgot⟩
                 have HX3 := Lib.hid (hx3.wide (HZW.out _ hbk.out) (Nat.le_refl _))
                 have HGOT := Lib.hid hgot
                 have hbk := Lib.hid (hbk.out.trans (hbn.mono hbk.out.size))
                 have hz3 := HZW.out _ hbk.out
                 clear hx3 hgot hbn)
              | (refine step_app rfl (.tmp 49) (.tmp 62) 84 rfl (w.heap.size + 2) 75 i0 (.agg #[.int .i64 0, .int .i64 0, .slice none 0 0, .bool false]) 4 48 Tryd.underlying84 hi0 hz0 hz1 hz2 rfl (by decide) (.slice a1 ps.length c1) ps.length (flatG ps) rfl (HOW.out _ x3 A3 c3 l3 hbk.out) (some ⟨w3.heap.size, 0, none⟩) 1 1 (cellsG (x3, A3, c3, l3)) rfl (src_at _ _ _ (by simp) rfl) (cellsG_one _) (by unfold maxLen; omega) (by omega) (by simp; omega) ?_
                 rintro v2 w4 ha4
                 obtain ⟨hks, HT4, HR4, HROW4, HBL4, HSL4⟩ := HFIN.out _ _ _ _ _ _ w4 hbk.out HX3.out ha4
                 obtain ⟨a2, c2, hv2⟩ := HSL4.out
                 subst hv2
                 clear ha4))
            all_goals
              have HGN : Hid (∀ j (h1 : j < (putM (firstP ls) k 0 l b).length) (h2 : j < (ps ++ [(x3, A3, c3, l3)]).length), GotIs (putM (firstP ls) k 0 l b)[j] (ps ++ [(x3, A3, c3, l3)])[j].1 (ps ++ [(x3, A3, c3, l3)])[j].2.2.2) := Lib.hid (fun j h1 h2 => by
                by_cases hj : j < ps.length
                · rw [List.getElem_append_left hj]; exact HGS.out j h1 hj
                · have h3 := HPS.out
                  obtain rfl : j = i := by simp at h2; omega
                  have e : (ps ++ [(x3, A3, c3, l3)])[j]'h2 = (x3, A3, c3, l3) := by
                    rw [List.getElem_append_right (by omega)]; simp [h3]
                  rw [e, HPUT.out h1]
                  exact HGOT.out)
              have HLN : Hid ((ps ++ [(x3, A3, c3, l3)]).length = ps.length + 1) := Lib.hid (by simp)
              clear hbk hps9 HKS HIH CB HFIN HOW
              go_wp2_with fail
              go_roundw
              case rel =>
                refine ⟨i + 1, ps ++ [(x3, A3, c3, l3)], fun b => P b ∨ (wr.heap.size ≤ b ∧ b < w3.heap.size), a2, c2, by omega, rfl, by rw [HLN.out], HBL4.out, HT4.out, HR4.out, by rw [HLN.out]; exact HROW4.out, fun b hb => ?_, by have := HPS.out; have := HLN.out; omega, HGN.out⟩
                rcases hb with hb | hb
                · exact HPP.out b hb
                · omega
              case measure => simp [intOf]; omega
          · obtain rfl : i = l.length := by omega
            have CS := subs_any k n l A cap wr (w.heap.size + 2) (w.heap.size + 2) a1 c1 ps P (putM (firstP ls) k 0 l b) HROW.out (by omega) (fun b hb => HPP.out b hb) (by omega) (by rw [putM_len]; exact HPS.out.symm) HGS.out (by have := HPS.out; omega)
            unfold TellsGot gotV termV at CS
            have HCS := Lib.hid CS
            clear CS HGS HROW HFACT IH HN
            go_wp2_with fail
            refine HCS.out.mono ?_
            rintro e w5 ⟨⟨x5, A5, c5, l5⟩, rfl, hx5, hb5, hg5⟩
            have hz5 := hb5.size
            have K := HB3.out.below hb5 hlt3
            have HB5 := Lib.hid (HBB.out.trans (hb5.mono hz))
            have HX5 := Lib.hid hx5
            have HG5 := Lib.hid hg5
            have d0 : w5.cell? ⟨w.heap.size + 1, 0, none⟩ = some (.int .i64 0) := K.cell 0
            have d1 : w5.cell? ⟨w.heap.size + 1, 1, none⟩ = some (.int .i64 0) := K.cell 1
            have d2 : w5.cell? ⟨w.heap.size + 1, 2, none⟩ = some (.slice none 0 0) := K.cell 2
            have d3 : w5.cell? ⟨w.heap.size + 1, 3, none⟩ = some (.bool false) := K.cell 3
            have hfz : ∀ o, w5.frozen? ⟨w.heap.size + 1, o, none⟩ = false := fun o => K.cold o
            have B5 := (((K.at_ 0 (.int .i64 x5.k)).at_ 1 (.int .i64 x5.n)).at_ 2 (.slice A5 x5.l.length c5)).at_ 3 (.bool l5)
            have HS0 := Lib.hid (B5.cell 0)
            have HS1 := Lib.hid (B5.cell 1)
            have HS2 := Lib.hid (B5.cell 2)
            have HS3 := Lib.hid (B5.cell 3)
            clear B5
            clear K hb5 hx5 hg5
            go_wp2_with fail
            refine bodyPost_ret (v := .agg #[.int .i64 x5.k, .int .i64 x5.n, .slice A5 x5.l.length c5, .bool l5]) (by simp [results, Tryd.results62, go_sem, HS0.out, HS1.out, HS2.out, HS3.out]) rfl ?_
            exact tells_of HX5.out (by omega) (by omega) HB5.out HG5.out

end Go.Proofs.YtofmoggjpgjdgaaDoor

/- The document's at: a good term gone over, each variable as it should be. -/
namespace Go.Proofs.YtofmoggjpgjdgaaDoor
open Go.RowKit
set_option linter.unusedVariables false
set_option maxRecDepth 100000

def AtRel (a : TM) (N : Int) (A2 : Option Addr) (cap2 : Nat) (w : World) (k n b : Int) (l : List TM) (A : Option Addr) (cap : Nat) (pv iv : Value) (wr : World) : Prop :=
  ∃ (i : Nat) (ps : List GP) (P : Nat → Prop) (a1 : Option Addr) (c1 : Nat), i ≤ l.length ∧ iv = .int .i64 i ∧ pv = .slice a1 ps.length c1 ∧ Below w.heap.size w wr ∧
    Bk wr w.heap.size 24 #[.int .i64 k, .int .i64 n, .slice A l.length cap] ∧ Bk wr (w.heap.size + 1) 24 #[.int .i64 a.k, .int .i64 a.n, .slice A2 a.l.length cap2] ∧ Bk wr (w.heap.size + 2) 75 #[.int .i64 0, .int .i64 0, .slice none 0 0, .bool false] ∧
    GRow wr (w.heap.size + 3) (.slice a1 ps.length c1) ps P ∧ (∀ b, P b → w.heap.size + 3 ≤ b) ∧ ps.length = i ∧
    ∀ j (h1 : j < (putM (atP a N) k 0 l b).length) (h2 : j < ps.length), GotIs (putM (atP a N) k 0 l b)[j] ps[j].1 ps[j].2.2.2

end Go.Proofs.YtofmoggjpgjdgaaDoor

/- The document's named: a good term gone over, each variable as it should be. -/
namespace Go.Proofs.YtofmoggjpgjdgaaDoor
open Go.RowKit
set_option linter.unusedVariables false
set_option maxRecDepth 100000

def NamedRel (a : TM) (N : Int) (A2 : Option Addr) (cap2 : Nat) (w : World) (k n b : Int) (l : List TM) (A : Option Addr) (cap : Nat) (pv iv : Value) (wr : World) : Prop :=
  ∃ (i : Nat) (ps : List GP) (P : Nat → Prop) (a1 : Option Addr) (c1 : Nat), i ≤ l.length ∧ iv = .int .i64 i ∧ pv = .slice a1 ps.length c1 ∧ Below w.heap.size w wr ∧
    Bk wr w.heap.size 24 #[.int .i64 k, .int .i64 n, .slice A l.length cap] ∧ Bk wr (w.heap.size + 1) 24 #[.int .i64 a.k, .int .i64 a.n, .slice A2 a.l.length cap2] ∧ Bk wr (w.heap.size + 2) 75 #[.int .i64 0, .int .i64 0, .slice none 0 0, .bool false] ∧
    GRow wr (w.heap.size + 3) (.slice a1 ps.length c1) ps P ∧ (∀ b, P b → w.heap.size + 3 ≤ b) ∧ ps.length = i ∧
    ∀ j (h1 : j < (putM (namedP a N) k 0 l b).length) (h2 : j < ps.length), GotIs (putM (namedP a N) k 0 l b)[j] ps[j].1 ps[j].2.2.2

end Go.Proofs.YtofmoggjpgjdgaaDoor

/- The document's At, Named, Bind, Many. -/
namespace Go.Proofs.YtofmoggjpgjdgaaDoor
open Go.RowKit
set_option linter.unusedVariables false
set_option maxRecDepth 100000

def RManyRel (w : World) (bx : Bool) (ls : List TM) (W0 : World) (ok iv : Value) (wr : World) : Prop := ∃ i : Nat, i ≤ ls.length ∧ iv = .int .i64 i ∧ ok = .bool (bx && (ls.take i).all shapedB) ∧ Below W0.heap.size W0 wr
set_option maxHeartbeats 2000000 in
theorem rMany_any (t : TM) (lo hi : Nat) (A : Option Addr) (cap : Nat) (ls : List TM) (lo2 hi2 : Nat) (L : Option Addr) (capL : Nat) (w : World) (h : IsTerm w lo hi t A cap) (hhi : hi ≤ w.heap.size) (h2 : IsTerm w lo2 hi2 (.node 0 0 ls) L capL) (hhi2 : hi2 ≤ w.heap.size) (hl4 : ls.length ≤ 4000000000) :
    Calls Tryd.prog 40 #[termV t A cap, .slice L ls.length capL] w (GivesT (manyX t ls) w) := by
  have HW := Lib.hid (show Below w.heap.size w ((w.alloc (.cells #[.int .i64 t.k, .int .i64 t.n, .slice A t.l.length cap] 24)).alloc (.cells #[.int .i64 0, .int .i64 0, .slice none 0 0] 24)) from ((Below.refl w.heap.size w).alloc (Nat.le_refl _) (.cells #[.int .i64 t.k, .int .i64 t.n, .slice A t.l.length cap] 24)).alloc (by simp <;> omega) (.cells #[.int .i64 0, .int .i64 0, .slice none 0 0] 24))
  have KB0 := Lib.hid (fun (V : World) (hV : Below ((w.alloc (.cells #[.int .i64 t.k, .int .i64 t.n, .slice A t.l.length cap] 24)).alloc (.cells #[.int .i64 0, .int .i64 0, .slice none 0 0] 24)).heap.size ((w.alloc (.cells #[.int .i64 t.k, .int .i64 t.n, .slice A t.l.length cap] 24)).alloc (.cells #[.int .i64 0, .int .i64 0, .slice none 0 0] 24)) V) => (show Bk V w.heap.size 24 #[.int .i64 t.k, .int .i64 t.n, .slice A t.l.length cap] from ((Bk.new w 24 _).alloc _).below hV (by simp <;> omega)))
  have KB1 := Lib.hid (fun (V : World) (hV : Below ((w.alloc (.cells #[.int .i64 t.k, .int .i64 t.n, .slice A t.l.length cap] 24)).alloc (.cells #[.int .i64 0, .int .i64 0, .slice none 0 0] 24)).heap.size ((w.alloc (.cells #[.int .i64 t.k, .int .i64 t.n, .slice A t.l.length cap] 24)).alloc (.cells #[.int .i64 0, .int .i64 0, .slice none 0 0] 24)) V) => (show Bk V (w.heap.size + 1) 24 #[.int .i64 0, .int .i64 0, .slice none 0 0] from (Bk.last (w.alloc (.cells #[.int .i64 t.k, .int .i64 t.n, .slice A t.l.length cap] 24)) 24 #[.int .i64 0, .int .i64 0, .slice none 0 0] (g := w.heap.size + 1) (by simp)).below hV (by simp <;> omega)))
  have CC0 := Lib.hid (refShaped_any t lo hi A cap ((w.alloc (.cells #[.int .i64 t.k, .int .i64 t.n, .slice A t.l.length cap] 24)).alloc (.cells #[.int .i64 0, .int .i64 0, .slice none 0 0] 24)) (h.kept HW.out hhi) (by simp; omega))
  have HN := Lib.hid h2.sub
  have HLT2 := Lib.hid hhi2
  have CSH := Lib.hid (fun (u : TM) (lo hi : Nat) (A : Option Addr) (cap : Nat) (V : World) (h : IsTerm V lo hi u A cap) (hhi : hi ≤ V.heap.size) => refShaped_any u lo hi A cap V h hhi)
  obtain ⟨b1, hb1⟩ : ∃ b1, shapedB t = b1 := ⟨_, rfl⟩
  obtain ⟨b2, hb2⟩ : ∃ b2, ls.all shapedB = b2 := ⟨_, rfl⟩
  have HX0 := Lib.hid (fun (hb : (b1 && b2) = false) => (show manyX t ls = (.node 0 0 [], 5) by unfold manyX; rw [hb1, hb2, hb]; rfl))
  have CDN := Lib.hid (fun (hb : (b1 && b2) = true) (p : GP) (V : World) (lo : Nat) (hg : GotIs (putT (firstP ls) t 0) p.1 p.2.2.2) (h : IsTerm V lo V.heap.size p.1 p.2.1 p.2.2.1) => (show Calls Tryd.prog 61 #[gotV p] V (GivesAt (manyX t ls) lo V) from by
    have e : manyX t ls = gotX (putT (firstP ls) t 0) := by unfold manyX; rw [hb1, hb2, hb]; rfl
    rw [e]
    exact done_any _ p lo V hg h))
  have CF0 := Lib.hid (fun (hb : (b1 && b2) = true) => (show ∀ V, Below ((w.alloc (.cells #[.int .i64 t.k, .int .i64 t.n, .slice A t.l.length cap] 24)).alloc (.cells #[.int .i64 0, .int .i64 0, .slice none 0 0] 24)).heap.size ((w.alloc (.cells #[.int .i64 t.k, .int .i64 t.n, .slice A t.l.length cap] 24)).alloc (.cells #[.int .i64 0, .int .i64 0, .slice none 0 0] 24)) V → Calls Tryd.prog 62 #[termV t A cap, .slice L ls.length capL, .int .i64 0] V (TellsGot (putT (firstP ls) t 0) V.heap.size V) from by
    rw [hb1.symm, hb2.symm] at hb
    simp only [Bool.and_eq_true] at hb
    obtain ⟨q1, q2⟩ := hb
    obtain ⟨s1, s2, s3⟩ := shapedB_true.1 q1
    intro V hV
    have hV0 := HW.out.trans (hV.mono (by simp <;> omega))
    exact rmany_any ls lo2 hi2 L capL q2 hl4 t 0 lo hi A cap V (h.kept hV0 hhi) (by have := hV0.size; omega) (h2.kept hV0 hhi2) (by have := hV0.size; omega) s3 (by omega) (by omega)))
  rw [hb1] at CC0
  have HB2 := Lib.hid hb2
  unfold termV at CC0 CF0 CSH ⊢
  obtain ⟨RR, hRR⟩ : ∃ RR, manyX t ls = RR := ⟨_, rfl⟩
  rw [hRR] at HX0 CDN ⊢
  have HHI := Lib.hid hhi
  clear h h2 hb1 hb2 hRR hhi hhi2
  go_enter Tryd.func40, Tryd.ntmps40
  go_wp2_with fail
  refine CC0.out.mono ?_
  rintro e w1 ⟨rfl, hc0⟩
  have HC0 := Lib.hid hc0
  clear hc0
  go_wp2_with fail
  go_loopw [6, 7] (RManyRel w b1 ls ((w.alloc (.cells #[.int .i64 t.k, .int .i64 t.n, .slice A t.l.length cap] 24)).alloc (.cells #[.int .i64 0, .int .i64 0, .slice none 0 0] 24))) (fun _ iv _ => ls.length - (intOf iv).toNat)
  case atStart => exact ⟨0, Nat.zero_le _, rfl, by simp, HC0.out⟩
  case round =>
    obtain ⟨i, hi1, rfl, rfl, hB⟩ := hrel
    have hz := hB.size
    simp at hz
    have hbw := Lib.hid (HW.out.trans (hB.mono (by simp <;> omega)))
    have b00 : wr.cell? ⟨w.heap.size, 0, none⟩ = some (.int .i64 t.k) := (KB0.out _ hB).cell 0
    have b01 : wr.cell? ⟨w.heap.size, 1, none⟩ = some (.int .i64 t.n) := (KB0.out _ hB).cell 1
    have b02 : wr.cell? ⟨w.heap.size, 2, none⟩ = some (.slice A t.l.length cap) := (KB0.out _ hB).cell 2
    have b10 : wr.cell? ⟨w.heap.size + 1, 0, none⟩ = some (.int .i64 0) := (KB1.out _ hB).cell 0
    have b11 : wr.cell? ⟨w.heap.size + 1, 1, none⟩ = some (.int .i64 0) := (KB1.out _ hB).cell 1
    have b12 : wr.cell? ⟨w.heap.size + 1, 2, none⟩ = some (.slice none 0 0) := (KB1.out _ hB).cell 2
    have hfz : ∀ o, wr.frozen? ⟨w.heap.size + 1, o, none⟩ = false := fun o => (KB1.out _ hB).cold o
    have HBB := Lib.hid hB
    by_cases hil : i < ls.length
    · have hi1' : (i : Int) < (ls.length : Int) := by omega
      have hi0' : (0 : Int) ≤ (i : Int) := by omega
      have hst : (ls.take (i + 1)).all shapedB = ((ls.take i).all shapedB && shapedB ls[i]) := by
        rw [List.take_succ_eq_append_getElem hil, List.all_append]; simp
      obtain ⟨ob, hob⟩ : ∃ ob, (b1 && (ls.take i).all shapedB) = ob := ⟨_, rfl⟩
      have hst2 : (b1 && (ls.take (i + 1)).all shapedB) = (ob && shapedB ls[i]) := by rw [hst, ← hob, Bool.and_assoc]
      have HST := Lib.hid hst2
      rw [hob]
      clear hst hst2 hob
      cases ob with
      | false =>
        go_wp2_with fail
        go_roundw
        case rel => exact ⟨i + 1, by omega, rfl, by rw [HST.out]; rfl, HBB.out⟩
        case measure => simp [intOf]; omega
      | true =>
        obtain ⟨gb, go, F, C, hL, hb1', hb2', ⟨y0, y1, y2⟩, hnode⟩ := (HN.out i hil).kept hbw.out HLT2.out
        subst hL
        obtain ⟨u, hu⟩ : ∃ u, ls[i] = u := ⟨_, rfl⟩
        rw [hu] at y0 y1 y2 hnode HST
        have CU := Lib.hid (CSH.out u lo2 hi2 F C wr hnode (by have := HLT2.out; omega))
        obtain ⟨bu, hbu⟩ : ∃ bu, shapedB u = bu := ⟨_, rfl⟩
        rw [hbu] at CU HST
        clear hnode hu hbu
        go_wp2_with fail
        refine CU.out.mono ?_
        rintro e w2 ⟨rfl, hb2⟩
        have HB2' := Lib.hid (HBB.out.trans (hb2.mono HBB.out.size))
        clear hb2
        go_wp2_with fail
        go_roundw
        case rel => exact ⟨i + 1, by omega, rfl, by rw [HST.out]; rfl, HB2'.out⟩
        case measure => simp [intOf]; omega
    · obtain rfl : i = ls.length := by omega
      have hok : (b1 && (ls.take ls.length).all shapedB) = (b1 && b2) := by rw [List.take_length, HB2.out]
      rw [hok]
      obtain ⟨bo, hbo⟩ : ∃ bo, (b1 && b2) = bo := ⟨_, rfl⟩
      rw [hbo] at HX0 CDN CF0 ⊢
      clear hok hbo CSH HN
      cases bo with
      | false =>
        have HE := Lib.hid (HX0.out rfl)
        have B5 := (((KB1.out _ HBB.out).at_ 0 (.int .i64 0)).at_ 1 (.int .i64 0)).at_ 2 (.slice none 0 0)
        have HS0 := Lib.hid (B5.cell 0)
        have HS1 := Lib.hid (B5.cell 1)
        have HS2 := Lib.hid (B5.cell 2)
        have HBF := Lib.hid (HW.out.trans (HBB.out.mono (by simp <;> omega)))
        clear B5
        go_wp2_with fail
        refine bodyPost_ret (v := .tuple #[.agg #[.int .i64 0, .int .i64 0, .slice none 0 0], .int .i64 5]) (by simp [results, Tryd.results40, go_sem, HS0.out, HS1.out, HS2.out]) rfl ?_
        rw [HE.out]
        exact give_zero HBF.out (by omega)
      | true =>
        have CF := Lib.hid (CF0.out rfl)
        have CDM := CDN.out rfl
        clear CDN
        have CDN := Lib.hid CDM
        clear CF0 HX0 CC0 CDM
        obtain ⟨x, c⟩ := RR
        go_wp2_with fail
        refine (CF.out _ HBB.out).mono ?_
        rintro e wf ⟨p5, rfl, hx5, hcf, hg5⟩
        have hbf := Lib.hid (HBB.out.trans (hcf.mono HBB.out.size))
        have CD := Lib.hid (CDN.out p5 wf _ hg5 hx5)
        have hzf := hcf.size
        clear hx5 hcf hg5 b00 b01 b02 b10 b11 b12 hfz
        unfold GivesAt at CD
        go_wp2_with fail
        refine CD.out.mono ?_
        rintro e wd ⟨A4, c4, rfl, hx4, hcd⟩
        have hbd := Lib.hid (hbf.out.trans (hcd.mono hbf.out.size))
        have HBD := Lib.hid (HW.out.trans (hbd.out.mono (by simp <;> omega)))
        have HX4 := Lib.hid hx4
        have HLO : Hid (w.heap.size + 1 < wr.heap.size) := Lib.hid (by omega)
        have K2 := KB1.out _ hbd.out
        have hfz : ∀ o, wd.frozen? ⟨w.heap.size + 1, o, none⟩ = false := fun o => K2.cold o
        have d0 : wd.cell? ⟨w.heap.size + 1, 0, none⟩ = some (.int .i64 0) := K2.cell 0
        have d1 : wd.cell? ⟨w.heap.size + 1, 1, none⟩ = some (.int .i64 0) := K2.cell 1
        have d2 : wd.cell? ⟨w.heap.size + 1, 2, none⟩ = some (.slice none 0 0) := K2.cell 2
        have B5 := ((K2.at_ 0 (.int .i64 x.k)).at_ 1 (.int .i64 x.n)).at_ 2 (.slice A4 x.l.length c4)
        have HS0 := Lib.hid (B5.cell 0)
        have HS1 := Lib.hid (B5.cell 1)
        have HS2 := Lib.hid (B5.cell 2)
        clear B5 K2 hcd hx4
        go_wp2_with fail
        refine bodyPost_ret (v := .tuple #[.agg #[.int .i64 x.k, .int .i64 x.n, .slice A4 x.l.length c4], .int .i64 c]) (by simp [results, Tryd.results40, go_sem, HS0.out, HS1.out, HS2.out]) rfl ?_
        exact give_term HBD.out (by omega) HX4.out HLO.out

end Go.Proofs.YtofmoggjpgjdgaaDoor
