/- The document's Got: a term, and whether it is too great: in memory, in rows; Fits, raised, done. -/
import Derived.Test.YtcobionbgiaomaaDoorUFair
import Derived.Test.YtcobionbgiaomaaDoorLMove
namespace Go.Proofs.YtcobionbgiaomaaDoor
open Go.RowKit
set_option linter.unusedVariables false
set_option maxRecDepth 100000

abbrev GP := TM × Option Addr × Nat × Bool
def triG (p : GP) : TM × Option Addr × Nat := (p.1, p.2.1, p.2.2.1)
def cellsG (p : GP) : List Value := [.int .i64 p.1.k, .int .i64 p.1.n, .slice p.2.1 p.1.l.length p.2.2.1, .bool p.2.2.2]
def flatG (ps : List GP) : List Value := ps.flatMap cellsG
theorem flatG_snoc (ps : List GP) (p : GP) : flatG (ps ++ [p]) = flatG ps ++ cellsG p := by
  unfold flatG; rw [List.flatMap_append]; simp
theorem flatG_at : ∀ (ps : List GP) (j r : Nat) (h : j < ps.length), r < 4 → (flatG ps)[j * 4 + r]? = (cellsG ps[j])[r]?
  | p :: ps, 0, r, _, hr => by
    show (cellsG p ++ flatG ps)[0 * 4 + r]? = _
    rw [List.getElem?_append_left (by simp [cellsG]; omega)]
    simp
  | p :: ps, j + 1, r, h, hr => by
    show (cellsG p ++ flatG ps)[(j + 1) * 4 + r]? = _
    rw [List.getElem?_append_right (by simp [cellsG]; omega)]
    have e : (j + 1) * 4 + r - (cellsG p).length = j * 4 + r := by simp [cellsG]; omega
    rw [e, flatG_at ps j r (by simpa using h) hr]
    rfl
theorem cellsG_one (p : GP) : ∀ u ∈ cellsG p, u.oneCell' = true := by
  intro u hu
  simp [cellsG] at hu
  rcases hu with rfl | rfl | rfl | rfl <;> rfl
/-- A row of such, of the call's own, and the terms behind them, in other blocks. -/
structure GRow (w : World) (base : Nat) (v : Value) (ps : List GP) (P : Nat → Prop) : Prop where
  row : w.ownsRow base 53 4 v ps.length (flatG ps)
  far : ∀ b, P b → b < w.heap.size ∧ v.ownBlock ≠ some b
  node : ∀ p ∈ ps, TermIn w P p.1 p.2.1 p.2.2.1
theorem GRow.kept {w w' : World} {base : Nat} {v : Value} {ps : List GP} {P : Nat → Prop} (h : GRow w base v ps P) (hz : w.heap.size ≤ w'.heap.size)
    (hr : w'.ownsRow base 53 4 v ps.length (flatG ps)) (hc : ∀ b, P b → w'.heap[b]? = w.heap[b]?) : GRow w' base v ps P :=
  ⟨hr, fun b hb => ⟨Nat.lt_of_lt_of_le (h.far b hb).1 hz, (h.far b hb).2⟩, fun p hp => (h.node p hp).imp (fun b o hb => World.cell?_of_block (a := ⟨b, o, none⟩) (hc b hb)) (fun _ h => h)⟩
theorem GRow.below {w w' : World} {base : Nat} {v : Value} {ps : List GP} {P : Nat → Prop} (h : GRow w base v ps P) (hb : Below w.heap.size w w') : GRow w' base v ps P :=
  h.kept hb.size (h.row.kept (row := none) ⟨hb.os, hb.tape, hb.output, hb.size, fun k hk _ => hb.block k hk⟩ (by cases hv : v.ownBlock <;> simp)) (fun b hb' => hb.block b (h.far b hb').1)
theorem GRow.alloc {w : World} {base : Nat} {v : Value} {ps : List GP} {P : Nat → Prop} (h : GRow w base v ps P) (o : Obj) : GRow (w.alloc o) base v ps P :=
  h.below ((Below.refl _ _).alloc (Nat.le_refl _) _)
theorem GRow.push {w w' : World} {base : Nat} {v v' : Value} {ps : List GP} {P Pn : Nat → Prop} {p : GP} (h : GRow w base v ps P)
    (hn : TermIn w Pn p.1 p.2.1 p.2.2.1) (hf : ∀ b, Pn b → b < w.heap.size ∧ v.ownBlock ≠ some b)
    (hr : w'.ownsRow base 53 4 v' (ps.length + 1) (flatG ps ++ cellsG p)) (hg : w.grownBy w' v.ownBlock) (ho : v'.ownBlock = v.ownBlock ∨ v'.ownBlock = some w.heap.size) : GRow w' base v' (ps ++ [p]) (fun b => P b ∨ Pn b) := by
  have hb : ∀ b, P b ∨ Pn b → b < w.heap.size ∧ v.ownBlock ≠ some b := fun b hb => hb.elim (h.far b) (hf b)
  have hcell : ∀ b o, P b ∨ Pn b → w'.cell? ⟨b, o, none⟩ = w.cell? ⟨b, o, none⟩ := fun b o hb' => World.cell?_of_block (a := ⟨b, o, none⟩) (hg.block b (hb b hb').1 (fun e => (hb b hb').2 e.symm))
  refine ⟨by rw [flatG_snoc, List.length_append]; exact hr, fun b hb' => ⟨Nat.lt_of_lt_of_le (hb b hb').1 hg.size, fun e => ?_⟩, fun q hq => ?_⟩
  · rcases ho with ho | ho
    · exact (hb b hb').2 (ho.symm.trans e)
    · have := (hb b hb').1
      rw [ho] at e
      injection e with e
      omega
  · rcases List.mem_append.1 hq with hq | hq
    · exact (h.node q hq).imp (fun b o hb' => hcell b o (.inl hb')) (fun b hb' => .inl hb')
    · obtain rfl : q = p := by simpa using hq
      exact hn.imp (fun b o hb' => hcell b o (.inr hb')) (fun b hb' => .inr hb')
/-- A place of it. -/
theorem GRow.at_ {w : World} {base : Nat} {A : Option Addr} {cap : Nat} {ps : List GP} {P : Nat → Prop} (h : GRow w base (.slice A ps.length cap) ps P) (i : Nat) (hi : i < ps.length) :
    ∃ g, A = some ⟨g, 0, none⟩ ∧ base ≤ g ∧ g < w.heap.size ∧ w.cell? ⟨g, i * 4, none⟩ = some (.int .i64 ps[i].1.k) ∧ w.cell? ⟨g, i * 4 + 1, none⟩ = some (.int .i64 ps[i].1.n) ∧ w.cell? ⟨g, i * 4 + 2, none⟩ = some (.slice ps[i].2.1 ps[i].1.l.length ps[i].2.2.1) ∧ w.cell? ⟨g, i * 4 + 3, none⟩ = some (.bool ps[i].2.2.2) := by
  rcases h.row.2 with ⟨h1, h2⟩ | ⟨g, c, cur, h1, hbg, hg, _⟩
  · omega
  · injection h1 with h1 _ _
    subst h1
    have hat := fun r (hr : r < 4) => (h.row.cellAt (i * 4 + r) (by omega)).trans (flatG_at ps i r hi hr)
    refine ⟨g, rfl, hbg, ?_, hat 0 (by omega), hat 1 (by omega), hat 2 (by omega), hat 3 (by omega)⟩
    rcases Nat.lt_or_ge g w.heap.size with hlt | hge
    · exact hlt
    · rw [Array.getElem?_eq_none hge] at hg; cases hg
theorem GRow.len {w : World} {base : Nat} {A : Option Addr} {n cap : Nat} {ps : List GP} {P : Nat → Prop} (h : GRow w base (.slice A n cap) ps P) (hn : n = ps.length) : ps.length ≤ maxLen := by
  rcases h.row.2 with ⟨h1, h2⟩ | ⟨g, c, cur, h1, _, _, h2, h3, _⟩
  · have : (flatG ps).length = ps.length * 4 := by
      clear h h1 h2 hn
      induction ps with
      | nil => rfl
      | cons p ps ih => show (cellsG p ++ flatG ps).length = _; rw [List.length_append, ih]; simp [cellsG]; omega
    unfold maxLen; omega
  · unfold maxLen at *; omega
def gotV (p : GP) : Value := .agg #[.int .i64 p.1.k, .int .i64 p.1.n, .slice p.2.1 p.1.l.length p.2.2.1, .bool p.2.2.2]
/-- A call that tells of the term that should come, in blocks from lo on. -/
def TellsGot (u : TM) (lo : Nat) (w : World) (e : Ending) (w' : World) : Prop :=
  ∃ p : GP, e = .returned (gotV p) ∧ IsTerm w' lo w'.heap.size p.1 p.2.1 p.2.2.1 ∧ Below w.heap.size w w' ∧ GotIs u p.1 p.2.2.2

theorem rfits_any (n : Int) (w : World) : Calls Tryd.prog 39 #[.int .i64 n] w fun e w' => e = .returned (.bool (fitsB n)) ∧ Below w.heap.size w w' := by
  by_cases h0 : 0 ≤ n
  · have t1 : decide (n ≥ 0) = true := decide_eq_true h0
    by_cases h1 : n ≤ 1048576
    · have t2 : decide (n ≤ 1048576) = true := decide_eq_true h1
      have e : fitsB n = true := fitsB_true.2 ⟨h0, h1⟩
      rw [e]
      clear e h0 h1
      go_enter Tryd.func39, Tryd.ntmps39
      go_wp2_with fail
      go_ret
      exact ⟨rfl, Below.refl _ _⟩
    · have t2 : decide (n ≤ 1048576) = false := decide_eq_false h1
      have e : fitsB n = false := by unfold fitsB; rw [t2]; simp
      rw [e]
      clear e h0 h1
      go_enter Tryd.func39, Tryd.ntmps39
      go_wp2_with fail
      go_ret
      exact ⟨rfl, Below.refl _ _⟩
  · have t1 : decide (n ≥ 0) = false := decide_eq_false h0
    have e : fitsB n = false := by unfold fitsB; rw [decide_eq_false h0]; simp
    rw [e]
    clear e h0
    go_enter Tryd.func39, Tryd.ntmps39
    go_wp2_with fail
    go_ret
    exact ⟨rfl, Below.refl _ _⟩

set_option maxHeartbeats 1000000 in
theorem raised_any (a : TM) (y : Int) (lo hi : Nat) (A : Option Addr) (cap : Nat) (w : World) (h : IsTerm w lo hi a A cap) (hhi : hi ≤ w.heap.size) (ha : shapedB a = true) (hy0 : 0 ≤ y) (hy1 : y ≤ 1048576) :
    Calls Tryd.prog 56 #[termV a A cap, .int .i64 y] w (TellsGot (moveT y a 0) w.heap.size w) := by
  obtain ⟨s1, s2, s3⟩ := shapedB_true.1 ha
  have HW := Lib.hid (show Below w.heap.size w ((w.alloc (.cells #[.int .i64 a.k, .int .i64 a.n, .slice A a.l.length cap] 24)).alloc (.cells #[.int .i64 0, .int .i64 0, .slice none 0 0, .bool false] 53)) from ((Below.refl w.heap.size w).alloc (Nat.le_refl _) _).alloc (by simp <;> omega) _)
  have CM := Lib.hid (move_any y (by omega) hy1 a 0 lo hi A cap _ (h.kept HW.out hhi) (by simp; omega) s3 (by omega) (by omega))
  have KR := Lib.hid (fun (V : World) (hV : Below ((w.alloc (.cells #[.int .i64 a.k, .int .i64 a.n, .slice A a.l.length cap] 24)).alloc (.cells #[.int .i64 0, .int .i64 0, .slice none 0 0, .bool false] 53)).heap.size ((w.alloc (.cells #[.int .i64 a.k, .int .i64 a.n, .slice A a.l.length cap] 24)).alloc (.cells #[.int .i64 0, .int .i64 0, .slice none 0 0, .bool false] 53)) V) => (show Bk V (w.heap.size + 1) 53 #[.int .i64 0, .int .i64 0, .slice none 0 0, .bool false] from (Bk.last (w.alloc (.cells #[.int .i64 a.k, .int .i64 a.n, .slice A a.l.length cap] 24)) 53 #[.int .i64 0, .int .i64 0, .slice none 0 0, .bool false] (g := w.heap.size + 1) (by simp)).below hV (by simp)))
  obtain ⟨x, hx⟩ : ∃ x, moveT y a 0 = x := ⟨_, rfl⟩
  rw [hx] at CM ⊢
  have HSH := Lib.hid (fun (lo hi : Nat) (A : Option Addr) (cap : Nat) (V : World) (h : IsTerm V lo hi x A cap) (hhi : hi ≤ V.heap.size) => refShaped_any x lo hi A cap V h hhi)
  obtain ⟨bx, hbx⟩ : ∃ bx, shapedB x = bx := ⟨_, rfl⟩
  rw [hbx] at HSH
  have HG := Lib.hid (show GotIs x x (!bx) from ⟨fun h => by rw [hbx]; simpa using h, fun _ => rfl⟩)
  unfold GivesM at CM
  unfold termV at CM ⊢
  clear h ha s1 s2 s3 hy0 hy1 hx hbx
  go_enter Tryd.func56, Tryd.ntmps56
  go_wp2_with fail
  refine CM.out.mono ?_
  rintro e w1 ⟨A', cap', rfl, hx1, hb1⟩
  have hz1 := hb1.size
  simp at hz1
  have HB1 := Lib.hid (HW.out.trans (hb1.mono (by simp <;> omega)))
  have hbw := Lib.hid (hb1.alloc hb1.size (.cells #[.int .i64 x.k, .int .i64 x.n, .slice A' x.l.length cap'] 24))
  have HXT := Lib.hid (show IsTerm (w1.alloc (.cells #[.int .i64 x.k, .int .i64 x.n, .slice A' x.l.length cap'] 24)) (w.heap.size + 2) w1.heap.size x A' cap' from (hx1.alloc (Nat.le_refl _) _).wide (by simp) (Nat.le_refl _))
  have hq1 : w.heap.size + 1 < w1.heap.size := by omega
  have hbk := Lib.hid (Below.refl (w1.alloc (.cells #[.int .i64 x.k, .int .i64 x.n, .slice A' x.l.length cap'] 24)).heap.size (w1.alloc (.cells #[.int .i64 x.k, .int .i64 x.n, .slice A' x.l.length cap'] 24))).drew
  have HBX := Lib.hid (fun (V : World) (hV : Below (w1.alloc (.cells #[.int .i64 x.k, .int .i64 x.n, .slice A' x.l.length cap'] 24)).heap.size (w1.alloc (.cells #[.int .i64 x.k, .int .i64 x.n, .slice A' x.l.length cap'] 24)) V) => (show Bk V w1.heap.size 24 #[.int .i64 x.k, .int .i64 x.n, .slice A' x.l.length cap'] from (Bk.new w1 _ _).below hV (by simp)))
  have HSX := Lib.hid (fun (V : World) (hV : Below (w1.alloc (.cells #[.int .i64 x.k, .int .i64 x.n, .slice A' x.l.length cap'] 24)).heap.size (w1.alloc (.cells #[.int .i64 x.k, .int .i64 x.n, .slice A' x.l.length cap'] 24)) V) => HSH.out (w.heap.size + 2) w1.heap.size A' cap' V (HXT.out.kept hV (by simp)) (by have := hV.size; simp at this; omega))
  clear hb1 hx1 HSH
  go_upto_region 2 with fail
  go_region_law
    (first
     | (go_simp; go_at_call 25; refine (HSX.out _ hbk.out).mono ?_; rintro e w3 ⟨rfl, hbn⟩; have hbk := Lib.hid (hbk.out.trans (hbn.mono hbk.out.size)); clear hbn; have y0 := (HBX.out _ hbk.out).cell 0; have y1 := (HBX.out _ hbk.out).cell 1; have y2 := (HBX.out _ hbk.out).cell 2; simp at y0 y1 y2; have HK2 := Lib.hid (KR.out _ (hbw.out.trans (hbk.out.mono (by simp <;> omega)))); have hfz : ∀ o, w3.frozen? ⟨w.heap.size + 1, o, none⟩ = false := fun o => HK2.out.cold o; have d0 : w3.cell? ⟨w.heap.size + 1, 0, none⟩ = some (.int .i64 0) := HK2.out.cell 0; have d1 : w3.cell? ⟨w.heap.size + 1, 1, none⟩ = some (.int .i64 0) := HK2.out.cell 1; have d2 : w3.cell? ⟨w.heap.size + 1, 2, none⟩ = some (.slice none 0 0) := HK2.out.cell 2; have d3 : w3.cell? ⟨w.heap.size + 1, 3, none⟩ = some (.bool false) := HK2.out.cell 3))
  all_goals
    have hz3 := hbk.out.size
    simp at hz3
    have B5 := (((HK2.out.at_ 0 (.int .i64 x.k)).at_ 1 (.int .i64 x.n)).at_ 2 (.slice A' x.l.length cap')).at_ 3 (.bool (!bx))
    have HS0 := Lib.hid (B5.cell 0)
    have HS1 := Lib.hid (B5.cell 1)
    have HS2 := Lib.hid (B5.cell 2)
    have HS3 := Lib.hid (B5.cell 3)
    have HX3 := Lib.hid (HXT.out.kept hbk.out (by simp))
    have HB3 := Lib.hid ((HB1.out.alloc (by omega) (.cells #[.int .i64 x.k, .int .i64 x.n, .slice A' x.l.length cap'] 24)).trans (hbk.out.mono (by simp; omega)))
    clear B5
    go_wp2_with fail
    refine bodyPost_ret (v := gotV (x, A', cap', !bx)) (by simp [results, Tryd.results56, go_sem, gotV, HS0.out, HS1.out, HS2.out, HS3.out]) rfl ?_
    refine ⟨(x, A', cap', !bx), rfl, ?_, (((HB3.out.setCell (by simp) _).setCell (by simp) _).setCell (by simp) _).setCell (by simp) _, HG.out⟩
    exact ((HX3.out.far3 (by omega) _ _ _).setFar (by show w.heap.size + 1 < _; omega) _).wide (by omega) (by simp [World.setCell]; omega)

/-- What the document's calls answer: in blocks from lo on. -/
def GivesAt (p : TM × Int) (lo : Nat) (w : World) (e : Ending) (w' : World) : Prop :=
  ∃ A cap, e = .returned (.tuple #[.agg #[.int .i64 p.1.k, .int .i64 p.1.n, .slice A p.1.l.length cap], .int .i64 p.2]) ∧ IsTerm w' lo w'.heap.size p.1 A cap ∧ Below w.heap.size w w'
set_option maxHeartbeats 1000000 in
theorem done_any (u : TM) (p : GP) (lo : Nat) (w : World) (hg : GotIs u p.1 p.2.2.2) (h : IsTerm w lo w.heap.size p.1 p.2.1 p.2.2.1) :
    Calls Tryd.prog 34 #[gotV p] w (GivesAt (gotX u) lo w) := by
  obtain ⟨x, A, cap, bl⟩ := p
  simp only at hg h
  have HW := Lib.hid (show Below w.heap.size w ((w.alloc (.cells #[.int .i64 x.k, .int .i64 x.n, .slice A x.l.length cap, .bool bl] 53)).alloc (.cells #[.int .i64 0, .int .i64 0, .slice none 0 0] 24)) from ((Below.refl w.heap.size w).alloc (Nat.le_refl _) _).alloc (by simp <;> omega) _)
  have KT := Lib.hid (fun (V : World) (hV : Below ((w.alloc (.cells #[.int .i64 x.k, .int .i64 x.n, .slice A x.l.length cap, .bool bl] 53)).alloc (.cells #[.int .i64 0, .int .i64 0, .slice none 0 0] 24)).heap.size ((w.alloc (.cells #[.int .i64 x.k, .int .i64 x.n, .slice A x.l.length cap, .bool bl] 53)).alloc (.cells #[.int .i64 0, .int .i64 0, .slice none 0 0] 24)) V) => (show Bk V w.heap.size 53 #[.int .i64 x.k, .int .i64 x.n, .slice A x.l.length cap, .bool bl] ∧ Bk V (w.heap.size + 1) 24 #[.int .i64 0, .int .i64 0, .slice none 0 0] from ⟨((Bk.new w _ _).alloc _).below hV (by simp <;> omega), (Bk.last (w.alloc (.cells #[.int .i64 x.k, .int .i64 x.n, .slice A x.l.length cap, .bool bl] 53)) _ _ (by simp)).below hV (by simp)⟩))
  have HSX := Lib.hid (refShaped_any x lo w.heap.size A cap ((w.alloc (.cells #[.int .i64 x.k, .int .i64 x.n, .slice A x.l.length cap, .bool bl] 53)).alloc (.cells #[.int .i64 0, .int .i64 0, .slice none 0 0] 24)) (h.kept HW.out (Nat.le_refl _)) (by simp <;> omega))
  have HX := Lib.hid h
  obtain ⟨bx, hbx⟩ : ∃ bx, shapedB x = bx := ⟨_, rfl⟩
  rw [hbx] at HSX
  have HE1 := Lib.hid (show bl = true → gotX u = (.node 0 0 [], 2) from fun e => by unfold gotX; rw [hg.yes e]; rfl)
  have HE2 := Lib.hid (show bl = false → gotX u = if bx then (x, 0) else (.node 0 0 [], 2) from fun e => by unfold gotX; rw [← hg.no e, hbx])
  obtain ⟨RR, hRR⟩ : ∃ RR, gotX u = RR := ⟨_, rfl⟩
  rw [hRR] at HE1 HE2 ⊢
  unfold termV at HSX
  unfold gotV
  clear hg hbx hRR h
  cases bl with
  | true =>
    have HE := Lib.hid (HE1.out rfl)
    clear HE1 HE2
    go_enter Tryd.func34, Tryd.ntmps34
    go_wp2_with fail
    refine bodyPost_ret (v := .tuple #[.agg #[.int .i64 0, .int .i64 0, .slice none 0 0], .int .i64 2]) (by simp [results, Tryd.results34, go_sem]) rfl ?_
    rw [HE.out]
    exact ⟨none, 0, rfl, leaf_in _ _ 0 0, by repeat first | exact Below.refl _ _ | refine Below.setCell ?_ (by simp) _ | refine Below.alloc ?_ (by simp <;> omega) _⟩
  | false =>
    have HE := Lib.hid (HE2.out rfl)
    clear HE1 HE2
    go_enter Tryd.func34, Tryd.ntmps34
    go_wp2_with fail
    refine HSX.out.mono ?_
    rintro e w1 ⟨rfl, hb1⟩
    obtain ⟨K1, K2⟩ := KT.out _ hb1
    have hz1 := hb1.size
    simp at hz1
    have HB1 := Lib.hid (HW.out.trans (hb1.mono (by simp <;> omega)))
    have c0 : w1.cell? ⟨w.heap.size, 0, none⟩ = some (.int .i64 x.k) := K1.cell 0
    have c1 : w1.cell? ⟨w.heap.size, 1, none⟩ = some (.int .i64 x.n) := K1.cell 1
    have c2 : w1.cell? ⟨w.heap.size, 2, none⟩ = some (.slice A x.l.length cap) := K1.cell 2
    have hfz : ∀ o, w1.frozen? ⟨w.heap.size + 1, o, none⟩ = false := fun o => K2.cold o
    have d0 : w1.cell? ⟨w.heap.size + 1, 0, none⟩ = some (.int .i64 0) := K2.cell 0
    have d1 : w1.cell? ⟨w.heap.size + 1, 1, none⟩ = some (.int .i64 0) := K2.cell 1
    have d2 : w1.cell? ⟨w.heap.size + 1, 2, none⟩ = some (.slice none 0 0) := K2.cell 2
    have HX1 := Lib.hid (HX.out.kept HB1.out (Nat.le_refl _))
    have HK2 := Lib.hid K2
    clear hb1 K1 K2
    cases bx with
    | false =>
      have B5 := ((HK2.out.at_ 0 (.int .i64 0)).at_ 1 (.int .i64 0)).at_ 2 (.slice none 0 0)
      have HS0 := Lib.hid (B5.cell 0)
      have HS1 := Lib.hid (B5.cell 1)
      have HS2 := Lib.hid (B5.cell 2)
      clear B5
      go_wp2_with fail
      refine bodyPost_ret (v := .tuple #[.agg #[.int .i64 0, .int .i64 0, .slice none 0 0], .int .i64 2]) (by simp [results, Tryd.results34, go_sem, HS0.out, HS1.out, HS2.out]) rfl ?_
      rw [HE.out]
      exact ⟨none, 0, rfl, leaf_in _ _ 0 0, ((HB1.out.setCell (by simp) _).setCell (by simp) _).setCell (by simp) _⟩
    | true =>
      have B5 := ((HK2.out.at_ 0 (.int .i64 x.k)).at_ 1 (.int .i64 x.n)).at_ 2 (.slice A x.l.length cap)
      have HS0 := Lib.hid (B5.cell 0)
      have HS1 := Lib.hid (B5.cell 1)
      have HS2 := Lib.hid (B5.cell 2)
      have HBC := Lib.hid (show ∀ b, b < w.heap.size → ((((w1.setCell ⟨w.heap.size + 1, 0, none⟩ (.int .i64 x.k)).setCell ⟨w.heap.size + 1, 1, none⟩ (.int .i64 x.n)).setCell ⟨w.heap.size + 1, 2, none⟩ (.slice A x.l.length cap)).heap[b]? = w1.heap[b]?) from fun b hb => block_three w1 (w.heap.size + 1) b (by omega) _ _ _)
      clear B5
      go_wp2_with fail
      refine bodyPost_ret (v := .tuple #[.agg #[.int .i64 x.k, .int .i64 x.n, .slice A x.l.length cap], .int .i64 0]) (by simp [results, Tryd.results34, go_sem, HS0.out, HS1.out, HS2.out]) rfl ?_
      rw [HE.out]
      exact ⟨A, cap, rfl, HX1.out.imp (fun b o _ h2 => World.cell?_of_block (a := ⟨b, o, none⟩) (HBC.out b h2)) (Nat.le_refl _) (by simp [World.setCell]; omega), ((HB1.out.setCell (by simp) _).setCell (by simp) _).setCell (by simp) _⟩

end Go.Proofs.YtcobionbgiaomaaDoor
