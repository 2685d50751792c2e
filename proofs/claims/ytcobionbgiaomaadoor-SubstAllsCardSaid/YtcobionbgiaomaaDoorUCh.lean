/- subst.changed's own closure: what becomes of a variable, and the room that is left; with each of the four closures. -/
import Derived.Test.YtcobionbgiaomaaDoorUVar
import Derived.Deep.RegionLaw
namespace Go.Proofs.YtcobionbgiaomaaDoor
open Go.RowKit
set_option linter.unusedVariables false
set_option maxRecDepth 100000

/-- What the call leaves: the term, the error, the room. -/
def ChIs (p : TM × Int) (r : Int) (g : Nat) (w : World) (e : Ending) (w' : World) : Prop :=
  ∃ A cap, e = .returned (.tuple #[termV p.1 A cap, .int .i64 (if r - (topN p.1.size : Int) < 0 then 2 else p.2)]) ∧ IsTerm w' w.heap.size w'.heap.size p.1 A cap ∧ Near g w.heap.size w w' ∧ Bk w' g 3 #[.int .i64 (r - (topN p.1.size : Int))]
theorem chIs_of {x : TM} {c d r s : Int} {g : Nat} {w w' : World} {A : Option Addr} {cap : Nat} (hs : (topN x.size : Int) = s) (hd : d = if r - s < 0 then 2 else c) (hx : IsTerm w' w.heap.size w'.heap.size x A cap) (hn : Near g w.heap.size w w') (hb : Bk w' g 3 #[.int .i64 (r - s)]) :
    ChIs (x, c) r g w (.returned (.tuple #[.agg #[.int .i64 x.k, .int .i64 x.n, .slice A x.l.length cap], .int .i64 d])) w' := by
  subst hd; subst hs
  exact ⟨A, cap, rfl, hx, hn, hb⟩
theorem IsTerm.far6 {w : World} {lo hi : Nat} {t : TM} {A : Option Addr} {cap g h : Nat} (x : IsTerm w lo hi t A cap) (hg : g < lo) (hh : h < lo) (v0 v1 v2 u : Value) :
    IsTerm ((((w.setCell ⟨g, 0, none⟩ v0).setCell ⟨g, 1, none⟩ v1).setCell ⟨g, 2, none⟩ v2).setCell ⟨h, 0, none⟩ u) lo hi t A cap := (x.far3 hg v0 v1 v2).setFar hh u

set_option maxHeartbeats 2000000 in
theorem ch_bind (a0 gb g : Nat) (p : TM × Int) (k n b r : Int) (w : World) (h0 : w.cell? ⟨gb, 0, none⟩ = some (.func (.func 43) #[] #[.pointer (some ⟨a0, 0, none⟩)])) (hr : Bk w g 3 #[.int .i64 r]) (hr0 : 0 ≤ r ∧ r ≤ 8192) (hgb : gb ≠ g)
    (HC0 : ∀ V, Below w.heap.size w V → Calls Tryd.prog 43 #[.agg #[.int .i64 k, .int .i64 n, .slice none 0 0], .int .i64 b, .pointer (some ⟨a0, 0, none⟩)] V (GivesT p V)) :
    Calls Tryd.prog 53 #[.agg #[.int .i64 k, .int .i64 n, .slice none 0 0], .int .i64 b, .pointer (some ⟨gb, 0, none⟩), .pointer (some ⟨g, 0, none⟩)] w (ChIs p r g w) := by
  have hltb : gb < w.heap.size := World.block_lt_of_cell? w _ h0
  have hltg : g < w.heap.size := hr.lt
  have HC := Lib.hid HC0
  have HR := Lib.hid hr
  obtain ⟨x, c⟩ := p
  obtain ⟨s, hs⟩ : ∃ s : Int, (topN x.size : Int) = s := ⟨_, rfl⟩
  have hsb : 0 ≤ s ∧ s ≤ 8193 := by have := topN_le x.size; omega
  have hw1 : IntKind.i64.wrap (r - s) = r - s := IntWalk.i64_in _ (by omega)
  have HSZ := Lib.hid (fun (lo hi : Nat) (A : Option Addr) (cap : Nat) (V : World) (h : IsTerm V lo hi x A cap) (hh : hi ≤ V.heap.size) => tsize_any x lo hi A cap V h hh)
  rw [hs] at HSZ
  have HS := Lib.hid hs
  have HW2 := Lib.hid (fun o1 o2 => ((Below.refl w.heap.size w).alloc (Nat.le_refl _) o1).alloc (by simp) o2)
  have HBX := Lib.hid (fun (V : World) (hV : Below ((w.alloc (.cells #[.int .i64 k, .int .i64 n, .slice none 0 0] 24)).alloc (.cells #[.int .i64 0, .int .i64 0, .slice none 0 0] 24)).heap.size ((w.alloc (.cells #[.int .i64 k, .int .i64 n, .slice none 0 0] 24)).alloc (.cells #[.int .i64 0, .int .i64 0, .slice none 0 0] 24)) V) => (show Bk V w.heap.size 24 #[.int .i64 k, .int .i64 n, .slice none 0 0] ∧ Bk V (w.heap.size + 1) 24 #[.int .i64 0, .int .i64 0, .slice none 0 0] ∧ Bk V g 3 #[.int .i64 r] from ⟨((Bk.new w 24 _).alloc (.cells #[.int .i64 0, .int .i64 0, .slice none 0 0] 24)).below hV (by simp <;> omega), (Bk.last (w.alloc (.cells #[.int .i64 k, .int .i64 n, .slice none 0 0] 24)) 24 #[.int .i64 0, .int .i64 0, .slice none 0 0] (by simp)).below hV (by simp), ((HR.out.alloc (.cells #[.int .i64 k, .int .i64 n, .slice none 0 0] 24)).alloc (.cells #[.int .i64 0, .int .i64 0, .slice none 0 0] 24)).below hV (by simp <;> omega)⟩))
  clear HC0 hr hr0 hsb hs
  go_enter Tryd.func53, Tryd.ntmps53
  go_wp2_with fail
  refine (HC.out _ (HW2.out _ _)).mono ?_
  rintro e w1 ⟨A', cap', rfl, hx1, hb1⟩
  rw [termV]
  have hz1 := hb1.size
  simp at hz1
  obtain ⟨K1, K2, K3⟩ := HBX.out _ hb1
  have HB1 := Lib.hid ((HW2.out _ _).trans (hb1.mono (by simp <;> omega)))
  have B1 := ((K1.at_ 0 (.int .i64 x.k)).at_ 1 (.int .i64 x.n)).at_ 2 (.slice A' x.l.length cap')
  have B2 := ((K2.far (a := ⟨w.heap.size, 0, none⟩) (by simp) (.int .i64 x.k)).far (a := ⟨w.heap.size, 1, none⟩) (by simp) (.int .i64 x.n)).far (a := ⟨w.heap.size, 2, none⟩) (by simp) (.slice A' x.l.length cap')
  have B3 := ((K3.far (a := ⟨w.heap.size, 0, none⟩) (by show g ≠ w.heap.size; omega) (.int .i64 x.k)).far (a := ⟨w.heap.size, 1, none⟩) (by show g ≠ w.heap.size; omega) (.int .i64 x.n)).far (a := ⟨w.heap.size, 2, none⟩) (by show g ≠ w.heap.size; omega) (.slice A' x.l.length cap')
  have HX1 := Lib.hid ((hx1.far3 (g := w.heap.size) (by simp <;> omega) (.int .i64 x.k) (.int .i64 x.n) (.slice A' x.l.length cap')).wide (lo' := w.heap.size + 2) (hi' := w1.heap.size) (by simp) (Nat.le_refl _))
  have HN1 := Lib.hid (((HB1.out.setCell (p := ⟨w.heap.size, 0, none⟩) (Nat.le_refl _) (.int .i64 x.k)).setCell (p := ⟨w.heap.size, 1, none⟩) (Nat.le_refl _) (.int .i64 x.n)).setCell (p := ⟨w.heap.size, 2, none⟩) (Nat.le_refl _) (.slice A' x.l.length cap'))
  have c0 : w1.cell? ⟨w.heap.size, 0, none⟩ = some (.int .i64 k) := K1.cell 0
  have c1 : w1.cell? ⟨w.heap.size, 1, none⟩ = some (.int .i64 n) := K1.cell 1
  have c2 : w1.cell? ⟨w.heap.size, 2, none⟩ = some (.slice none 0 0) := K1.cell 2
  have hfz0 : ∀ o, w1.frozen? ⟨w.heap.size, o, none⟩ = false := fun o => K1.cold o
  obtain ⟨X, hX⟩ : ∃ X, ((w1.setCell ⟨w.heap.size, 0, none⟩ (.int .i64 x.k)).setCell ⟨w.heap.size, 1, none⟩ (.int .i64 x.n)).setCell ⟨w.heap.size, 2, none⟩ (.slice A' x.l.length cap') = X := ⟨_, rfl⟩
  have hXz : X.heap.size = w1.heap.size := by rw [← hX]; simp [World.setCell]
  rw [hX] at B1 B2 B3 HX1 HN1
  have HB1' := Lib.hid B1
  have HB2' := Lib.hid B2
  have HB3' := Lib.hid B3
  clear K1 K2 K3 B1 B2 B3 hb1 hx1
  have HK := Lib.hid (fun (V : World) (hV : Below X.heap.size X V) => (show (V.cell? ⟨g, 0, none⟩ = some (.int .i64 r)) ∧ (∀ o, V.frozen? ⟨g, o, none⟩ = false) ∧ V.cell? ⟨w.heap.size, 0, none⟩ = some (.int .i64 x.k) ∧ V.cell? ⟨w.heap.size, 1, none⟩ = some (.int .i64 x.n) ∧ V.cell? ⟨w.heap.size, 2, none⟩ = some (.slice A' x.l.length cap') from
    ⟨(HB3'.out.below hV (by omega)).cell 0, fun o => (HB3'.out.below hV (by omega)).cold o, (HB1'.out.below hV (by omega)).cell 0, (HB1'.out.below hV (by omega)).cell 1, (HB1'.out.below hV (by omega)).cell 2⟩))
  have hbk := Lib.hid ((Below.refl X.heap.size X).drew)
  have HSX := Lib.hid (fun (V : World) (hV : Below X.heap.size X V) => HSZ.out (w.heap.size + 2) w1.heap.size A' cap' V (HX1.out.kept hV (by omega)) (by have := hV.size; omega))
  obtain ⟨y0, hfz, y1, y2, y3⟩ := HK.out _ hbk.out
  go_upto_region 2 with fail
  subst hX
  go_region_law
    (first
     | (go_simp; go_at_call 54; refine (HSX.out _ hbk.out).mono ?_; rintro e w3 ⟨rfl, hbn⟩; have hbk := Lib.hid (hbk.out.trans (hbn.mono hbk.out.size)); clear hbn y0 hfz y1 y2 y3; obtain ⟨y0, hfz, y1, y2, y3⟩ := HK.out _ hbk.out))
  all_goals
    have hz3 := hbk.out.size
    have K2 := HB2'.out.below hbk.out (by omega)
    have K3 := HB3'.out.below hbk.out (by omega)
    have HX3 := Lib.hid (((HX1.out.kept hbk.out (by omega)).setFar (a := ⟨g, 0, none⟩) (by show g < _; omega) (.int .i64 (r - s))).far3 (g := w.heap.size + 1) (by omega) (.int .i64 x.k) (.int .i64 x.n) (.slice A' x.l.length cap'))
    have HN3 := Lib.hid (((((Near.of (g := g) (HN1.out.trans (hbk.out.mono (by omega)))).own 0 (.int .i64 (r - s))).setCell (p := ⟨w.heap.size + 1, 0, none⟩) (by show w.heap.size ≤ w.heap.size + 1; omega) (.int .i64 x.k)).setCell (p := ⟨w.heap.size + 1, 1, none⟩) (by show w.heap.size ≤ w.heap.size + 1; omega) (.int .i64 x.n)).setCell (p := ⟨w.heap.size + 1, 2, none⟩) (by show w.heap.size ≤ w.heap.size + 1; omega) (.slice A' x.l.length cap'))
    have hfzR : ∀ o, w3.frozen? ⟨w.heap.size + 1, o, none⟩ = false := fun o => K2.cold o
    have d0 : w3.cell? ⟨w.heap.size + 1, 0, none⟩ = some (.int .i64 0) := K2.cell 0
    have d1 : w3.cell? ⟨w.heap.size + 1, 1, none⟩ = some (.int .i64 0) := K2.cell 1
    have d2 : w3.cell? ⟨w.heap.size + 1, 2, none⟩ = some (.slice none 0 0) := K2.cell 2
    have E5 := (((K2.far (a := ⟨g, 0, none⟩) (by show w.heap.size + 1 ≠ g; omega) (.int .i64 (r - s))).at_ 0 (.int .i64 x.k)).at_ 1 (.int .i64 x.n)).at_ 2 (.slice A' x.l.length cap')
    have HS0 := Lib.hid (E5.cell 0)
    have HS1 := Lib.hid (E5.cell 1)
    have HS2 := Lib.hid (E5.cell 2)
    have HBK := Lib.hid ((((K3.at_ 0 (.int .i64 (r - s))).far (a := ⟨w.heap.size + 1, 0, none⟩) (by show g ≠ w.heap.size + 1; omega) (.int .i64 x.k)).far (a := ⟨w.heap.size + 1, 1, none⟩) (by show g ≠ w.heap.size + 1; omega) (.int .i64 x.n)).far (a := ⟨w.heap.size + 1, 2, none⟩) (by show g ≠ w.heap.size + 1; omega) (.slice A' x.l.length cap'))
    have HZ3 : Hid (w1.heap.size ≤ w3.heap.size) := Lib.hid (by omega)
    clear K2 K3 E5 HK HSX HBX HC HSZ
    by_cases hneg : r - s < 0
    · have HG := Lib.hid (show (2 : Int) = if r - s < 0 then 2 else c from (if_pos hneg).symm)
      go_wp2_with fail
      refine bodyPost_ret (v := .tuple #[.agg #[.int .i64 x.k, .int .i64 x.n, .slice A' x.l.length cap'], .int .i64 2]) (by simp [results, Tryd.results53, go_sem, HS0.out, HS1.out, HS2.out]) rfl ?_
      exact chIs_of HS.out HG.out (HX3.out.wide (by omega) (by have := HZ3.out; simp [World.setCell]; omega)) HN3.out HBK.out
    · have HG := Lib.hid (show c = if r - s < 0 then 2 else c from (if_neg hneg).symm)
      go_wp2_with fail
      refine bodyPost_ret (v := .tuple #[.agg #[.int .i64 x.k, .int .i64 x.n, .slice A' x.l.length cap'], .int .i64 c]) (by simp [results, Tryd.results53, go_sem, HS0.out, HS1.out, HS2.out]) rfl ?_
      exact chIs_of HS.out HG.out (HX3.out.wide (by omega) (by have := HZ3.out; simp [World.setCell]; omega)) HN3.out HBK.out

set_option maxHeartbeats 2000000 in
theorem ch_first (a0 gb g : Nat) (p : TM × Int) (k n b r : Int) (w : World) (h0 : w.cell? ⟨gb, 0, none⟩ = some (.func (.func 55) #[] #[.pointer (some ⟨a0, 0, none⟩)])) (hr : Bk w g 3 #[.int .i64 r]) (hr0 : 0 ≤ r ∧ r ≤ 8192) (hgb : gb ≠ g)
    (HC0 : ∀ V, Below w.heap.size w V → Calls Tryd.prog 55 #[.agg #[.int .i64 k, .int .i64 n, .slice none 0 0], .int .i64 b, .pointer (some ⟨a0, 0, none⟩)] V (GivesT p V)) :
    Calls Tryd.prog 53 #[.agg #[.int .i64 k, .int .i64 n, .slice none 0 0], .int .i64 b, .pointer (some ⟨gb, 0, none⟩), .pointer (some ⟨g, 0, none⟩)] w (ChIs p r g w) := by
  have hltb : gb < w.heap.size := World.block_lt_of_cell? w _ h0
  have hltg : g < w.heap.size := hr.lt
  have HC := Lib.hid HC0
  have HR := Lib.hid hr
  obtain ⟨x, c⟩ := p
  obtain ⟨s, hs⟩ : ∃ s : Int, (topN x.size : Int) = s := ⟨_, rfl⟩
  have hsb : 0 ≤ s ∧ s ≤ 8193 := by have := topN_le x.size; omega
  have hw1 : IntKind.i64.wrap (r - s) = r - s := IntWalk.i64_in _ (by omega)
  have HSZ := Lib.hid (fun (lo hi : Nat) (A : Option Addr) (cap : Nat) (V : World) (h : IsTerm V lo hi x A cap) (hh : hi ≤ V.heap.size) => tsize_any x lo hi A cap V h hh)
  rw [hs] at HSZ
  have HS := Lib.hid hs
  have HW2 := Lib.hid (fun o1 o2 => ((Below.refl w.heap.size w).alloc (Nat.le_refl _) o1).alloc (by simp) o2)
  have HBX := Lib.hid (fun (V : World) (hV : Below ((w.alloc (.cells #[.int .i64 k, .int .i64 n, .slice none 0 0] 24)).alloc (.cells #[.int .i64 0, .int .i64 0, .slice none 0 0] 24)).heap.size ((w.alloc (.cells #[.int .i64 k, .int .i64 n, .slice none 0 0] 24)).alloc (.cells #[.int .i64 0, .int .i64 0, .slice none 0 0] 24)) V) => (show Bk V w.heap.size 24 #[.int .i64 k, .int .i64 n, .slice none 0 0] ∧ Bk V (w.heap.size + 1) 24 #[.int .i64 0, .int .i64 0, .slice none 0 0] ∧ Bk V g 3 #[.int .i64 r] from ⟨((Bk.new w 24 _).alloc (.cells #[.int .i64 0, .int .i64 0, .slice none 0 0] 24)).below hV (by simp <;> omega), (Bk.last (w.alloc (.cells #[.int .i64 k, .int .i64 n, .slice none 0 0] 24)) 24 #[.int .i64 0, .int .i64 0, .slice none 0 0] (by simp)).below hV (by simp), ((HR.out.alloc (.cells #[.int .i64 k, .int .i64 n, .slice none 0 0] 24)).alloc (.cells #[.int .i64 0, .int .i64 0, .slice none 0 0] 24)).below hV (by simp <;> omega)⟩))
  clear HC0 hr hr0 hsb hs
  go_enter Tryd.func53, Tryd.ntmps53
  go_wp2_with fail
  refine (HC.out _ (HW2.out _ _)).mono ?_
  rintro e w1 ⟨A', cap', rfl, hx1, hb1⟩
  rw [termV]
  have hz1 := hb1.size
  simp at hz1
  obtain ⟨K1, K2, K3⟩ := HBX.out _ hb1
  have HB1 := Lib.hid ((HW2.out _ _).trans (hb1.mono (by simp <;> omega)))
  have B1 := ((K1.at_ 0 (.int .i64 x.k)).at_ 1 (.int .i64 x.n)).at_ 2 (.slice A' x.l.length cap')
  have B2 := ((K2.far (a := ⟨w.heap.size, 0, none⟩) (by simp) (.int .i64 x.k)).far (a := ⟨w.heap.size, 1, none⟩) (by simp) (.int .i64 x.n)).far (a := ⟨w.heap.size, 2, none⟩) (by simp) (.slice A' x.l.length cap')
  have B3 := ((K3.far (a := ⟨w.heap.size, 0, none⟩) (by show g ≠ w.heap.size; omega) (.int .i64 x.k)).far (a := ⟨w.heap.size, 1, none⟩) (by show g ≠ w.heap.size; omega) (.int .i64 x.n)).far (a := ⟨w.heap.size, 2, none⟩) (by show g ≠ w.heap.size; omega) (.slice A' x.l.length cap')
  have HX1 := Lib.hid ((hx1.far3 (g := w.heap.size) (by simp <;> omega) (.int .i64 x.k) (.int .i64 x.n) (.slice A' x.l.length cap')).wide (lo' := w.heap.size + 2) (hi' := w1.heap.size) (by simp) (Nat.le_refl _))
  have HN1 := Lib.hid (((HB1.out.setCell (p := ⟨w.heap.size, 0, none⟩) (Nat.le_refl _) (.int .i64 x.k)).setCell (p := ⟨w.heap.size, 1, none⟩) (Nat.le_refl _) (.int .i64 x.n)).setCell (p := ⟨w.heap.size, 2, none⟩) (Nat.le_refl _) (.slice A' x.l.length cap'))
  have c0 : w1.cell? ⟨w.heap.size, 0, none⟩ = some (.int .i64 k) := K1.cell 0
  have c1 : w1.cell? ⟨w.heap.size, 1, none⟩ = some (.int .i64 n) := K1.cell 1
  have c2 : w1.cell? ⟨w.heap.size, 2, none⟩ = some (.slice none 0 0) := K1.cell 2
  have hfz0 : ∀ o, w1.frozen? ⟨w.heap.size, o, none⟩ = false := fun o => K1.cold o
  obtain ⟨X, hX⟩ : ∃ X, ((w1.setCell ⟨w.heap.size, 0, none⟩ (.int .i64 x.k)).setCell ⟨w.heap.size, 1, none⟩ (.int .i64 x.n)).setCell ⟨w.heap.size, 2, none⟩ (.slice A' x.l.length cap') = X := ⟨_, rfl⟩
  have hXz : X.heap.size = w1.heap.size := by rw [← hX]; simp [World.setCell]
  rw [hX] at B1 B2 B3 HX1 HN1
  have HB1' := Lib.hid B1
  have HB2' := Lib.hid B2
  have HB3' := Lib.hid B3
  clear K1 K2 K3 B1 B2 B3 hb1 hx1
  have HK := Lib.hid (fun (V : World) (hV : Below X.heap.size X V) => (show (V.cell? ⟨g, 0, none⟩ = some (.int .i64 r)) ∧ (∀ o, V.frozen? ⟨g, o, none⟩ = false) ∧ V.cell? ⟨w.heap.size, 0, none⟩ = some (.int .i64 x.k) ∧ V.cell? ⟨w.heap.size, 1, none⟩ = some (.int .i64 x.n) ∧ V.cell? ⟨w.heap.size, 2, none⟩ = some (.slice A' x.l.length cap') from
    ⟨(HB3'.out.below hV (by omega)).cell 0, fun o => (HB3'.out.below hV (by omega)).cold o, (HB1'.out.below hV (by omega)).cell 0, (HB1'.out.below hV (by omega)).cell 1, (HB1'.out.below hV (by omega)).cell 2⟩))
  have hbk := Lib.hid ((Below.refl X.heap.size X).drew)
  have HSX := Lib.hid (fun (V : World) (hV : Below X.heap.size X V) => HSZ.out (w.heap.size + 2) w1.heap.size A' cap' V (HX1.out.kept hV (by omega)) (by have := hV.size; omega))
  obtain ⟨y0, hfz, y1, y2, y3⟩ := HK.out _ hbk.out
  go_upto_region 2 with fail
  subst hX
  go_region_law
    (first
     | (go_simp; go_at_call 54; refine (HSX.out _ hbk.out).mono ?_; rintro e w3 ⟨rfl, hbn⟩; have hbk := Lib.hid (hbk.out.trans (hbn.mono hbk.out.size)); clear hbn y0 hfz y1 y2 y3; obtain ⟨y0, hfz, y1, y2, y3⟩ := HK.out _ hbk.out))
  all_goals
    have hz3 := hbk.out.size
    have K2 := HB2'.out.below hbk.out (by omega)
    have K3 := HB3'.out.below hbk.out (by omega)
    have HX3 := Lib.hid (((HX1.out.kept hbk.out (by omega)).setFar (a := ⟨g, 0, none⟩) (by show g < _; omega) (.int .i64 (r - s))).far3 (g := w.heap.size + 1) (by omega) (.int .i64 x.k) (.int .i64 x.n) (.slice A' x.l.length cap'))
    have HN3 := Lib.hid (((((Near.of (g := g) (HN1.out.trans (hbk.out.mono (by omega)))).own 0 (.int .i64 (r - s))).setCell (p := ⟨w.heap.size + 1, 0, none⟩) (by show w.heap.size ≤ w.heap.size + 1; omega) (.int .i64 x.k)).setCell (p := ⟨w.heap.size + 1, 1, none⟩) (by show w.heap.size ≤ w.heap.size + 1; omega) (.int .i64 x.n)).setCell (p := ⟨w.heap.size + 1, 2, none⟩) (by show w.heap.size ≤ w.heap.size + 1; omega) (.slice A' x.l.length cap'))
    have hfzR : ∀ o, w3.frozen? ⟨w.heap.size + 1, o, none⟩ = false := fun o => K2.cold o
    have d0 : w3.cell? ⟨w.heap.size + 1, 0, none⟩ = some (.int .i64 0) := K2.cell 0
    have d1 : w3.cell? ⟨w.heap.size + 1, 1, none⟩ = some (.int .i64 0) := K2.cell 1
    have d2 : w3.cell? ⟨w.heap.size + 1, 2, none⟩ = some (.slice none 0 0) := K2.cell 2
    have E5 := (((K2.far (a := ⟨g, 0, none⟩) (by show w.heap.size + 1 ≠ g; omega) (.int .i64 (r - s))).at_ 0 (.int .i64 x.k)).at_ 1 (.int .i64 x.n)).at_ 2 (.slice A' x.l.length cap')
    have HS0 := Lib.hid (E5.cell 0)
    have HS1 := Lib.hid (E5.cell 1)
    have HS2 := Lib.hid (E5.cell 2)
    have HBK := Lib.hid ((((K3.at_ 0 (.int .i64 (r - s))).far (a := ⟨w.heap.size + 1, 0, none⟩) (by show g ≠ w.heap.size + 1; omega) (.int .i64 x.k)).far (a := ⟨w.heap.size + 1, 1, none⟩) (by show g ≠ w.heap.size + 1; omega) (.int .i64 x.n)).far (a := ⟨w.heap.size + 1, 2, none⟩) (by show g ≠ w.heap.size + 1; omega) (.slice A' x.l.length cap'))
    have HZ3 : Hid (w1.heap.size ≤ w3.heap.size) := Lib.hid (by omega)
    clear K2 K3 E5 HK HSX HBX HC HSZ
    by_cases hneg : r - s < 0
    · have HG := Lib.hid (show (2 : Int) = if r - s < 0 then 2 else c from (if_pos hneg).symm)
      go_wp2_with fail
      refine bodyPost_ret (v := .tuple #[.agg #[.int .i64 x.k, .int .i64 x.n, .slice A' x.l.length cap'], .int .i64 2]) (by simp [results, Tryd.results53, go_sem, HS0.out, HS1.out, HS2.out]) rfl ?_
      exact chIs_of HS.out HG.out (HX3.out.wide (by omega) (by have := HZ3.out; simp [World.setCell]; omega)) HN3.out HBK.out
    · have HG := Lib.hid (show c = if r - s < 0 then 2 else c from (if_neg hneg).symm)
      go_wp2_with fail
      refine bodyPost_ret (v := .tuple #[.agg #[.int .i64 x.k, .int .i64 x.n, .slice A' x.l.length cap'], .int .i64 c]) (by simp [results, Tryd.results53, go_sem, HS0.out, HS1.out, HS2.out]) rfl ?_
      exact chIs_of HS.out HG.out (HX3.out.wide (by omega) (by have := HZ3.out; simp [World.setCell]; omega)) HN3.out HBK.out

set_option maxHeartbeats 2000000 in
theorem ch_at (a0 a1 gb g : Nat) (p : TM × Int) (k n b r : Int) (w : World) (h0 : w.cell? ⟨gb, 0, none⟩ = some (.func (.func 37) #[] #[.pointer (some ⟨a0, 0, none⟩), .pointer (some ⟨a1, 0, none⟩)])) (hr : Bk w g 3 #[.int .i64 r]) (hr0 : 0 ≤ r ∧ r ≤ 8192) (hgb : gb ≠ g)
    (HC0 : ∀ V, Below w.heap.size w V → Calls Tryd.prog 37 #[.agg #[.int .i64 k, .int .i64 n, .slice none 0 0], .int .i64 b, .pointer (some ⟨a0, 0, none⟩), .pointer (some ⟨a1, 0, none⟩)] V (GivesT p V)) :
    Calls Tryd.prog 53 #[.agg #[.int .i64 k, .int .i64 n, .slice none 0 0], .int .i64 b, .pointer (some ⟨gb, 0, none⟩), .pointer (some ⟨g, 0, none⟩)] w (ChIs p r g w) := by
  have hltb : gb < w.heap.size := World.block_lt_of_cell? w _ h0
  have hltg : g < w.heap.size := hr.lt
  have HC := Lib.hid HC0
  have HR := Lib.hid hr
  obtain ⟨x, c⟩ := p
  obtain ⟨s, hs⟩ : ∃ s : Int, (topN x.size : Int) = s := ⟨_, rfl⟩
  have hsb : 0 ≤ s ∧ s ≤ 8193 := by have := topN_le x.size; omega
  have hw1 : IntKind.i64.wrap (r - s) = r - s := IntWalk.i64_in _ (by omega)
  have HSZ := Lib.hid (fun (lo hi : Nat) (A : Option Addr) (cap : Nat) (V : World) (h : IsTerm V lo hi x A cap) (hh : hi ≤ V.heap.size) => tsize_any x lo hi A cap V h hh)
  rw [hs] at HSZ
  have HS := Lib.hid hs
  have HW2 := Lib.hid (fun o1 o2 => ((Below.refl w.heap.size w).alloc (Nat.le_refl _) o1).alloc (by simp) o2)
  have HBX := Lib.hid (fun (V : World) (hV : Below ((w.alloc (.cells #[.int .i64 k, .int .i64 n, .slice none 0 0] 24)).alloc (.cells #[.int .i64 0, .int .i64 0, .slice none 0 0] 24)).heap.size ((w.alloc (.cells #[.int .i64 k, .int .i64 n, .slice none 0 0] 24)).alloc (.cells #[.int .i64 0, .int .i64 0, .slice none 0 0] 24)) V) => (show Bk V w.heap.size 24 #[.int .i64 k, .int .i64 n, .slice none 0 0] ∧ Bk V (w.heap.size + 1) 24 #[.int .i64 0, .int .i64 0, .slice none 0 0] ∧ Bk V g 3 #[.int .i64 r] from ⟨((Bk.new w 24 _).alloc (.cells #[.int .i64 0, .int .i64 0, .slice none 0 0] 24)).below hV (by simp <;> omega), (Bk.last (w.alloc (.cells #[.int .i64 k, .int .i64 n, .slice none 0 0] 24)) 24 #[.int .i64 0, .int .i64 0, .slice none 0 0] (by simp)).below hV (by simp), ((HR.out.alloc (.cells #[.int .i64 k, .int .i64 n, .slice none 0 0] 24)).alloc (.cells #[.int .i64 0, .int .i64 0, .slice none 0 0] 24)).below hV (by simp <;> omega)⟩))
  clear HC0 hr hr0 hsb hs
  go_enter Tryd.func53, Tryd.ntmps53
  go_wp2_with fail
  refine (HC.out _ (HW2.out _ _)).mono ?_
  rintro e w1 ⟨A', cap', rfl, hx1, hb1⟩
  rw [termV]
  have hz1 := hb1.size
  simp at hz1
  obtain ⟨K1, K2, K3⟩ := HBX.out _ hb1
  have HB1 := Lib.hid ((HW2.out _ _).trans (hb1.mono (by simp <;> omega)))
  have B1 := ((K1.at_ 0 (.int .i64 x.k)).at_ 1 (.int .i64 x.n)).at_ 2 (.slice A' x.l.length cap')
  have B2 := ((K2.far (a := ⟨w.heap.size, 0, none⟩) (by simp) (.int .i64 x.k)).far (a := ⟨w.heap.size, 1, none⟩) (by simp) (.int .i64 x.n)).far (a := ⟨w.heap.size, 2, none⟩) (by simp) (.slice A' x.l.length cap')
  have B3 := ((K3.far (a := ⟨w.heap.size, 0, none⟩) (by show g ≠ w.heap.size; omega) (.int .i64 x.k)).far (a := ⟨w.heap.size, 1, none⟩) (by show g ≠ w.heap.size; omega) (.int .i64 x.n)).far (a := ⟨w.heap.size, 2, none⟩) (by show g ≠ w.heap.size; omega) (.slice A' x.l.length cap')
  have HX1 := Lib.hid ((hx1.far3 (g := w.heap.size) (by simp <;> omega) (.int .i64 x.k) (.int .i64 x.n) (.slice A' x.l.length cap')).wide (lo' := w.heap.size + 2) (hi' := w1.heap.size) (by simp) (Nat.le_refl _))
  have HN1 := Lib.hid (((HB1.out.setCell (p := ⟨w.heap.size, 0, none⟩) (Nat.le_refl _) (.int .i64 x.k)).setCell (p := ⟨w.heap.size, 1, none⟩) (Nat.le_refl _) (.int .i64 x.n)).setCell (p := ⟨w.heap.size, 2, none⟩) (Nat.le_refl _) (.slice A' x.l.length cap'))
  have c0 : w1.cell? ⟨w.heap.size, 0, none⟩ = some (.int .i64 k) := K1.cell 0
  have c1 : w1.cell? ⟨w.heap.size, 1, none⟩ = some (.int .i64 n) := K1.cell 1
  have c2 : w1.cell? ⟨w.heap.size, 2, none⟩ = some (.slice none 0 0) := K1.cell 2
  have hfz0 : ∀ o, w1.frozen? ⟨w.heap.size, o, none⟩ = false := fun o => K1.cold o
  obtain ⟨X, hX⟩ : ∃ X, ((w1.setCell ⟨w.heap.size, 0, none⟩ (.int .i64 x.k)).setCell ⟨w.heap.size, 1, none⟩ (.int .i64 x.n)).setCell ⟨w.heap.size, 2, none⟩ (.slice A' x.l.length cap') = X := ⟨_, rfl⟩
  have hXz : X.heap.size = w1.heap.size := by rw [← hX]; simp [World.setCell]
  rw [hX] at B1 B2 B3 HX1 HN1
  have HB1' := Lib.hid B1
  have HB2' := Lib.hid B2
  have HB3' := Lib.hid B3
  clear K1 K2 K3 B1 B2 B3 hb1 hx1
  have HK := Lib.hid (fun (V : World) (hV : Below X.heap.size X V) => (show (V.cell? ⟨g, 0, none⟩ = some (.int .i64 r)) ∧ (∀ o, V.frozen? ⟨g, o, none⟩ = false) ∧ V.cell? ⟨w.heap.size, 0, none⟩ = some (.int .i64 x.k) ∧ V.cell? ⟨w.heap.size, 1, none⟩ = some (.int .i64 x.n) ∧ V.cell? ⟨w.heap.size, 2, none⟩ = some (.slice A' x.l.length cap') from
    ⟨(HB3'.out.below hV (by omega)).cell 0, fun o => (HB3'.out.below hV (by omega)).cold o, (HB1'.out.below hV (by omega)).cell 0, (HB1'.out.below hV (by omega)).cell 1, (HB1'.out.below hV (by omega)).cell 2⟩))
  have hbk := Lib.hid ((Below.refl X.heap.size X).drew)
  have HSX := Lib.hid (fun (V : World) (hV : Below X.heap.size X V) => HSZ.out (w.heap.size + 2) w1.heap.size A' cap' V (HX1.out.kept hV (by omega)) (by have := hV.size; omega))
  obtain ⟨y0, hfz, y1, y2, y3⟩ := HK.out _ hbk.out
  go_upto_region 2 with fail
  subst hX
  go_region_law
    (first
     | (go_simp; go_at_call 54; refine (HSX.out _ hbk.out).mono ?_; rintro e w3 ⟨rfl, hbn⟩; have hbk := Lib.hid (hbk.out.trans (hbn.mono hbk.out.size)); clear hbn y0 hfz y1 y2 y3; obtain ⟨y0, hfz, y1, y2, y3⟩ := HK.out _ hbk.out))
  all_goals
    have hz3 := hbk.out.size
    have K2 := HB2'.out.below hbk.out (by omega)
    have K3 := HB3'.out.below hbk.out (by omega)
    have HX3 := Lib.hid (((HX1.out.kept hbk.out (by omega)).setFar (a := ⟨g, 0, none⟩) (by show g < _; omega) (.int .i64 (r - s))).far3 (g := w.heap.size + 1) (by omega) (.int .i64 x.k) (.int .i64 x.n) (.slice A' x.l.length cap'))
    have HN3 := Lib.hid (((((Near.of (g := g) (HN1.out.trans (hbk.out.mono (by omega)))).own 0 (.int .i64 (r - s))).setCell (p := ⟨w.heap.size + 1, 0, none⟩) (by show w.heap.size ≤ w.heap.size + 1; omega) (.int .i64 x.k)).setCell (p := ⟨w.heap.size + 1, 1, none⟩) (by show w.heap.size ≤ w.heap.size + 1; omega) (.int .i64 x.n)).setCell (p := ⟨w.heap.size + 1, 2, none⟩) (by show w.heap.size ≤ w.heap.size + 1; omega) (.slice A' x.l.length cap'))
    have hfzR : ∀ o, w3.frozen? ⟨w.heap.size + 1, o, none⟩ = false := fun o => K2.cold o
    have d0 : w3.cell? ⟨w.heap.size + 1, 0, none⟩ = some (.int .i64 0) := K2.cell 0
    have d1 : w3.cell? ⟨w.heap.size + 1, 1, none⟩ = some (.int .i64 0) := K2.cell 1
    have d2 : w3.cell? ⟨w.heap.size + 1, 2, none⟩ = some (.slice none 0 0) := K2.cell 2
    have E5 := (((K2.far (a := ⟨g, 0, none⟩) (by show w.heap.size + 1 ≠ g; omega) (.int .i64 (r - s))).at_ 0 (.int .i64 x.k)).at_ 1 (.int .i64 x.n)).at_ 2 (.slice A' x.l.length cap')
    have HS0 := Lib.hid (E5.cell 0)
    have HS1 := Lib.hid (E5.cell 1)
    have HS2 := Lib.hid (E5.cell 2)
    have HBK := Lib.hid ((((K3.at_ 0 (.int .i64 (r - s))).far (a := ⟨w.heap.size + 1, 0, none⟩) (by show g ≠ w.heap.size + 1; omega) (.int .i64 x.k)).far (a := ⟨w.heap.size + 1, 1, none⟩) (by show g ≠ w.heap.size + 1; omega) (.int .i64 x.n)).far (a := ⟨w.heap.size + 1, 2, none⟩) (by show g ≠ w.heap.size + 1; omega) (.slice A' x.l.length cap'))
    have HZ3 : Hid (w1.heap.size ≤ w3.heap.size) := Lib.hid (by omega)
    clear K2 K3 E5 HK HSX HBX HC HSZ
    by_cases hneg : r - s < 0
    · have HG := Lib.hid (show (2 : Int) = if r - s < 0 then 2 else c from (if_pos hneg).symm)
      go_wp2_with fail
      refine bodyPost_ret (v := .tuple #[.agg #[.int .i64 x.k, .int .i64 x.n, .slice A' x.l.length cap'], .int .i64 2]) (by simp [results, Tryd.results53, go_sem, HS0.out, HS1.out, HS2.out]) rfl ?_
      exact chIs_of HS.out HG.out (HX3.out.wide (by omega) (by have := HZ3.out; simp [World.setCell]; omega)) HN3.out HBK.out
    · have HG := Lib.hid (show c = if r - s < 0 then 2 else c from (if_neg hneg).symm)
      go_wp2_with fail
      refine bodyPost_ret (v := .tuple #[.agg #[.int .i64 x.k, .int .i64 x.n, .slice A' x.l.length cap'], .int .i64 c]) (by simp [results, Tryd.results53, go_sem, HS0.out, HS1.out, HS2.out]) rfl ?_
      exact chIs_of HS.out HG.out (HX3.out.wide (by omega) (by have := HZ3.out; simp [World.setCell]; omega)) HN3.out HBK.out

set_option maxHeartbeats 2000000 in
theorem ch_named (a0 a1 gb g : Nat) (p : TM × Int) (k n b r : Int) (w : World) (h0 : w.cell? ⟨gb, 0, none⟩ = some (.func (.func 41) #[] #[.pointer (some ⟨a0, 0, none⟩), .pointer (some ⟨a1, 0, none⟩)])) (hr : Bk w g 3 #[.int .i64 r]) (hr0 : 0 ≤ r ∧ r ≤ 8192) (hgb : gb ≠ g)
    (HC0 : ∀ V, Below w.heap.size w V → Calls Tryd.prog 41 #[.agg #[.int .i64 k, .int .i64 n, .slice none 0 0], .int .i64 b, .pointer (some ⟨a0, 0, none⟩), .pointer (some ⟨a1, 0, none⟩)] V (GivesT p V)) :
    Calls Tryd.prog 53 #[.agg #[.int .i64 k, .int .i64 n, .slice none 0 0], .int .i64 b, .pointer (some ⟨gb, 0, none⟩), .pointer (some ⟨g, 0, none⟩)] w (ChIs p r g w) := by
  have hltb : gb < w.heap.size := World.block_lt_of_cell? w _ h0
  have hltg : g < w.heap.size := hr.lt
  have HC := Lib.hid HC0
  have HR := Lib.hid hr
  obtain ⟨x, c⟩ := p
  obtain ⟨s, hs⟩ : ∃ s : Int, (topN x.size : Int) = s := ⟨_, rfl⟩
  have hsb : 0 ≤ s ∧ s ≤ 8193 := by have := topN_le x.size; omega
  have hw1 : IntKind.i64.wrap (r - s) = r - s := IntWalk.i64_in _ (by omega)
  have HSZ := Lib.hid (fun (lo hi : Nat) (A : Option Addr) (cap : Nat) (V : World) (h : IsTerm V lo hi x A cap) (hh : hi ≤ V.heap.size) => tsize_any x lo hi A cap V h hh)
  rw [hs] at HSZ
  have HS := Lib.hid hs
  have HW2 := Lib.hid (fun o1 o2 => ((Below.refl w.heap.size w).alloc (Nat.le_refl _) o1).alloc (by simp) o2)
  have HBX := Lib.hid (fun (V : World) (hV : Below ((w.alloc (.cells #[.int .i64 k, .int .i64 n, .slice none 0 0] 24)).alloc (.cells #[.int .i64 0, .int .i64 0, .slice none 0 0] 24)).heap.size ((w.alloc (.cells #[.int .i64 k, .int .i64 n, .slice none 0 0] 24)).alloc (.cells #[.int .i64 0, .int .i64 0, .slice none 0 0] 24)) V) => (show Bk V w.heap.size 24 #[.int .i64 k, .int .i64 n, .slice none 0 0] ∧ Bk V (w.heap.size + 1) 24 #[.int .i64 0, .int .i64 0, .slice none 0 0] ∧ Bk V g 3 #[.int .i64 r] from ⟨((Bk.new w 24 _).alloc (.cells #[.int .i64 0, .int .i64 0, .slice none 0 0] 24)).below hV (by simp <;> omega), (Bk.last (w.alloc (.cells #[.int .i64 k, .int .i64 n, .slice none 0 0] 24)) 24 #[.int .i64 0, .int .i64 0, .slice none 0 0] (by simp)).below hV (by simp), ((HR.out.alloc (.cells #[.int .i64 k, .int .i64 n, .slice none 0 0] 24)).alloc (.cells #[.int .i64 0, .int .i64 0, .slice none 0 0] 24)).below hV (by simp <;> omega)⟩))
  clear HC0 hr hr0 hsb hs
  go_enter Tryd.func53, Tryd.ntmps53
  go_wp2_with fail
  refine (HC.out _ (HW2.out _ _)).mono ?_
  rintro e w1 ⟨A', cap', rfl, hx1, hb1⟩
  rw [termV]
  have hz1 := hb1.size
  simp at hz1
  obtain ⟨K1, K2, K3⟩ := HBX.out _ hb1
  have HB1 := Lib.hid ((HW2.out _ _).trans (hb1.mono (by simp <;> omega)))
  have B1 := ((K1.at_ 0 (.int .i64 x.k)).at_ 1 (.int .i64 x.n)).at_ 2 (.slice A' x.l.length cap')
  have B2 := ((K2.far (a := ⟨w.heap.size, 0, none⟩) (by simp) (.int .i64 x.k)).far (a := ⟨w.heap.size, 1, none⟩) (by simp) (.int .i64 x.n)).far (a := ⟨w.heap.size, 2, none⟩) (by simp) (.slice A' x.l.length cap')
  have B3 := ((K3.far (a := ⟨w.heap.size, 0, none⟩) (by show g ≠ w.heap.size; omega) (.int .i64 x.k)).far (a := ⟨w.heap.size, 1, none⟩) (by show g ≠ w.heap.size; omega) (.int .i64 x.n)).far (a := ⟨w.heap.size, 2, none⟩) (by show g ≠ w.heap.size; omega) (.slice A' x.l.length cap')
  have HX1 := Lib.hid ((hx1.far3 (g := w.heap.size) (by simp <;> omega) (.int .i64 x.k) (.int .i64 x.n) (.slice A' x.l.length cap')).wide (lo' := w.heap.size + 2) (hi' := w1.heap.size) (by simp) (Nat.le_refl _))
  have HN1 := Lib.hid (((HB1.out.setCell (p := ⟨w.heap.size, 0, none⟩) (Nat.le_refl _) (.int .i64 x.k)).setCell (p := ⟨w.heap.size, 1, none⟩) (Nat.le_refl _) (.int .i64 x.n)).setCell (p := ⟨w.heap.size, 2, none⟩) (Nat.le_refl _) (.slice A' x.l.length cap'))
  have c0 : w1.cell? ⟨w.heap.size, 0, none⟩ = some (.int .i64 k) := K1.cell 0
  have c1 : w1.cell? ⟨w.heap.size, 1, none⟩ = some (.int .i64 n) := K1.cell 1
  have c2 : w1.cell? ⟨w.heap.size, 2, none⟩ = some (.slice none 0 0) := K1.cell 2
  have hfz0 : ∀ o, w1.frozen? ⟨w.heap.size, o, none⟩ = false := fun o => K1.cold o
  obtain ⟨X, hX⟩ : ∃ X, ((w1.setCell ⟨w.heap.size, 0, none⟩ (.int .i64 x.k)).setCell ⟨w.heap.size, 1, none⟩ (.int .i64 x.n)).setCell ⟨w.heap.size, 2, none⟩ (.slice A' x.l.length cap') = X := ⟨_, rfl⟩
  have hXz : X.heap.size = w1.heap.size := by rw [← hX]; simp [World.setCell]
  rw [hX] at B1 B2 B3 HX1 HN1
  have HB1' := Lib.hid B1
  have HB2' := Lib.hid B2
  have HB3' := Lib.hid B3
  clear K1 K2 K3 B1 B2 B3 hb1 hx1
  have HK := Lib.hid (fun (V : World) (hV : Below X.heap.size X V) => (show (V.cell? ⟨g, 0, none⟩ = some (.int .i64 r)) ∧ (∀ o, V.frozen? ⟨g, o, none⟩ = false) ∧ V.cell? ⟨w.heap.size, 0, none⟩ = some (.int .i64 x.k) ∧ V.cell? ⟨w.heap.size, 1, none⟩ = some (.int .i64 x.n) ∧ V.cell? ⟨w.heap.size, 2, none⟩ = some (.slice A' x.l.length cap') from
    ⟨(HB3'.out.below hV (by omega)).cell 0, fun o => (HB3'.out.below hV (by omega)).cold o, (HB1'.out.below hV (by omega)).cell 0, (HB1'.out.below hV (by omega)).cell 1, (HB1'.out.below hV (by omega)).cell 2⟩))
  have hbk := Lib.hid ((Below.refl X.heap.size X).drew)
  have HSX := Lib.hid (fun (V : World) (hV : Below X.heap.size X V) => HSZ.out (w.heap.size + 2) w1.heap.size A' cap' V (HX1.out.kept hV (by omega)) (by have := hV.size; omega))
  obtain ⟨y0, hfz, y1, y2, y3⟩ := HK.out _ hbk.out
  go_upto_region 2 with fail
  subst hX
  go_region_law
    (first
     | (go_simp; go_at_call 54; refine (HSX.out _ hbk.out).mono ?_; rintro e w3 ⟨rfl, hbn⟩; have hbk := Lib.hid (hbk.out.trans (hbn.mono hbk.out.size)); clear hbn y0 hfz y1 y2 y3; obtain ⟨y0, hfz, y1, y2, y3⟩ := HK.out _ hbk.out))
  all_goals
    have hz3 := hbk.out.size
    have K2 := HB2'.out.below hbk.out (by omega)
    have K3 := HB3'.out.below hbk.out (by omega)
    have HX3 := Lib.hid (((HX1.out.kept hbk.out (by omega)).setFar (a := ⟨g, 0, none⟩) (by show g < _; omega) (.int .i64 (r - s))).far3 (g := w.heap.size + 1) (by omega) (.int .i64 x.k) (.int .i64 x.n) (.slice A' x.l.length cap'))
    have HN3 := Lib.hid (((((Near.of (g := g) (HN1.out.trans (hbk.out.mono (by omega)))).own 0 (.int .i64 (r - s))).setCell (p := ⟨w.heap.size + 1, 0, none⟩) (by show w.heap.size ≤ w.heap.size + 1; omega) (.int .i64 x.k)).setCell (p := ⟨w.heap.size + 1, 1, none⟩) (by show w.heap.size ≤ w.heap.size + 1; omega) (.int .i64 x.n)).setCell (p := ⟨w.heap.size + 1, 2, none⟩) (by show w.heap.size ≤ w.heap.size + 1; omega) (.slice A' x.l.length cap'))
    have hfzR : ∀ o, w3.frozen? ⟨w.heap.size + 1, o, none⟩ = false := fun o => K2.cold o
    have d0 : w3.cell? ⟨w.heap.size + 1, 0, none⟩ = some (.int .i64 0) := K2.cell 0
    have d1 : w3.cell? ⟨w.heap.size + 1, 1, none⟩ = some (.int .i64 0) := K2.cell 1
    have d2 : w3.cell? ⟨w.heap.size + 1, 2, none⟩ = some (.slice none 0 0) := K2.cell 2
    have E5 := (((K2.far (a := ⟨g, 0, none⟩) (by show w.heap.size + 1 ≠ g; omega) (.int .i64 (r - s))).at_ 0 (.int .i64 x.k)).at_ 1 (.int .i64 x.n)).at_ 2 (.slice A' x.l.length cap')
    have HS0 := Lib.hid (E5.cell 0)
    have HS1 := Lib.hid (E5.cell 1)
    have HS2 := Lib.hid (E5.cell 2)
    have HBK := Lib.hid ((((K3.at_ 0 (.int .i64 (r - s))).far (a := ⟨w.heap.size + 1, 0, none⟩) (by show g ≠ w.heap.size + 1; omega) (.int .i64 x.k)).far (a := ⟨w.heap.size + 1, 1, none⟩) (by show g ≠ w.heap.size + 1; omega) (.int .i64 x.n)).far (a := ⟨w.heap.size + 1, 2, none⟩) (by show g ≠ w.heap.size + 1; omega) (.slice A' x.l.length cap'))
    have HZ3 : Hid (w1.heap.size ≤ w3.heap.size) := Lib.hid (by omega)
    clear K2 K3 E5 HK HSX HBX HC HSZ
    by_cases hneg : r - s < 0
    · have HG := Lib.hid (show (2 : Int) = if r - s < 0 then 2 else c from (if_pos hneg).symm)
      go_wp2_with fail
      refine bodyPost_ret (v := .tuple #[.agg #[.int .i64 x.k, .int .i64 x.n, .slice A' x.l.length cap'], .int .i64 2]) (by simp [results, Tryd.results53, go_sem, HS0.out, HS1.out, HS2.out]) rfl ?_
      exact chIs_of HS.out HG.out (HX3.out.wide (by omega) (by have := HZ3.out; simp [World.setCell]; omega)) HN3.out HBK.out
    · have HG := Lib.hid (show c = if r - s < 0 then 2 else c from (if_neg hneg).symm)
      go_wp2_with fail
      refine bodyPost_ret (v := .tuple #[.agg #[.int .i64 x.k, .int .i64 x.n, .slice A' x.l.length cap'], .int .i64 c]) (by simp [results, Tryd.results53, go_sem, HS0.out, HS1.out, HS2.out]) rfl ?_
      exact chIs_of HS.out HG.out (HX3.out.wide (by omega) (by have := HZ3.out; simp [World.setCell]; omega)) HN3.out HBK.out

end Go.Proofs.YtcobionbgiaomaaDoor
