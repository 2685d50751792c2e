/- The walk of the law TermSames. -/
import Derived.Test.YteemfjkenmaedaaDoorTBox
namespace Go.Proofs.YteemfjkenmaedaaDoor
open Go.RowKit
set_option linter.unusedVariables false
set_option maxRecDepth 100000

set_option maxHeartbeats 8000000 in
theorem tsames_walk (t u : TM) (A B : Option Addr) (cap cap2 : Nat) (w : World) (hn : IsTerm w 0 w.heap.size t A cap) (hm : IsTerm w 0 w.heap.size u B cap2) (hS : ShapesM w) :
    Calls Tryd.prog 4 #[termV t A cap, termV u B cap2] w fun e w' => e = .returned (.bool true) ∧ Below w.heap.size w w' := by
  have HT := Lib.hid (fun (V : World) (hV : Below w.heap.size w V) => hn.kept hV (Nat.le_refl _))
  have HU := Lib.hid (fun (V : World) (hV : Below w.heap.size w V) => hm.kept hV (Nat.le_refl _))
  have e1 := fun V (hV : Below w.heap.size w V) => refShaped_any t 0 w.heap.size A cap V (HT.out V hV) hV.size
  have e2 := fun V (hV : Below w.heap.size w V) => refShaped_any u 0 w.heap.size B cap2 V (HU.out V hV) hV.size
  have e3 := fun V (hV : Below w.heap.size w V) => refEqual_any t u 0 w.heap.size 0 w.heap.size A B cap cap2 V (HT.out V hV) (HU.out V hV) hV.size hV.size
  have s1 := fun V (hV : Below w.heap.size w V) => tmSame_any t u 0 w.heap.size 0 w.heap.size A B cap cap2 V (HT.out V hV) (HU.out V hV) hV.size hV.size (hS.kept hV)
  have s2 := fun V (hV : Below w.heap.size w V) => tmSame_any u t 0 w.heap.size 0 w.heap.size B A cap2 cap V (HU.out V hV) (HT.out V hV) hV.size hV.size (hS.kept hV)
  have aw := fun V (hV : Below w.heap.size w V) => awakeM_any V (hS.kept hV)
  rw [same_both] at s1
  rw [same_both2] at s2
  unfold bothB at s1 s2
  obtain ⟨x, hx⟩ : ∃ x, shapedB t = x := ⟨_, rfl⟩
  obtain ⟨y, hy⟩ : ∃ x, shapedB u = x := ⟨_, rfl⟩
  obtain ⟨z, hz⟩ : ∃ x, alikeT t u = x := ⟨_, rfl⟩
  rw [hx] at e1
  rw [hy] at e2
  rw [hz] at e3
  rw [hx, hy, hz] at s1 s2
  have E1 := Lib.hid e1
  have E2 := Lib.hid e2
  have E3 := Lib.hid e3
  have S1 := Lib.hid s1
  have S2 := Lib.hid s2
  have AW := Lib.hid aw
  have HW2 := Lib.hid (fun o1 o2 => ((Below.refl w.heap.size w).alloc (Nat.le_refl _) o1).alloc (by simp) o2)
  clear hx hy hz e1 e2 e3 s1 s2 aw hn hm hS
  unfold termV at E1 E2 E3 S1 S2 ⊢
  cases x with
  | false =>
    go_enter Tryd.func4, Tryd.ntmps4
    go_wp2_with fail
    refine (E1.out _ (HW2.out _ _)).mono ?_
    rintro e w1 ⟨rfl, hb1⟩
    have hz1 := hb1.size
    simp at hz1
    have HB1 := Lib.hid ((HW2.out _ _).trans (hb1.mono (by simp; omega)))
    have Xx1 := Lib.hid (show TBox w1 (w.heap.size) t.k t.n (.slice A t.l.length cap) from TBox.of (((Bk.new w 24 #[.int .i64 t.k, .int .i64 t.n, .slice A t.l.length cap]).alloc _).below hb1 (by simp; omega)))
    obtain ⟨x0, x1, x2, xl⟩ := Xx1.out
    have Xy1 := Lib.hid (show TBox w1 (w.heap.size + 1) u.k u.n (.slice B u.l.length cap2) from TBox.of ((Bk.last (w.alloc (.cells #[.int .i64 t.k, .int .i64 t.n, .slice A t.l.length cap] 24)) 24 #[.int .i64 u.k, .int .i64 u.n, .slice B u.l.length cap2] (by simp)).below hb1 (by simp)))
    obtain ⟨y0, y1, y2, yl⟩ := Xy1.out
    clear hb1
    go_wp2_with fail
    refine (S1.out _ HB1.out).mono ?_
    rintro e w2 ⟨rfl, hb2⟩
    have hz2 := hb2.size
    have HB2 := Lib.hid (HB1.out.trans (hb2.mono HB1.out.size))
    have Xx2 := Lib.hid (Xx1.out.kept hb2 xl)
    clear x0 x1 x2 xl
    obtain ⟨x0, x1, x2, xl⟩ := Xx2.out
    have Xy2 := Lib.hid (Xy1.out.kept hb2 yl)
    clear y0 y1 y2 yl
    obtain ⟨y0, y1, y2, yl⟩ := Xy2.out
    clear hb2
    go_wp2_with fail
    refine (S2.out _ HB2.out).mono ?_
    rintro e w3 ⟨rfl, hb3⟩
    have hz3 := hb3.size
    have HB3 := Lib.hid (HB2.out.trans (hb3.mono HB2.out.size))
    have Xx3 := Lib.hid (Xx2.out.kept hb3 xl)
    clear x0 x1 x2 xl
    obtain ⟨x0, x1, x2, xl⟩ := Xx3.out
    have Xy3 := Lib.hid (Xy2.out.kept hb3 yl)
    clear y0 y1 y2 yl
    obtain ⟨y0, y1, y2, yl⟩ := Xy3.out
    clear hb3
    go_wp2_with fail
    refine (AW.out _ HB3.out).mono ?_
    rintro e w4 ⟨rfl, hb4⟩
    have hz4 := hb4.size
    have HB4 := Lib.hid (HB3.out.trans (hb4.mono HB3.out.size))
    have Xx4 := Lib.hid (Xx3.out.kept hb4 xl)
    clear x0 x1 x2 xl
    obtain ⟨x0, x1, x2, xl⟩ := Xx4.out
    have Xy4 := Lib.hid (Xy3.out.kept hb4 yl)
    clear y0 y1 y2 yl
    obtain ⟨y0, y1, y2, yl⟩ := Xy4.out
    clear hb4
    go_wp2_with fail
    go_ret
    exact ⟨rfl, HB4.out⟩
  | true =>
    go_enter Tryd.func4, Tryd.ntmps4
    go_wp2_with fail
    refine (E1.out _ (HW2.out _ _)).mono ?_
    rintro e w1 ⟨rfl, hb1⟩
    have hz1 := hb1.size
    simp at hz1
    have HB1 := Lib.hid ((HW2.out _ _).trans (hb1.mono (by simp; omega)))
    have Xx1 := Lib.hid (show TBox w1 (w.heap.size) t.k t.n (.slice A t.l.length cap) from TBox.of (((Bk.new w 24 #[.int .i64 t.k, .int .i64 t.n, .slice A t.l.length cap]).alloc _).below hb1 (by simp; omega)))
    obtain ⟨x0, x1, x2, xl⟩ := Xx1.out
    have Xy1 := Lib.hid (show TBox w1 (w.heap.size + 1) u.k u.n (.slice B u.l.length cap2) from TBox.of ((Bk.last (w.alloc (.cells #[.int .i64 t.k, .int .i64 t.n, .slice A t.l.length cap] 24)) 24 #[.int .i64 u.k, .int .i64 u.n, .slice B u.l.length cap2] (by simp)).below hb1 (by simp)))
    obtain ⟨y0, y1, y2, yl⟩ := Xy1.out
    clear hb1
    go_wp2_with fail
    cases y with
    | false =>
      refine (E2.out _ HB1.out).mono ?_
      rintro e w2 ⟨rfl, hb2⟩
      have hz2 := hb2.size
      have HB2 := Lib.hid (HB1.out.trans (hb2.mono HB1.out.size))
      have Xx2 := Lib.hid (Xx1.out.kept hb2 xl)
      clear x0 x1 x2 xl
      obtain ⟨x0, x1, x2, xl⟩ := Xx2.out
      have Xy2 := Lib.hid (Xy1.out.kept hb2 yl)
      clear y0 y1 y2 yl
      obtain ⟨y0, y1, y2, yl⟩ := Xy2.out
      clear hb2
      go_wp2_with fail
      refine (S1.out _ HB2.out).mono ?_
      rintro e w3 ⟨rfl, hb3⟩
      have hz3 := hb3.size
      have HB3 := Lib.hid (HB2.out.trans (hb3.mono HB2.out.size))
      have Xx3 := Lib.hid (Xx2.out.kept hb3 xl)
      clear x0 x1 x2 xl
      obtain ⟨x0, x1, x2, xl⟩ := Xx3.out
      have Xy3 := Lib.hid (Xy2.out.kept hb3 yl)
      clear y0 y1 y2 yl
      obtain ⟨y0, y1, y2, yl⟩ := Xy3.out
      clear hb3
      go_wp2_with fail
      refine (S2.out _ HB3.out).mono ?_
      rintro e w4 ⟨rfl, hb4⟩
      have hz4 := hb4.size
      have HB4 := Lib.hid (HB3.out.trans (hb4.mono HB3.out.size))
      have Xx4 := Lib.hid (Xx3.out.kept hb4 xl)
      clear x0 x1 x2 xl
      obtain ⟨x0, x1, x2, xl⟩ := Xx4.out
      have Xy4 := Lib.hid (Xy3.out.kept hb4 yl)
      clear y0 y1 y2 yl
      obtain ⟨y0, y1, y2, yl⟩ := Xy4.out
      clear hb4
      go_wp2_with fail
      refine (AW.out _ HB4.out).mono ?_
      rintro e w5 ⟨rfl, hb5⟩
      have hz5 := hb5.size
      have HB5 := Lib.hid (HB4.out.trans (hb5.mono HB4.out.size))
      have Xx5 := Lib.hid (Xx4.out.kept hb5 xl)
      clear x0 x1 x2 xl
      obtain ⟨x0, x1, x2, xl⟩ := Xx5.out
      have Xy5 := Lib.hid (Xy4.out.kept hb5 yl)
      clear y0 y1 y2 yl
      obtain ⟨y0, y1, y2, yl⟩ := Xy5.out
      clear hb5
      go_wp2_with fail
      go_ret
      exact ⟨rfl, HB5.out⟩
    | true =>
      refine (E2.out _ HB1.out).mono ?_
      rintro e w2 ⟨rfl, hb2⟩
      have hz2 := hb2.size
      have HB2 := Lib.hid (HB1.out.trans (hb2.mono HB1.out.size))
      have Xx2 := Lib.hid (Xx1.out.kept hb2 xl)
      clear x0 x1 x2 xl
      obtain ⟨x0, x1, x2, xl⟩ := Xx2.out
      have Xy2 := Lib.hid (Xy1.out.kept hb2 yl)
      clear y0 y1 y2 yl
      obtain ⟨y0, y1, y2, yl⟩ := Xy2.out
      clear hb2
      go_wp2_with fail
      cases z with
      | false =>
        refine (E3.out _ HB2.out).mono ?_
        rintro e w3 ⟨rfl, hb3⟩
        have hz3 := hb3.size
        have HB3 := Lib.hid (HB2.out.trans (hb3.mono HB2.out.size))
        have Xx3 := Lib.hid (Xx2.out.kept hb3 xl)
        clear x0 x1 x2 xl
        obtain ⟨x0, x1, x2, xl⟩ := Xx3.out
        have Xy3 := Lib.hid (Xy2.out.kept hb3 yl)
        clear y0 y1 y2 yl
        obtain ⟨y0, y1, y2, yl⟩ := Xy3.out
        clear hb3
        go_wp2_with fail
        refine (S1.out _ HB3.out).mono ?_
        rintro e w4 ⟨rfl, hb4⟩
        have hz4 := hb4.size
        have HB4 := Lib.hid (HB3.out.trans (hb4.mono HB3.out.size))
        have Xx4 := Lib.hid (Xx3.out.kept hb4 xl)
        clear x0 x1 x2 xl
        obtain ⟨x0, x1, x2, xl⟩ := Xx4.out
        have Xy4 := Lib.hid (Xy3.out.kept hb4 yl)
        clear y0 y1 y2 yl
        obtain ⟨y0, y1, y2, yl⟩ := Xy4.out
        clear hb4
        go_wp2_with fail
        refine (S2.out _ HB4.out).mono ?_
        rintro e w5 ⟨rfl, hb5⟩
        have hz5 := hb5.size
        have HB5 := Lib.hid (HB4.out.trans (hb5.mono HB4.out.size))
        have Xx5 := Lib.hid (Xx4.out.kept hb5 xl)
        clear x0 x1 x2 xl
        obtain ⟨x0, x1, x2, xl⟩ := Xx5.out
        have Xy5 := Lib.hid (Xy4.out.kept hb5 yl)
        clear y0 y1 y2 yl
        obtain ⟨y0, y1, y2, yl⟩ := Xy5.out
        clear hb5
        go_wp2_with fail
        refine (AW.out _ HB5.out).mono ?_
        rintro e w6 ⟨rfl, hb6⟩
        have hz6 := hb6.size
        have HB6 := Lib.hid (HB5.out.trans (hb6.mono HB5.out.size))
        have Xx6 := Lib.hid (Xx5.out.kept hb6 xl)
        clear x0 x1 x2 xl
        obtain ⟨x0, x1, x2, xl⟩ := Xx6.out
        have Xy6 := Lib.hid (Xy5.out.kept hb6 yl)
        clear y0 y1 y2 yl
        obtain ⟨y0, y1, y2, yl⟩ := Xy6.out
        clear hb6
        go_wp2_with fail
        go_ret
        exact ⟨rfl, HB6.out⟩
      | true =>
        refine (E3.out _ HB2.out).mono ?_
        rintro e w3 ⟨rfl, hb3⟩
        have hz3 := hb3.size
        have HB3 := Lib.hid (HB2.out.trans (hb3.mono HB2.out.size))
        have Xx3 := Lib.hid (Xx2.out.kept hb3 xl)
        clear x0 x1 x2 xl
        obtain ⟨x0, x1, x2, xl⟩ := Xx3.out
        have Xy3 := Lib.hid (Xy2.out.kept hb3 yl)
        clear y0 y1 y2 yl
        obtain ⟨y0, y1, y2, yl⟩ := Xy3.out
        clear hb3
        go_wp2_with fail
        refine (S1.out _ HB3.out).mono ?_
        rintro e w4 ⟨rfl, hb4⟩
        have hz4 := hb4.size
        have HB4 := Lib.hid (HB3.out.trans (hb4.mono HB3.out.size))
        have Xx4 := Lib.hid (Xx3.out.kept hb4 xl)
        clear x0 x1 x2 xl
        obtain ⟨x0, x1, x2, xl⟩ := Xx4.out
        have Xy4 := Lib.hid (Xy3.out.kept hb4 yl)
        clear y0 y1 y2 yl
        obtain ⟨y0, y1, y2, yl⟩ := Xy4.out
        clear hb4
        go_wp2_with fail
        refine (S2.out _ HB4.out).mono ?_
        rintro e w5 ⟨rfl, hb5⟩
        have hz5 := hb5.size
        have HB5 := Lib.hid (HB4.out.trans (hb5.mono HB4.out.size))
        have Xx5 := Lib.hid (Xx4.out.kept hb5 xl)
        clear x0 x1 x2 xl
        obtain ⟨x0, x1, x2, xl⟩ := Xx5.out
        have Xy5 := Lib.hid (Xy4.out.kept hb5 yl)
        clear y0 y1 y2 yl
        obtain ⟨y0, y1, y2, yl⟩ := Xy5.out
        clear hb5
        go_wp2_with fail
        refine (AW.out _ HB5.out).mono ?_
        rintro e w6 ⟨rfl, hb6⟩
        have hz6 := hb6.size
        have HB6 := Lib.hid (HB5.out.trans (hb6.mono HB5.out.size))
        have Xx6 := Lib.hid (Xx5.out.kept hb6 xl)
        clear x0 x1 x2 xl
        obtain ⟨x0, x1, x2, xl⟩ := Xx6.out
        have Xy6 := Lib.hid (Xy5.out.kept hb6 yl)
        clear y0 y1 y2 yl
        obtain ⟨y0, y1, y2, yl⟩ := Xy6.out
        clear hb6
        go_wp2_with fail
        go_ret
        exact ⟨rfl, HB6.out⟩

end Go.Proofs.YteemfjkenmaedaaDoor
