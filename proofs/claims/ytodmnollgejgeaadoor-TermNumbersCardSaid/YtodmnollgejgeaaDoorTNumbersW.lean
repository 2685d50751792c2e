/- The walk of the law TermNumbers. -/
import Derived.Test.YtodmnollgejgeaaDoorTBox
import Derived.Test.YtodmnollgejgeaaDoorTNums
import Derived.Test.YtodmnollgejgeaaDoorTRNums
import Derived.Test.YtodmnollgejgeaaDoorTRHas
import Derived.Test.YtodmnollgejgeaaDoorTInts
import Derived.Deep.RegionWith
import Derived.Deep.RegionHeld3
namespace Go.Proofs.YtodmnollgejgeaaDoor
open Go.RowKit
set_option linter.unusedVariables false
set_option maxRecDepth 100000

theorem has_le : ∀ (t : TM) (m : Int), tgoodB t = true → hasT t m = true → m ≤ 1048576 := by
  intro t
  induction t using TM.ind with
  | h k n l ih =>
    intro m hg hm
    have hn := (good_num hg).2
    have hn2 : n ≤ 1048576 := hn
    rw [tgoodB_node, Bool.and_eq_true] at hg
    rw [hasT_node] at hm
    split at hm
    · have := of_decide_eq_true hm; omega
    · have : ∀ (r : List TM) (i : Nat), (∀ u ∈ r, u ∈ l) → hasL k i r m = true → m ≤ 1048576 := by
        intro r
        induction r with
        | nil => intro i _ h; rw [hasL_nil] at h; cases h
        | cons u r ih2 =>
          intro i hs h
          rw [hasL_cons, Bool.or_eq_true] at h
          have h4 := hg.2
          rw [tgoodL_all, List.all_eq_true] at h4
          rcases h with h | h
          · have := ih u (hs u List.mem_cons_self) (m + bndR k i) (h4 u (hs u List.mem_cons_self)) h
            have := bndR_01 k i
            omega
          · exact ih2 (i + 1) (fun v hv => hs v (List.mem_cons_of_mem _ hv)) h
      exact this l 0 (fun _ h => h) hm
theorem two_is (a b : Int) : (fun k : Int => ([a, b] : List Int).contains k) = twoK a b := by
  funext k; unfold twoK; simp; rfl
theorem one_is (a : Int) : (fun k : Int => ([a] : List Int).contains k) = twoK a a := by
  funext k; unfold twoK; simp; rfl
/-- A row of numbers that came back. -/
def RowIs (l : List Int) (w : World) (e : Ending) (w' : World) : Prop := ∃ a c, e = .returned (.slice a l.length c) ∧ RowAt w' a l ∧ Below w.heap.size w w'
theorem NumsIs.rowIs {l : List Int} {w : World} {e : Ending} {w' : World} (h : NumsIs l w e w') : RowIs l w e w' := by
  obtain ⟨v, rfl, h1, h2⟩ := h
  obtain ⟨a, c, rfl⟩ := own_sliceM h1
  exact ⟨a, c, rfl, RowAt.own h1, h2⟩
theorem NumsIs.none {w : World} {e : Ending} {w' : World} (h : NumsIs [] w e w') : (∃ a c, e = .returned (.slice a 0 c)) ∧ Below w.heap.size w w' := by
  obtain ⟨a, c, rfl, h1, h2⟩ := h.rowIs
  exact ⟨⟨a, c, rfl⟩, h2⟩

set_option maxHeartbeats 16000000 in
theorem tnumbers_walk (t : TM) (A : Option Addr) (cap : Nat) (n : Int) (w : World) (hn : IsTerm w 0 w.heap.size t A cap) (hS : ShapesM w) :
    Calls Tryd.prog 3 #[termV t A cap, .int .i64 n] w fun e w' => e = .returned (.bool true) ∧ Below w.heap.size w w' := by
  have HT := Lib.hid (fun (V : World) (hV : Below w.heap.size w V) => hn.kept hV (Nat.le_refl _))
  have e1 := fun V (hV : Below w.heap.size w V) => refShaped_any t 0 w.heap.size A cap V (HT.out V hV) hV.size
  have cf := fun V (hV : Below w.heap.size w V) => frees_any t 0 w.heap.size A cap V (HT.out V hV) hV.size (hS.kept hV)
  have cg := fun V (hV : Below w.heap.size w V) => entries_any t 0 w.heap.size A cap V (HT.out V hV) hV.size (hS.kept hV)
  have ch := fun V (hV : Below w.heap.size w V) => tHas_any t n 0 w.heap.size A cap V (HT.out V hV) hV.size (hS.kept hV)
  have cl := fun V (hV : Below w.heap.size w V) => tLoose_any t 0 w.heap.size A cap V (HT.out V hV) hV.size (hS.kept hV)
  have aw := fun V (hV : Below w.heap.size w V) => awakeM_any V (hS.kept hV)
  have HW1 := Lib.hid (fun o1 => ((Below.refl w.heap.size w).alloc (Nat.le_refl _) o1))
  have AW := Lib.hid aw
  clear hS hn aw
  cases hx : shapedB t with
  | false =>
    rw [hx] at e1
    have f1 : numsL [8] t = [] := by unfold numsL; rw [hx]; rfl
    have f2 : numsL [6, 7] t = [] := by unfold numsL; rw [hx]; rfl
    have f3 : hasB t n = false := by unfold hasB; rw [hx]; simp
    have f4 : looseN t = 0 := by unfold looseN; rw [hx]; rfl
    rw [f1] at cf
    rw [f2] at cg
    rw [f3] at ch
    rw [f4] at cl
    have E1 := Lib.hid e1
    have CF := Lib.hid (fun V hV => (cf V hV).mono fun e w' h => h.none)
    have CG := Lib.hid (fun V hV => (cg V hV).mono fun e w' h => h.none)
    have CH := Lib.hid ch
    have CL := Lib.hid cl
    clear e1 cf cg ch cl f1 f2 f3 f4 hx
    unfold termV at E1 CF CG CH CL ⊢
    go_enter Tryd.func3, Tryd.ntmps3
    go_wp2_with fail
    refine (E1.out _ (HW1.out _)).mono ?_
    rintro e w1 ⟨rfl, hb1⟩
    have hz1 := hb1.size
    simp at hz1
    have HB1 := Lib.hid ((HW1.out _).trans (hb1.mono (by simp)))
    have Xx1 := Lib.hid (show TBox w1 (w.heap.size) t.k t.n (.slice A t.l.length cap) from TBox.of ((Bk.new w 24 #[.int .i64 t.k, .int .i64 t.n, .slice A t.l.length cap]).below hb1 (by simp)))
    obtain ⟨x0, x1, x2, xl⟩ := Xx1.out
    clear hb1
    go_wp2_with fail
    refine (CF.out _ HB1.out).mono ?_
    rintro e w2 ⟨⟨a2, c2, rfl⟩, hb2⟩
    have hz2 := hb2.size
    have HB2 := Lib.hid (HB1.out.trans (hb2.mono HB1.out.size))
    have Xx2 := Lib.hid (Xx1.out.kept hb2 xl)
    clear x0 x1 x2 xl
    obtain ⟨x0, x1, x2, xl⟩ := Xx2.out
    clear hb2
    go_wp2_with fail
    refine (CG.out _ HB2.out).mono ?_
    rintro e w3 ⟨⟨a3, c3, rfl⟩, hb3⟩
    have hz3 := hb3.size
    have HB3 := Lib.hid (HB2.out.trans (hb3.mono HB2.out.size))
    have Xx3 := Lib.hid (Xx2.out.kept hb3 xl)
    clear x0 x1 x2 xl
    obtain ⟨x0, x1, x2, xl⟩ := Xx3.out
    clear hb3
    go_wp2_with fail
    refine (CH.out _ HB3.out).mono ?_
    rintro e w4 ⟨rfl, hb4⟩
    have hz4 := hb4.size
    have HB4 := Lib.hid (HB3.out.trans (hb4.mono HB3.out.size))
    have Xx4 := Lib.hid (Xx3.out.kept hb4 xl)
    clear x0 x1 x2 xl
    obtain ⟨x0, x1, x2, xl⟩ := Xx4.out
    clear hb4
    go_wp2_with fail
    refine (CL.out _ HB4.out).mono ?_
    rintro e w5 ⟨rfl, hb5⟩
    have hz5 := hb5.size
    have HB5 := Lib.hid (HB4.out.trans (hb5.mono HB4.out.size))
    have Xx5 := Lib.hid (Xx4.out.kept hb5 xl)
    clear x0 x1 x2 xl
    obtain ⟨x0, x1, x2, xl⟩ := Xx5.out
    clear hb5
    go_wp2_with fail
    refine (AW.out _ HB5.out).mono ?_
    rintro e w6 ⟨rfl, hb6⟩
    have hz6 := hb6.size
    have HB6 := Lib.hid (HB5.out.trans (hb6.mono HB5.out.size))
    have Xx6 := Lib.hid (Xx5.out.kept hb6 xl)
    clear x0 x1 x2 xl
    obtain ⟨x0, x1, x2, xl⟩ := Xx6.out
    clear hb6
    go_wp2_with fail
    go_ret
    exact ⟨rfl, HB6.out⟩
  | true =>
    rw [hx] at e1
    obtain ⟨g1, g2, g3⟩ := shapedB_true.1 hx
    have f1 : numsL [8] t = setL (colT (twoK 8 8) t) := by unfold numsL; rw [hx, one_is]; rfl
    have f2 : numsL [6, 7] t = setL (colT (twoK 6 7) t) := by unfold numsL; rw [hx, two_is]; rfl
    have f4 : looseN t = looseT t 0 := by unfold looseN; rw [hx]; rfl
    rw [f1] at cf
    rw [f2] at cg
    rw [f4] at cl
    have cn := fun V (hV : Below w.heap.size w V) => refNums_any 8 8 t 0 w.heap.size A cap V (HT.out V hV) hV.size g1
    have cm := fun V (hV : Below w.heap.size w V) => refNums_any 6 7 t 0 w.heap.size A cap V (HT.out V hV) hV.size g1
    have crl := fun V (hV : Below w.heap.size w V) => refLoose_any t 0 0 w.heap.size A cap V (HT.out V hV) hV.size (by omega) (by omega) g3
    have l1 : (setL (colT (twoK 8 8) t)).length ≤ 9223372036854775807 := by
      have h1 := setL_length_le (colT (twoK 8 8) t)
      have h2 := colL_len (twoK 8 8) t
      omega
    have l2 : (setL (colT (twoK 6 7) t)).length ≤ 9223372036854775807 := by
      have h1 := setL_length_le (colT (twoK 6 7) t)
      have h2 := colL_len (twoK 6 7) t
      omega
    obtain ⟨L1, hL1⟩ : ∃ L, setL (colT (twoK 8 8) t) = L := ⟨_, rfl⟩
    obtain ⟨L2, hL2⟩ : ∃ L, setL (colT (twoK 6 7) t) = L := ⟨_, rfl⟩
    obtain ⟨x, hx0⟩ : ∃ x, looseT t 0 = x := ⟨_, rfl⟩
    rw [hL1] at cf cn l1
    rw [hL2] at cg cm l2
    rw [hx0] at cl crl
    have E1 := Lib.hid e1
    have CF := Lib.hid (fun V hV => (cf V hV).mono fun e w' h => h.rowIs)
    have CG := Lib.hid (fun V hV => (cg V hV).mono fun e w' h => h.rowIs)
    have CN := Lib.hid (fun V hV => (cn V hV).mono fun e w' h => h.rowIs)
    have CM := Lib.hid (fun V hV => (cm V hV).mono fun e w' h => h.rowIs)
    have CS1 := Lib.hid (fun a1 a2 c1 c2 V h1 h2 => sameInts_any L1 a1 a2 c1 c2 V l1 h1 h2)
    have CS2 := Lib.hid (fun a1 a2 c1 c2 V h1 h2 => sameInts_any L2 a1 a2 c1 c2 V l2 h1 h2)
    have CL := Lib.hid cl
    have CRL := Lib.hid crl
    have HB0 : hasB t n = (decide (0 ≤ n) && hasT t n) := by unfold hasB; rw [hx]; rfl
    rw [HB0] at ch
    have crh := fun (h0 : 0 ≤ n) (h1 : n ≤ 1048576) V (hV : Below w.heap.size w V) => refHas_any t n 0 w.heap.size A cap V (HT.out V hV) hV.size h0 (by omega)
    have hle := has_le t n g3
    clear e1 cf cg cn cm cl crl l1 l2 f1 f2 f4 hL1 hL2 hx0 HB0 hx g1 g2 g3
    by_cases h0 : 0 ≤ n
    · rw [decide_eq_true h0, Bool.true_and] at ch
      by_cases h1 : n ≤ 1048576
      · have crh := crh h0 h1
        have d0 : decide (n ≥ 0) = true := decide_eq_true h0
        have d1 : decide (n ≤ 1048576) = true := decide_eq_true h1
        obtain ⟨b, hb⟩ : ∃ b, hasT t n = b := ⟨_, rfl⟩
        rw [hb] at ch crh
        clear hb hle
        have CH := Lib.hid ch
        have CRH := Lib.hid crh
        clear ch crh
        unfold termV at E1 CF CG CN CM CL CRL CH CRH ⊢
        cases b with
        | false =>
          go_enter Tryd.func3, Tryd.ntmps3
          go_wp2_with fail
          refine (E1.out _ (HW1.out _)).mono ?_
          rintro e w1 ⟨rfl, hb1⟩
          have hz1 := hb1.size
          simp at hz1
          have HB1 := Lib.hid ((HW1.out _).trans (hb1.mono (by simp)))
          have Xx1 := Lib.hid (show TBox w1 (w.heap.size) t.k t.n (.slice A t.l.length cap) from TBox.of ((Bk.new w 24 #[.int .i64 t.k, .int .i64 t.n, .slice A t.l.length cap]).below hb1 (by simp)))
          obtain ⟨x0, x1, x2, xl⟩ := Xx1.out
          clear hb1
          go_wp2_with fail
          refine (CRH.out _ HB1.out).mono ?_
          rintro e w2 ⟨rfl, hb2⟩
          have hz2 := hb2.size
          have HB2 := Lib.hid (HB1.out.trans (hb2.mono HB1.out.size))
          have Xx2 := Lib.hid (Xx1.out.kept hb2 xl)
          clear x0 x1 x2 xl
          obtain ⟨x0, x1, x2, xl⟩ := Xx2.out
          clear hb2
          go_upto_region 4 with fail
          have HK6 := Lib.hid (fun (V : World) (hV : Below w2.heap.size w2 V) => (show V.cell? ⟨w.heap.size, 0, none⟩ = some (.int .i64 t.k) ∧ V.cell? ⟨w.heap.size, 1, none⟩ = some (.int .i64 t.n) ∧ V.cell? ⟨w.heap.size, 2, none⟩ = some (.slice A t.l.length cap) from ⟨(Xx2.out.kept hV xl).c0, (Xx2.out.kept hV xl).c1, (Xx2.out.kept hV xl).c2⟩))
          have HBV := Lib.hid (fun (V : World) (hV : Below w2.heap.size w2 V) => HB2.out.trans (hV.mono HB2.out.size))
          have hbk := Lib.hid ((Below.refl w2.heap.size w2).drew)
          go_region_held3 (fun w' => w'.cell? ⟨w.heap.size, 0, none⟩ = some (.int .i64 t.k) ∧ w'.cell? ⟨w.heap.size, 1, none⟩ = some (.int .i64 t.n) ∧ w'.cell? ⟨w.heap.size, 2, none⟩ = some (.slice A t.l.length cap))
            (exact HK6.out _ hbk.out)
            (first
             | (go_at_call 12
                refine (CF.out _ (HBV.out _ hbk.out)).mono ?_
                rintro e wn ⟨an, cn, rfl, hrn, hbn⟩
                (try have rF := Lib.hid (rF.out.kept hbn)); (try have rN := Lib.hid (rN.out.kept hbn)); (try have rG := Lib.hid (rG.out.kept hbn)); (try have rM := Lib.hid (rM.out.kept hbn)); have rF := Lib.hid hrn
                have hbk := Lib.hid (hbk.out.trans (hbn.mono hbk.out.size))
                clear hrn hbn)
             | (go_at_call_of 19 (Value.int IntKind.i64 8)
                refine (CN.out _ (HBV.out _ hbk.out)).mono ?_
                rintro e wn ⟨an, cn, rfl, hrn, hbn⟩
                (try have rF := Lib.hid (rF.out.kept hbn)); (try have rN := Lib.hid (rN.out.kept hbn)); (try have rG := Lib.hid (rG.out.kept hbn)); (try have rM := Lib.hid (rM.out.kept hbn)); have rN := Lib.hid hrn
                have hbk := Lib.hid (hbk.out.trans (hbn.mono hbk.out.size))
                clear hrn hbn)
             | (go_at_call 13
                refine (CG.out _ (HBV.out _ hbk.out)).mono ?_
                rintro e wn ⟨an, cn, rfl, hrn, hbn⟩
                (try have rF := Lib.hid (rF.out.kept hbn)); (try have rN := Lib.hid (rN.out.kept hbn)); (try have rG := Lib.hid (rG.out.kept hbn)); (try have rM := Lib.hid (rM.out.kept hbn)); have rG := Lib.hid hrn
                have hbk := Lib.hid (hbk.out.trans (hbn.mono hbk.out.size))
                clear hrn hbn)
             | (go_at_call_of 19 (Value.int IntKind.i64 6)
                refine (CM.out _ (HBV.out _ hbk.out)).mono ?_
                rintro e wn ⟨an, cn, rfl, hrn, hbn⟩
                (try have rF := Lib.hid (rF.out.kept hbn)); (try have rN := Lib.hid (rN.out.kept hbn)); (try have rG := Lib.hid (rG.out.kept hbn)); (try have rM := Lib.hid (rM.out.kept hbn)); have rM := Lib.hid hrn
                have hbk := Lib.hid (hbk.out.trans (hbn.mono hbk.out.size))
                clear hrn hbn)
             | (go_at_call 18
                refine (CS2.out _ _ _ _ _ rG.out rM.out).mono ?_
                rintro e wn ⟨rfl, hbn⟩
                (try have rF := Lib.hid (rF.out.kept hbn)); (try have rN := Lib.hid (rN.out.kept hbn)); (try have rG := Lib.hid (rG.out.kept hbn)); (try have rM := Lib.hid (rM.out.kept hbn)); 
                have hbk := Lib.hid (hbk.out.trans (hbn.mono hbk.out.size))
                clear hbn)
             | (go_at_call 18
                refine (CS1.out _ _ _ _ _ rF.out rN.out).mono ?_
                rintro e wn ⟨rfl, hbn⟩
                (try have rF := Lib.hid (rF.out.kept hbn)); (try have rN := Lib.hid (rN.out.kept hbn)); (try have rG := Lib.hid (rG.out.kept hbn)); (try have rM := Lib.hid (rM.out.kept hbn)); 
                have hbk := Lib.hid (hbk.out.trans (hbn.mono hbk.out.size))
                clear hbn)
             | (go_at_call 14
                refine (CH.out _ (HBV.out _ hbk.out)).mono ?_
                rintro e wn ⟨rfl, hbn⟩
                (try have rF := Lib.hid (rF.out.kept hbn)); (try have rN := Lib.hid (rN.out.kept hbn)); (try have rG := Lib.hid (rG.out.kept hbn)); (try have rM := Lib.hid (rM.out.kept hbn)); 
                have hbk := Lib.hid (hbk.out.trans (hbn.mono hbk.out.size))
                clear hbn)
             | (go_at_call 15
                refine (CL.out _ (HBV.out _ hbk.out)).mono ?_
                rintro e wn ⟨rfl, hbn⟩
                (try have rF := Lib.hid (rF.out.kept hbn)); (try have rN := Lib.hid (rN.out.kept hbn)); (try have rG := Lib.hid (rG.out.kept hbn)); (try have rM := Lib.hid (rM.out.kept hbn)); 
                have hbk := Lib.hid (hbk.out.trans (hbn.mono hbk.out.size))
                clear hbn)
             | (go_at_call 20
                refine (CRL.out _ (HBV.out _ hbk.out)).mono ?_
                rintro e wn ⟨rfl, hbn⟩
                (try have rF := Lib.hid (rF.out.kept hbn)); (try have rN := Lib.hid (rN.out.kept hbn)); (try have rG := Lib.hid (rG.out.kept hbn)); (try have rM := Lib.hid (rM.out.kept hbn)); 
                have hbk := Lib.hid (hbk.out.trans (hbn.mono hbk.out.size))
                clear hbn)
             | (go_at_call 16
                refine (AW.out _ (HBV.out _ hbk.out)).mono ?_
                rintro e wn ⟨rfl, hbn⟩
                (try have rF := Lib.hid (rF.out.kept hbn)); (try have rN := Lib.hid (rN.out.kept hbn)); (try have rG := Lib.hid (rG.out.kept hbn)); (try have rM := Lib.hid (rM.out.kept hbn)); 
                have hbk := Lib.hid (hbk.out.trans (hbn.mono hbk.out.size))
                clear hbn))
          all_goals
            go_wp2_with fail
            go_ret
            exact ⟨rfl, HBV.out _ hbk.out⟩
        | true =>
          go_enter Tryd.func3, Tryd.ntmps3
          go_wp2_with fail
          refine (E1.out _ (HW1.out _)).mono ?_
          rintro e w1 ⟨rfl, hb1⟩
          have hz1 := hb1.size
          simp at hz1
          have HB1 := Lib.hid ((HW1.out _).trans (hb1.mono (by simp)))
          have Xx1 := Lib.hid (show TBox w1 (w.heap.size) t.k t.n (.slice A t.l.length cap) from TBox.of ((Bk.new w 24 #[.int .i64 t.k, .int .i64 t.n, .slice A t.l.length cap]).below hb1 (by simp)))
          obtain ⟨x0, x1, x2, xl⟩ := Xx1.out
          clear hb1
          go_wp2_with fail
          refine (CRH.out _ HB1.out).mono ?_
          rintro e w2 ⟨rfl, hb2⟩
          have hz2 := hb2.size
          have HB2 := Lib.hid (HB1.out.trans (hb2.mono HB1.out.size))
          have Xx2 := Lib.hid (Xx1.out.kept hb2 xl)
          clear x0 x1 x2 xl
          obtain ⟨x0, x1, x2, xl⟩ := Xx2.out
          clear hb2
          go_upto_region 4 with fail
          have HK6 := Lib.hid (fun (V : World) (hV : Below w2.heap.size w2 V) => (show V.cell? ⟨w.heap.size, 0, none⟩ = some (.int .i64 t.k) ∧ V.cell? ⟨w.heap.size, 1, none⟩ = some (.int .i64 t.n) ∧ V.cell? ⟨w.heap.size, 2, none⟩ = some (.slice A t.l.length cap) from ⟨(Xx2.out.kept hV xl).c0, (Xx2.out.kept hV xl).c1, (Xx2.out.kept hV xl).c2⟩))
          have HBV := Lib.hid (fun (V : World) (hV : Below w2.heap.size w2 V) => HB2.out.trans (hV.mono HB2.out.size))
          have hbk := Lib.hid ((Below.refl w2.heap.size w2).drew)
          go_region_held3 (fun w' => w'.cell? ⟨w.heap.size, 0, none⟩ = some (.int .i64 t.k) ∧ w'.cell? ⟨w.heap.size, 1, none⟩ = some (.int .i64 t.n) ∧ w'.cell? ⟨w.heap.size, 2, none⟩ = some (.slice A t.l.length cap))
            (exact HK6.out _ hbk.out)
            (first
             | (go_at_call 12
                refine (CF.out _ (HBV.out _ hbk.out)).mono ?_
                rintro e wn ⟨an, cn, rfl, hrn, hbn⟩
                (try have rF := Lib.hid (rF.out.kept hbn)); (try have rN := Lib.hid (rN.out.kept hbn)); (try have rG := Lib.hid (rG.out.kept hbn)); (try have rM := Lib.hid (rM.out.kept hbn)); have rF := Lib.hid hrn
                have hbk := Lib.hid (hbk.out.trans (hbn.mono hbk.out.size))
                clear hrn hbn)
             | (go_at_call_of 19 (Value.int IntKind.i64 8)
                refine (CN.out _ (HBV.out _ hbk.out)).mono ?_
                rintro e wn ⟨an, cn, rfl, hrn, hbn⟩
                (try have rF := Lib.hid (rF.out.kept hbn)); (try have rN := Lib.hid (rN.out.kept hbn)); (try have rG := Lib.hid (rG.out.kept hbn)); (try have rM := Lib.hid (rM.out.kept hbn)); have rN := Lib.hid hrn
                have hbk := Lib.hid (hbk.out.trans (hbn.mono hbk.out.size))
                clear hrn hbn)
             | (go_at_call 13
                refine (CG.out _ (HBV.out _ hbk.out)).mono ?_
                rintro e wn ⟨an, cn, rfl, hrn, hbn⟩
                (try have rF := Lib.hid (rF.out.kept hbn)); (try have rN := Lib.hid (rN.out.kept hbn)); (try have rG := Lib.hid (rG.out.kept hbn)); (try have rM := Lib.hid (rM.out.kept hbn)); have rG := Lib.hid hrn
                have hbk := Lib.hid (hbk.out.trans (hbn.mono hbk.out.size))
                clear hrn hbn)
             | (go_at_call_of 19 (Value.int IntKind.i64 6)
                refine (CM.out _ (HBV.out _ hbk.out)).mono ?_
                rintro e wn ⟨an, cn, rfl, hrn, hbn⟩
                (try have rF := Lib.hid (rF.out.kept hbn)); (try have rN := Lib.hid (rN.out.kept hbn)); (try have rG := Lib.hid (rG.out.kept hbn)); (try have rM := Lib.hid (rM.out.kept hbn)); have rM := Lib.hid hrn
                have hbk := Lib.hid (hbk.out.trans (hbn.mono hbk.out.size))
                clear hrn hbn)
             | (go_at_call 18
                refine (CS2.out _ _ _ _ _ rG.out rM.out).mono ?_
                rintro e wn ⟨rfl, hbn⟩
                (try have rF := Lib.hid (rF.out.kept hbn)); (try have rN := Lib.hid (rN.out.kept hbn)); (try have rG := Lib.hid (rG.out.kept hbn)); (try have rM := Lib.hid (rM.out.kept hbn)); 
                have hbk := Lib.hid (hbk.out.trans (hbn.mono hbk.out.size))
                clear hbn)
             | (go_at_call 18
                refine (CS1.out _ _ _ _ _ rF.out rN.out).mono ?_
                rintro e wn ⟨rfl, hbn⟩
                (try have rF := Lib.hid (rF.out.kept hbn)); (try have rN := Lib.hid (rN.out.kept hbn)); (try have rG := Lib.hid (rG.out.kept hbn)); (try have rM := Lib.hid (rM.out.kept hbn)); 
                have hbk := Lib.hid (hbk.out.trans (hbn.mono hbk.out.size))
                clear hbn)
             | (go_at_call 14
                refine (CH.out _ (HBV.out _ hbk.out)).mono ?_
                rintro e wn ⟨rfl, hbn⟩
                (try have rF := Lib.hid (rF.out.kept hbn)); (try have rN := Lib.hid (rN.out.kept hbn)); (try have rG := Lib.hid (rG.out.kept hbn)); (try have rM := Lib.hid (rM.out.kept hbn)); 
                have hbk := Lib.hid (hbk.out.trans (hbn.mono hbk.out.size))
                clear hbn)
             | (go_at_call 15
                refine (CL.out _ (HBV.out _ hbk.out)).mono ?_
                rintro e wn ⟨rfl, hbn⟩
                (try have rF := Lib.hid (rF.out.kept hbn)); (try have rN := Lib.hid (rN.out.kept hbn)); (try have rG := Lib.hid (rG.out.kept hbn)); (try have rM := Lib.hid (rM.out.kept hbn)); 
                have hbk := Lib.hid (hbk.out.trans (hbn.mono hbk.out.size))
                clear hbn)
             | (go_at_call 20
                refine (CRL.out _ (HBV.out _ hbk.out)).mono ?_
                rintro e wn ⟨rfl, hbn⟩
                (try have rF := Lib.hid (rF.out.kept hbn)); (try have rN := Lib.hid (rN.out.kept hbn)); (try have rG := Lib.hid (rG.out.kept hbn)); (try have rM := Lib.hid (rM.out.kept hbn)); 
                have hbk := Lib.hid (hbk.out.trans (hbn.mono hbk.out.size))
                clear hbn)
             | (go_at_call 16
                refine (AW.out _ (HBV.out _ hbk.out)).mono ?_
                rintro e wn ⟨rfl, hbn⟩
                (try have rF := Lib.hid (rF.out.kept hbn)); (try have rN := Lib.hid (rN.out.kept hbn)); (try have rG := Lib.hid (rG.out.kept hbn)); (try have rM := Lib.hid (rM.out.kept hbn)); 
                have hbk := Lib.hid (hbk.out.trans (hbn.mono hbk.out.size))
                clear hbn))
          all_goals
            go_wp2_with fail
            go_ret
            exact ⟨rfl, HBV.out _ hbk.out⟩
      · have hf : hasT t n = false := by cases h : hasT t n with | false => rfl | true => exact absurd (hle h) h1
        rw [hf] at ch
        have d0 : decide (n ≥ 0) = true := decide_eq_true h0
        have d1 : decide (n ≤ 1048576) = false := decide_eq_false h1
        have hgt : 1048576 < n := by omega
        have CH := Lib.hid ch
        clear ch crh hle hf
        unfold termV at E1 CF CG CN CM CL CRL CH ⊢
        go_enter Tryd.func3, Tryd.ntmps3
        go_wp2_with fail
        refine (E1.out _ (HW1.out _)).mono ?_
        rintro e w1 ⟨rfl, hb1⟩
        have hz1 := hb1.size
        simp at hz1
        have HB1 := Lib.hid ((HW1.out _).trans (hb1.mono (by simp)))
        have Xx1 := Lib.hid (show TBox w1 (w.heap.size) t.k t.n (.slice A t.l.length cap) from TBox.of ((Bk.new w 24 #[.int .i64 t.k, .int .i64 t.n, .slice A t.l.length cap]).below hb1 (by simp)))
        obtain ⟨x0, x1, x2, xl⟩ := Xx1.out
        clear hb1
        go_upto_region 4 with fail
        have HK6 := Lib.hid (fun (V : World) (hV : Below w1.heap.size w1 V) => (show V.cell? ⟨w.heap.size, 0, none⟩ = some (.int .i64 t.k) ∧ V.cell? ⟨w.heap.size, 1, none⟩ = some (.int .i64 t.n) ∧ V.cell? ⟨w.heap.size, 2, none⟩ = some (.slice A t.l.length cap) from ⟨(Xx1.out.kept hV xl).c0, (Xx1.out.kept hV xl).c1, (Xx1.out.kept hV xl).c2⟩))
        have HBV := Lib.hid (fun (V : World) (hV : Below w1.heap.size w1 V) => HB1.out.trans (hV.mono HB1.out.size))
        have hbk := Lib.hid ((Below.refl w1.heap.size w1).drew)
        go_region_held3 (fun w' => w'.cell? ⟨w.heap.size, 0, none⟩ = some (.int .i64 t.k) ∧ w'.cell? ⟨w.heap.size, 1, none⟩ = some (.int .i64 t.n) ∧ w'.cell? ⟨w.heap.size, 2, none⟩ = some (.slice A t.l.length cap))
          (exact HK6.out _ hbk.out)
          (first
           | (go_at_call 12
              refine (CF.out _ (HBV.out _ hbk.out)).mono ?_
              rintro e wn ⟨an, cn, rfl, hrn, hbn⟩
              (try have rF := Lib.hid (rF.out.kept hbn)); (try have rN := Lib.hid (rN.out.kept hbn)); (try have rG := Lib.hid (rG.out.kept hbn)); (try have rM := Lib.hid (rM.out.kept hbn)); have rF := Lib.hid hrn
              have hbk := Lib.hid (hbk.out.trans (hbn.mono hbk.out.size))
              clear hrn hbn)
           | (go_at_call_of 19 (Value.int IntKind.i64 8)
              refine (CN.out _ (HBV.out _ hbk.out)).mono ?_
              rintro e wn ⟨an, cn, rfl, hrn, hbn⟩
              (try have rF := Lib.hid (rF.out.kept hbn)); (try have rN := Lib.hid (rN.out.kept hbn)); (try have rG := Lib.hid (rG.out.kept hbn)); (try have rM := Lib.hid (rM.out.kept hbn)); have rN := Lib.hid hrn
              have hbk := Lib.hid (hbk.out.trans (hbn.mono hbk.out.size))
              clear hrn hbn)
           | (go_at_call 13
              refine (CG.out _ (HBV.out _ hbk.out)).mono ?_
              rintro e wn ⟨an, cn, rfl, hrn, hbn⟩
              (try have rF := Lib.hid (rF.out.kept hbn)); (try have rN := Lib.hid (rN.out.kept hbn)); (try have rG := Lib.hid (rG.out.kept hbn)); (try have rM := Lib.hid (rM.out.kept hbn)); have rG := Lib.hid hrn
              have hbk := Lib.hid (hbk.out.trans (hbn.mono hbk.out.size))
              clear hrn hbn)
           | (go_at_call_of 19 (Value.int IntKind.i64 6)
              refine (CM.out _ (HBV.out _ hbk.out)).mono ?_
              rintro e wn ⟨an, cn, rfl, hrn, hbn⟩
              (try have rF := Lib.hid (rF.out.kept hbn)); (try have rN := Lib.hid (rN.out.kept hbn)); (try have rG := Lib.hid (rG.out.kept hbn)); (try have rM := Lib.hid (rM.out.kept hbn)); have rM := Lib.hid hrn
              have hbk := Lib.hid (hbk.out.trans (hbn.mono hbk.out.size))
              clear hrn hbn)
           | (go_at_call 18
              refine (CS2.out _ _ _ _ _ rG.out rM.out).mono ?_
              rintro e wn ⟨rfl, hbn⟩
              (try have rF := Lib.hid (rF.out.kept hbn)); (try have rN := Lib.hid (rN.out.kept hbn)); (try have rG := Lib.hid (rG.out.kept hbn)); (try have rM := Lib.hid (rM.out.kept hbn)); 
              have hbk := Lib.hid (hbk.out.trans (hbn.mono hbk.out.size))
              clear hbn)
           | (go_at_call 18
              refine (CS1.out _ _ _ _ _ rF.out rN.out).mono ?_
              rintro e wn ⟨rfl, hbn⟩
              (try have rF := Lib.hid (rF.out.kept hbn)); (try have rN := Lib.hid (rN.out.kept hbn)); (try have rG := Lib.hid (rG.out.kept hbn)); (try have rM := Lib.hid (rM.out.kept hbn)); 
              have hbk := Lib.hid (hbk.out.trans (hbn.mono hbk.out.size))
              clear hbn)
           | (go_at_call 14
              refine (CH.out _ (HBV.out _ hbk.out)).mono ?_
              rintro e wn ⟨rfl, hbn⟩
              (try have rF := Lib.hid (rF.out.kept hbn)); (try have rN := Lib.hid (rN.out.kept hbn)); (try have rG := Lib.hid (rG.out.kept hbn)); (try have rM := Lib.hid (rM.out.kept hbn)); 
              have hbk := Lib.hid (hbk.out.trans (hbn.mono hbk.out.size))
              clear hbn)
           | (go_at_call 15
              refine (CL.out _ (HBV.out _ hbk.out)).mono ?_
              rintro e wn ⟨rfl, hbn⟩
              (try have rF := Lib.hid (rF.out.kept hbn)); (try have rN := Lib.hid (rN.out.kept hbn)); (try have rG := Lib.hid (rG.out.kept hbn)); (try have rM := Lib.hid (rM.out.kept hbn)); 
              have hbk := Lib.hid (hbk.out.trans (hbn.mono hbk.out.size))
              clear hbn)
           | (go_at_call 20
              refine (CRL.out _ (HBV.out _ hbk.out)).mono ?_
              rintro e wn ⟨rfl, hbn⟩
              (try have rF := Lib.hid (rF.out.kept hbn)); (try have rN := Lib.hid (rN.out.kept hbn)); (try have rG := Lib.hid (rG.out.kept hbn)); (try have rM := Lib.hid (rM.out.kept hbn)); 
              have hbk := Lib.hid (hbk.out.trans (hbn.mono hbk.out.size))
              clear hbn)
           | (go_at_call 16
              refine (AW.out _ (HBV.out _ hbk.out)).mono ?_
              rintro e wn ⟨rfl, hbn⟩
              (try have rF := Lib.hid (rF.out.kept hbn)); (try have rN := Lib.hid (rN.out.kept hbn)); (try have rG := Lib.hid (rG.out.kept hbn)); (try have rM := Lib.hid (rM.out.kept hbn)); 
              have hbk := Lib.hid (hbk.out.trans (hbn.mono hbk.out.size))
              clear hbn))
        all_goals
          go_wp2_with fail
          go_ret
          exact ⟨rfl, HBV.out _ hbk.out⟩
    · rw [decide_eq_false h0, Bool.false_and] at ch
      have d0 : decide (n ≥ 0) = false := decide_eq_false h0
      have CH := Lib.hid ch
      clear ch crh hle
      unfold termV at E1 CF CG CN CM CL CRL CH ⊢
      go_enter Tryd.func3, Tryd.ntmps3
      go_wp2_with fail
      refine (E1.out _ (HW1.out _)).mono ?_
      rintro e w1 ⟨rfl, hb1⟩
      have hz1 := hb1.size
      simp at hz1
      have HB1 := Lib.hid ((HW1.out _).trans (hb1.mono (by simp)))
      have Xx1 := Lib.hid (show TBox w1 (w.heap.size) t.k t.n (.slice A t.l.length cap) from TBox.of ((Bk.new w 24 #[.int .i64 t.k, .int .i64 t.n, .slice A t.l.length cap]).below hb1 (by simp)))
      obtain ⟨x0, x1, x2, xl⟩ := Xx1.out
      clear hb1
      go_upto_region 4 with fail
      have HK6 := Lib.hid (fun (V : World) (hV : Below w1.heap.size w1 V) => (show V.cell? ⟨w.heap.size, 0, none⟩ = some (.int .i64 t.k) ∧ V.cell? ⟨w.heap.size, 1, none⟩ = some (.int .i64 t.n) ∧ V.cell? ⟨w.heap.size, 2, none⟩ = some (.slice A t.l.length cap) from ⟨(Xx1.out.kept hV xl).c0, (Xx1.out.kept hV xl).c1, (Xx1.out.kept hV xl).c2⟩))
      have HBV := Lib.hid (fun (V : World) (hV : Below w1.heap.size w1 V) => HB1.out.trans (hV.mono HB1.out.size))
      have hbk := Lib.hid ((Below.refl w1.heap.size w1).drew)
      go_region_held3 (fun w' => w'.cell? ⟨w.heap.size, 0, none⟩ = some (.int .i64 t.k) ∧ w'.cell? ⟨w.heap.size, 1, none⟩ = some (.int .i64 t.n) ∧ w'.cell? ⟨w.heap.size, 2, none⟩ = some (.slice A t.l.length cap))
        (exact HK6.out _ hbk.out)
        (first
         | (go_at_call 12
            refine (CF.out _ (HBV.out _ hbk.out)).mono ?_
            rintro e wn ⟨an, cn, rfl, hrn, hbn⟩
            (try have rF := Lib.hid (rF.out.kept hbn)); (try have rN := Lib.hid (rN.out.kept hbn)); (try have rG := Lib.hid (rG.out.kept hbn)); (try have rM := Lib.hid (rM.out.kept hbn)); have rF := Lib.hid hrn
            have hbk := Lib.hid (hbk.out.trans (hbn.mono hbk.out.size))
            clear hrn hbn)
         | (go_at_call_of 19 (Value.int IntKind.i64 8)
            refine (CN.out _ (HBV.out _ hbk.out)).mono ?_
            rintro e wn ⟨an, cn, rfl, hrn, hbn⟩
            (try have rF := Lib.hid (rF.out.kept hbn)); (try have rN := Lib.hid (rN.out.kept hbn)); (try have rG := Lib.hid (rG.out.kept hbn)); (try have rM := Lib.hid (rM.out.kept hbn)); have rN := Lib.hid hrn
            have hbk := Lib.hid (hbk.out.trans (hbn.mono hbk.out.size))
            clear hrn hbn)
         | (go_at_call 13
            refine (CG.out _ (HBV.out _ hbk.out)).mono ?_
            rintro e wn ⟨an, cn, rfl, hrn, hbn⟩
            (try have rF := Lib.hid (rF.out.kept hbn)); (try have rN := Lib.hid (rN.out.kept hbn)); (try have rG := Lib.hid (rG.out.kept hbn)); (try have rM := Lib.hid (rM.out.kept hbn)); have rG := Lib.hid hrn
            have hbk := Lib.hid (hbk.out.trans (hbn.mono hbk.out.size))
            clear hrn hbn)
         | (go_at_call_of 19 (Value.int IntKind.i64 6)
            refine (CM.out _ (HBV.out _ hbk.out)).mono ?_
            rintro e wn ⟨an, cn, rfl, hrn, hbn⟩
            (try have rF := Lib.hid (rF.out.kept hbn)); (try have rN := Lib.hid (rN.out.kept hbn)); (try have rG := Lib.hid (rG.out.kept hbn)); (try have rM := Lib.hid (rM.out.kept hbn)); have rM := Lib.hid hrn
            have hbk := Lib.hid (hbk.out.trans (hbn.mono hbk.out.size))
            clear hrn hbn)
         | (go_at_call 18
            refine (CS2.out _ _ _ _ _ rG.out rM.out).mono ?_
            rintro e wn ⟨rfl, hbn⟩
            (try have rF := Lib.hid (rF.out.kept hbn)); (try have rN := Lib.hid (rN.out.kept hbn)); (try have rG := Lib.hid (rG.out.kept hbn)); (try have rM := Lib.hid (rM.out.kept hbn)); 
            have hbk := Lib.hid (hbk.out.trans (hbn.mono hbk.out.size))
            clear hbn)
         | (go_at_call 18
            refine (CS1.out _ _ _ _ _ rF.out rN.out).mono ?_
            rintro e wn ⟨rfl, hbn⟩
            (try have rF := Lib.hid (rF.out.kept hbn)); (try have rN := Lib.hid (rN.out.kept hbn)); (try have rG := Lib.hid (rG.out.kept hbn)); (try have rM := Lib.hid (rM.out.kept hbn)); 
            have hbk := Lib.hid (hbk.out.trans (hbn.mono hbk.out.size))
            clear hbn)
         | (go_at_call 14
            refine (CH.out _ (HBV.out _ hbk.out)).mono ?_
            rintro e wn ⟨rfl, hbn⟩
            (try have rF := Lib.hid (rF.out.kept hbn)); (try have rN := Lib.hid (rN.out.kept hbn)); (try have rG := Lib.hid (rG.out.kept hbn)); (try have rM := Lib.hid (rM.out.kept hbn)); 
            have hbk := Lib.hid (hbk.out.trans (hbn.mono hbk.out.size))
            clear hbn)
         | (go_at_call 15
            refine (CL.out _ (HBV.out _ hbk.out)).mono ?_
            rintro e wn ⟨rfl, hbn⟩
            (try have rF := Lib.hid (rF.out.kept hbn)); (try have rN := Lib.hid (rN.out.kept hbn)); (try have rG := Lib.hid (rG.out.kept hbn)); (try have rM := Lib.hid (rM.out.kept hbn)); 
            have hbk := Lib.hid (hbk.out.trans (hbn.mono hbk.out.size))
            clear hbn)
         | (go_at_call 20
            refine (CRL.out _ (HBV.out _ hbk.out)).mono ?_
            rintro e wn ⟨rfl, hbn⟩
            (try have rF := Lib.hid (rF.out.kept hbn)); (try have rN := Lib.hid (rN.out.kept hbn)); (try have rG := Lib.hid (rG.out.kept hbn)); (try have rM := Lib.hid (rM.out.kept hbn)); 
            have hbk := Lib.hid (hbk.out.trans (hbn.mono hbk.out.size))
            clear hbn)
         | (go_at_call 16
            refine (AW.out _ (HBV.out _ hbk.out)).mono ?_
            rintro e wn ⟨rfl, hbn⟩
            (try have rF := Lib.hid (rF.out.kept hbn)); (try have rN := Lib.hid (rN.out.kept hbn)); (try have rG := Lib.hid (rG.out.kept hbn)); (try have rM := Lib.hid (rM.out.kept hbn)); 
            have hbk := Lib.hid (hbk.out.trans (hbn.mono hbk.out.size))
            clear hbn))
      all_goals
        go_wp2_with fail
        go_ret
        exact ⟨rfl, HBV.out _ hbk.out⟩

end Go.Proofs.YtodmnollgejgeaaDoor
