/- The walk of the law TermLoose. -/
import Derived.Test.YteemfjkenmaedaaDoorTBox
import Derived.Test.YteemfjkenmaedaaDoorTNums
namespace Go.Proofs.YteemfjkenmaedaaDoor
open Go.RowKit
set_option linter.unusedVariables false
set_option maxRecDepth 100000

theorem loose_le : ∀ (t : TM) (x : Int), tgoodB t = true → 0 ≤ x → looseT t x ≤ 1048577 := by
  intro t
  induction t using TM.ind with
  | h k n l ih =>
    intro x hg hx
    have hn := good_num hg
    rw [tgoodB_node, Bool.and_eq_true] at hg
    rw [looseT_node]
    have hn2 : n ≤ 1048576 := hn.2
    split
    · omega
    · have : ∀ (r : List TM) (i : Nat), (∀ u ∈ r, u ∈ l) → looseL k i r x ≤ 1048577 := by
        intro r
        induction r with
        | nil => intro i _; rw [looseL_nil]; omega
        | cons u r ih2 =>
          intro i hm
          rw [looseL_cons]
          have h1 := ih2 (i + 1) (fun v hv => hm v (List.mem_cons_of_mem _ hv))
          have h2 := bndR_01 k i
          have h3 : tgoodB u = true := by
            have h4 := hg.2
            rw [tgoodL_all, List.all_eq_true] at h4
            exact h4 u (hm u List.mem_cons_self)
          have h4 := ih u (hm u List.mem_cons_self) (x + bndR k i) h3 (by omega)
          omega
      exact this l 0 (fun _ h => h)
theorem col_bounds (f : Int → Bool) : ∀ t : TM, tgoodB t = true → ∀ z ∈ colT f t, 0 ≤ z ∧ z ≤ 1048576 := by
  intro t
  induction t using TM.ind with
  | h k n l ih =>
    intro hg z hz
    have hn := good_num hg
    rw [tgoodB_node, Bool.and_eq_true] at hg
    rw [colT_node, List.mem_append] at hz
    rcases hz with hz | hz
    · split at hz
      · obtain rfl : z = n := by simpa using hz
        exact hn
      · cases hz
    · have : ∀ (r : List TM), (∀ u ∈ r, u ∈ l) → z ∈ colL f r → 0 ≤ z ∧ z ≤ 1048576 := by
        intro r
        induction r with
        | nil => intro _ h; rw [colL_nil] at h; cases h
        | cons u r ih2 =>
          intro hm h
          rw [colL_cons, List.mem_append] at h
          rcases h with h | h
          · have h4 := hg.2
            rw [tgoodL_all, List.all_eq_true] at h4
            exact ih u (hm u List.mem_cons_self) (h4 u (hm u List.mem_cons_self)) z h
          · exact ih2 (fun v hv => hm v (List.mem_cons_of_mem _ hv)) h
      exact this l (fun _ h => h) hz
theorem ent_is : (fun k : Int => ([6, 7] : List Int).contains k) = entK := by
  funext k
  unfold entK
  by_cases h6 : k = 6
  · subst h6; rfl
  · by_cases h7 : k = 7
    · subst h7; rfl
    · have e : ([6, 7] : List Int).contains k = false := by
        cases e : ([6, 7] : List Int).contains k with
        | false => rfl
        | true => have := List.contains_iff_mem.1 e; simp at this; omega
      rw [e, decide_eq_false h6, decide_eq_false h7]; rfl
/-- One more than the greatest entry. -/
def topE (l : List Int) : Int := if h : 0 < l.length then l[l.length - 1] + 1 else 0
theorem right_facts {t : TM} (h : shapedB t = true) : (0 ≤ topE (numsL [6, 7] t) ∧ topE (numsL [6, 7] t) ≤ 1048577 ∧ (0 < (numsL [6, 7] t).length → 1 ≤ topE (numsL [6, 7] t))) ∧ ∀ n m : Int, rightB t n m = (decide (looseT t 0 ≤ n) && decide (topE (numsL [6, 7] t) ≤ m ∨ numsL [6, 7] t = [])) := by
  obtain ⟨f1, f2, f3⟩ := shapedB_true.1 h
  have hb := col_bounds entK t f3
  have hm := fun x => setL_mem (l := colT entK t) (x := x)
  have hr := setL_rising (colT entK t)
  have e : numsL [6, 7] t = setL (colT entK t) := by unfold numsL; rw [h, ent_is]; rfl
  rw [e]
  obtain ⟨s, hs⟩ : ∃ s, setL (colT entK t) = s := ⟨_, rfl⟩
  rw [hs] at hm hr ⊢
  have h0 := looseT_nonneg t 0
  by_cases hl : 0 < s.length
  · have hlast := rising_last hr hl
    have hlb := hb _ ((hm _).1 hlast.1)
    unfold topE
    rw [dif_pos hl]
    refine ⟨⟨by omega, by omega, fun _ => by omega⟩, fun n m => ?_⟩
    unfold rightB
    rw [h]
    have e2 : ((colT entK t).all fun z => decide (z < m)) = decide (s[s.length - 1] + 1 ≤ m ∨ s = []) := by
      by_cases hc : s[s.length - 1] + 1 ≤ m
      · rw [decide_eq_true (Or.inl hc), List.all_eq_true]
        intro z hz
        have := hlast.2 z ((hm z).2 hz)
        exact decide_eq_true (by omega)
      · rw [decide_eq_false (fun e => e.elim hc (fun e => by subst e; simp at hl)), List.all_eq_false]
        exact ⟨_, (hm _).1 hlast.1, by simp; omega⟩
    rw [e2]
    by_cases hn : looseT t 0 ≤ n
    · rw [decide_eq_true hn, decide_eq_true (show 0 ≤ n by omega)]; rfl
    · rw [decide_eq_false hn]; simp
  · have e0 : s = [] := List.eq_nil_of_length_eq_zero (by omega)
    subst e0
    unfold topE
    rw [dif_neg (by simp)]
    refine ⟨⟨by omega, by omega, fun h => by simp at h⟩, fun n m => ?_⟩
    unfold rightB
    rw [h]
    have e2 : ((colT entK t).all fun z => decide (z < m)) = true := by
      rw [List.all_eq_true]
      intro z hz
      have := (hm z).2 hz
      cases this
    rw [e2]
    by_cases hn : looseT t 0 ≤ n
    · rw [decide_eq_true hn, decide_eq_true (show 0 ≤ n by omega)]; simp
    · rw [decide_eq_false hn]; simp
theorem right_not {t : TM} (h : shapedB t = false) (n m : Int) : rightB t n m = false := by unfold rightB; rw [h]; simp

set_option maxHeartbeats 8000000 in
theorem tloose_walk (t : TM) (A : Option Addr) (cap : Nat) (d : Int) (w : World) (hn : IsTerm w 0 w.heap.size t A cap) (hd : (Lit.int .u8 d).wf = true) (hS : ShapesM w) :
    Calls Tryd.prog 7 #[termV t A cap, .int .u8 d] w fun e w' => e = .returned (.bool true) ∧ Below w.heap.size w w' := by
  have hd0 : 0 ≤ d ∧ d ≤ 255 := by simpa [Lit.wf, IntKind.min, IntKind.max, IntKind.signed, IntKind.bits] using hd
  obtain ⟨hd1, hd2⟩ := hd0
  have HT := Lib.hid (fun (V : World) (hV : Below w.heap.size w V) => hn.kept hV (Nat.le_refl _))
  have e1 := fun V (hV : Below w.heap.size w V) => refShaped_any t 0 w.heap.size A cap V (HT.out V hV) hV.size
  have e2 := fun V (hV : Below w.heap.size w V) => tLoose_any t 0 w.heap.size A cap V (HT.out V hV) hV.size (hS.kept hV)
  have e3 := fun V (hV : Below w.heap.size w V) => entries_any t 0 w.heap.size A cap V (HT.out V hV) hV.size (hS.kept hV)
  have rr := fun n m V (hV : Below w.heap.size w V) => tRight_any t n m 0 w.heap.size A cap V (HT.out V hV) hV.size (hS.kept hV)
  have aw := fun V (hV : Below w.heap.size w V) => awakeM_any V (hS.kept hV)
  have HW1 := Lib.hid (fun o1 => ((Below.refl w.heap.size w).alloc (Nat.le_refl _) o1))
  have AW := Lib.hid aw
  clear hd hS hn aw
  cases hx : shapedB t with
  | false =>
    rw [hx] at e1
    have hr := rr 99 99
    rw [right_not hx] at hr
    have E1 := Lib.hid e1
    have R0 := Lib.hid hr
    clear e1 e2 e3 rr hr hx
    unfold termV at E1 R0 ⊢
    go_enter Tryd.func7, Tryd.ntmps7
    go_wp2_with fail
    refine (E1.out _ (HW1.out _)).mono ?_
    rintro e w1 ⟨rfl, hb1⟩
    have hz1 := hb1.size
    simp at hz1
    have HB1 := Lib.hid ((HW1.out _).trans (hb1.mono (by simp)))
    have Xx1 := Lib.hid (show TBox w1 (w.heap.size) t.k t.n (.slice A t.l.length cap) from TBox.of ((Bk.new w 24 #[.int .i64 t.k, .int .i64 t.n, .slice A t.l.length cap]).below hb1 (by simp)))
    obtain ⟨x0, x1, x2, xl⟩ := Xx1.out
    clear hb1
    go_wp2_with fail
    refine (R0.out _ HB1.out).mono ?_
    rintro e w2 ⟨rfl, hb2⟩
    have hz2 := hb2.size
    have HB2 := Lib.hid (HB1.out.trans (hb2.mono HB1.out.size))
    have Xx2 := Lib.hid (Xx1.out.kept hb2 xl)
    clear x0 x1 x2 xl
    obtain ⟨x0, x1, x2, xl⟩ := Xx2.out
    clear hb2
    go_wp2_with fail
    refine (AW.out _ HB2.out).mono ?_
    rintro e w3 ⟨rfl, hb3⟩
    have hz3 := hb3.size
    have HB3 := Lib.hid (HB2.out.trans (hb3.mono HB2.out.size))
    have Xx3 := Lib.hid (Xx2.out.kept hb3 xl)
    clear x0 x1 x2 xl
    obtain ⟨x0, x1, x2, xl⟩ := Xx3.out
    clear hb3
    go_wp2_with fail
    go_ret
    exact ⟨rfl, HB3.out⟩
  | true =>
    rw [hx] at e1
    obtain ⟨⟨hm0, hm1, hm2⟩, hrf⟩ := right_facts hx
    have hLl : (numsL [6, 7] t).length ≤ 8192 := by
      have h1 := setL_length_le (colT (fun k => ([6, 7] : List Int).contains k) t)
      have h2 := colL_len (fun k => ([6, 7] : List Int).contains k) t
      have h3 := (shapedB_true.1 hx).1
      have e : numsL [6, 7] t = setL (colT (fun k => ([6, 7] : List Int).contains k) t) := by unfold numsL; rw [hx]; rfl
      rw [e]; omega
    have hn1 := loose_le t 0 (shapedB_true.1 hx).2.2 (by omega)
    have hn0 := looseT_nonneg t 0
    have hln : looseN t = looseT t 0 := by unfold looseN; rw [hx]; rfl
    rw [hln] at e2
    obtain ⟨n, hnn⟩ : ∃ n, looseT t 0 = n := ⟨_, rfl⟩
    obtain ⟨L, hL⟩ : ∃ L, numsL [6, 7] t = L := ⟨_, rfl⟩
    obtain ⟨m, hm⟩ : ∃ m, topE L = m := ⟨_, rfl⟩
    rw [hnn] at e2 hn0 hn1 hrf
    rw [hL] at e3 hrf hm0 hm1 hm2 hLl
    have HLL := Lib.hid hLl
    clear hLl
    rw [hm] at hrf hm0 hm1 hm2
    have r1 := rr n m
    have r2 := rr (n + d) (m + d)
    have r3 := rr (n - 1) m
    rw [hrf, decide_eq_true (Int.le_refl n), decide_eq_true (Or.inl (Int.le_refl m))] at r1
    rw [hrf, decide_eq_true (show n ≤ n + d by omega), decide_eq_true (Or.inl (show m ≤ m + d by omega))] at r2
    rw [hrf, decide_eq_false (show ¬ n ≤ n - 1 by omega), Bool.false_and] at r3
    have r4 : 0 < L.length → ∀ V, Below w.heap.size w V → Calls Tryd.prog 39 #[termV t A cap, .int .i64 n, .int .i64 (m - 1)] V fun e w' => e = .returned (.bool false) ∧ Below V.heap.size V w' := by
      intro hl V hV
      have h := rr n (m - 1) V hV
      rw [hrf, decide_eq_false (show ¬ (m ≤ m - 1 ∨ L = []) from fun e => e.elim (fun e => by omega) (fun e => by subst e; simp at hl)), Bool.and_false] at h
      exact h
    have E1 := Lib.hid e1
    have E2 := Lib.hid e2
    have E3 := Lib.hid e3
    have R1 := Lib.hid r1
    have R2 := Lib.hid r2
    have R3 := Lib.hid r3
    have R4 := Lib.hid r4
    have HM := Lib.hid hm
    clear e1 e2 e3 rr r1 r2 r3 r4 hx hrf hln hnn hL hm
    unfold termV at E1 E2 E3 R1 R2 R3 R4 ⊢
    simp only [Bool.and_self] at R1 R2
    by_cases hl : 0 < L.length
    · have hm' : m = L[L.length - 1] + 1 := by rw [← HM.out]; unfold topE; rw [dif_pos hl]
      obtain ⟨z, hz⟩ : ∃ z, L[L.length - 1] = z := ⟨_, rfl⟩
      rw [hz] at hm'
      have HZ := Lib.hid hz
      have hL9 : (L.length : Int) ≥ 1 := by omega
      have R5 := Lib.hid (R4.out hl)
      have hmp := hm2 hl
      have em : (m == 0) = false := by rw [beq_eq_false_iff_ne]; intro e; omega
      clear hz
      by_cases hnz : n = 0
      · have en : (n == 0) = true := by rw [beq_iff_eq]; exact hnz
        clear hnz
        have HMM := Lib.hid hm'
        subst hm'
        rw [show z + 1 - 1 = z by omega] at R5
        have hz0 : 0 ≤ z := by omega
        have hz1 : z ≤ 1048576 := by omega
        have HL := Lib.hid hl
        go_enter Tryd.func7, Tryd.ntmps7
        go_wp2_with fail
        refine (E1.out _ (HW1.out _)).mono ?_
        rintro e w1 ⟨rfl, hb1⟩
        have hz1 := hb1.size
        simp at hz1
        have HB1 := Lib.hid ((HW1.out _).trans (hb1.mono (by simp)))
        have Xx1 := Lib.hid (show TBox w1 (w.heap.size) t.k t.n (.slice A t.l.length cap) from TBox.of ((Bk.new w 24 #[.int .i64 t.k, .int .i64 t.n, .slice A t.l.length cap]).below hb1 (by simp)))
        obtain ⟨x0, x1, x2, xl⟩ := Xx1.out
        clear hb1
        go_wp2_with fail
        refine (E2.out _ HB1.out).mono ?_
        rintro e w2 ⟨rfl, hb2⟩
        have hz2 := hb2.size
        have HB2 := Lib.hid (HB1.out.trans (hb2.mono HB1.out.size))
        have Xx2 := Lib.hid (Xx1.out.kept hb2 xl)
        clear x0 x1 x2 xl
        obtain ⟨x0, x1, x2, xl⟩ := Xx2.out
        clear hb2
        go_wp2_with fail
        refine (E3.out _ HB2.out).mono ?_
        rintro e w3 hq
        obtain ⟨v, rfl, ho, hb3⟩ := hq
        obtain ⟨g, c, hv, hg1, hg2⟩ := ho.form HL.out
        subst hv
        have hcz : w3.cell? ⟨g, L.length - 1, none⟩ = some (.int .i64 z) := by
          have hl2 := HL.out
          have h := ho.cellAt (L.length - 1) (by omega)
          have e : L[L.length - 1]? = some z := by rw [List.getElem?_eq_getElem (by omega), HZ.out]
          rw [h, List.getElem?_map, e]; rfl
        have hcap : L.length ≤ c := by
          rcases ho.2 with ⟨h0, _⟩ | ⟨_, _, _, h1, _, _, h2, _⟩
          · cases h0
          · cases h1; exact h2
        have hl9 := HLL.out
        have HB3 := Lib.hid (HB2.out.trans (hb3.mono HB2.out.size))
        have Xx3 := Lib.hid (Xx2.out.kept hb3 xl)
        clear x0 x1 x2 xl
        obtain ⟨x0, x1, x2, xl⟩ := Xx3.out
        obtain ⟨M, hM⟩ : ∃ M : Nat, L.length = M + 1 := ⟨L.length - 1, by omega⟩
        have hcz' : w3.cell? ⟨g, M, none⟩ = some (.int .i64 z) := by rw [← hcz, hM]; rfl
        rw [hM] at hl9 hl hL9 hcap
        have hMw : ((M + 1 : Nat) : Int) - 1 = (M : Int) := by omega
        have hM9 : (M : Int) < 8192 := by omega
        have hMM := Lib.hid hM
        rw [hM]
        clear hcz ho hb3 hM hl hL9
        go_wp2_with fail
        refine (R1.out _ HB3.out).mono ?_
        rintro e w4 ⟨rfl, hb4⟩
        have hz4 := hb4.size
        have HB4 := Lib.hid (HB3.out.trans (hb4.mono HB3.out.size))
        have Xx4 := Lib.hid (Xx3.out.kept hb4 xl)
        clear x0 x1 x2 xl
        obtain ⟨x0, x1, x2, xl⟩ := Xx4.out
        clear hb4
        go_wp2_with fail
        refine (R2.out _ HB4.out).mono ?_
        rintro e w5 ⟨rfl, hb5⟩
        have hz5 := hb5.size
        have HB5 := Lib.hid (HB4.out.trans (hb5.mono HB4.out.size))
        have Xx5 := Lib.hid (Xx4.out.kept hb5 xl)
        clear x0 x1 x2 xl
        obtain ⟨x0, x1, x2, xl⟩ := Xx5.out
        clear hb5
        go_wp2_with fail
        refine (R5.out _ HB5.out).mono ?_
        rintro e w6 ⟨rfl, hb6⟩
        have hz6 := hb6.size
        have HB6 := Lib.hid (HB5.out.trans (hb6.mono HB5.out.size))
        have Xx6 := Lib.hid (Xx5.out.kept hb6 xl)
        clear x0 x1 x2 xl
        obtain ⟨x0, x1, x2, xl⟩ := Xx6.out
        clear hb6
        go_wp2_with fail
        refine (AW.out _ HB6.out).mono ?_
        rintro e w7 ⟨rfl, hb7⟩
        have hz7 := hb7.size
        have HB7 := Lib.hid (HB6.out.trans (hb7.mono HB6.out.size))
        have Xx7 := Lib.hid (Xx6.out.kept hb7 xl)
        clear x0 x1 x2 xl
        obtain ⟨x0, x1, x2, xl⟩ := Xx7.out
        clear hb7
        go_wp2_with fail
        go_ret
        exact ⟨rfl, HB7.out⟩
      · have en : (n == 0) = false := by rw [beq_eq_false_iff_ne]; exact hnz
        have hn2 : 1 ≤ n := by omega
        clear hnz
        have HMM := Lib.hid hm'
        subst hm'
        rw [show z + 1 - 1 = z by omega] at R5
        have hz0 : 0 ≤ z := by omega
        have hz1 : z ≤ 1048576 := by omega
        have HL := Lib.hid hl
        go_enter Tryd.func7, Tryd.ntmps7
        go_wp2_with fail
        refine (E1.out _ (HW1.out _)).mono ?_
        rintro e w1 ⟨rfl, hb1⟩
        have hz1 := hb1.size
        simp at hz1
        have HB1 := Lib.hid ((HW1.out _).trans (hb1.mono (by simp)))
        have Xx1 := Lib.hid (show TBox w1 (w.heap.size) t.k t.n (.slice A t.l.length cap) from TBox.of ((Bk.new w 24 #[.int .i64 t.k, .int .i64 t.n, .slice A t.l.length cap]).below hb1 (by simp)))
        obtain ⟨x0, x1, x2, xl⟩ := Xx1.out
        clear hb1
        go_wp2_with fail
        refine (E2.out _ HB1.out).mono ?_
        rintro e w2 ⟨rfl, hb2⟩
        have hz2 := hb2.size
        have HB2 := Lib.hid (HB1.out.trans (hb2.mono HB1.out.size))
        have Xx2 := Lib.hid (Xx1.out.kept hb2 xl)
        clear x0 x1 x2 xl
        obtain ⟨x0, x1, x2, xl⟩ := Xx2.out
        clear hb2
        go_wp2_with fail
        refine (E3.out _ HB2.out).mono ?_
        rintro e w3 hq
        obtain ⟨v, rfl, ho, hb3⟩ := hq
        obtain ⟨g, c, hv, hg1, hg2⟩ := ho.form HL.out
        subst hv
        have hcz : w3.cell? ⟨g, L.length - 1, none⟩ = some (.int .i64 z) := by
          have hl2 := HL.out
          have h := ho.cellAt (L.length - 1) (by omega)
          have e : L[L.length - 1]? = some z := by rw [List.getElem?_eq_getElem (by omega), HZ.out]
          rw [h, List.getElem?_map, e]; rfl
        have hcap : L.length ≤ c := by
          rcases ho.2 with ⟨h0, _⟩ | ⟨_, _, _, h1, _, _, h2, _⟩
          · cases h0
          · cases h1; exact h2
        have hl9 := HLL.out
        have HB3 := Lib.hid (HB2.out.trans (hb3.mono HB2.out.size))
        have Xx3 := Lib.hid (Xx2.out.kept hb3 xl)
        clear x0 x1 x2 xl
        obtain ⟨x0, x1, x2, xl⟩ := Xx3.out
        obtain ⟨M, hM⟩ : ∃ M : Nat, L.length = M + 1 := ⟨L.length - 1, by omega⟩
        have hcz' : w3.cell? ⟨g, M, none⟩ = some (.int .i64 z) := by rw [← hcz, hM]; rfl
        rw [hM] at hl9 hl hL9 hcap
        have hMw : ((M + 1 : Nat) : Int) - 1 = (M : Int) := by omega
        have hM9 : (M : Int) < 8192 := by omega
        have hMM := Lib.hid hM
        rw [hM]
        clear hcz ho hb3 hM hl hL9
        go_wp2_with fail
        refine (R1.out _ HB3.out).mono ?_
        rintro e w4 ⟨rfl, hb4⟩
        have hz4 := hb4.size
        have HB4 := Lib.hid (HB3.out.trans (hb4.mono HB3.out.size))
        have Xx4 := Lib.hid (Xx3.out.kept hb4 xl)
        clear x0 x1 x2 xl
        obtain ⟨x0, x1, x2, xl⟩ := Xx4.out
        clear hb4
        go_wp2_with fail
        refine (R2.out _ HB4.out).mono ?_
        rintro e w5 ⟨rfl, hb5⟩
        have hz5 := hb5.size
        have HB5 := Lib.hid (HB4.out.trans (hb5.mono HB4.out.size))
        have Xx5 := Lib.hid (Xx4.out.kept hb5 xl)
        clear x0 x1 x2 xl
        obtain ⟨x0, x1, x2, xl⟩ := Xx5.out
        clear hb5
        go_wp2_with fail
        refine (R3.out _ HB5.out).mono ?_
        rintro e w6 ⟨rfl, hb6⟩
        have hz6 := hb6.size
        have HB6 := Lib.hid (HB5.out.trans (hb6.mono HB5.out.size))
        have Xx6 := Lib.hid (Xx5.out.kept hb6 xl)
        clear x0 x1 x2 xl
        obtain ⟨x0, x1, x2, xl⟩ := Xx6.out
        clear hb6
        go_wp2_with fail
        refine (R5.out _ HB6.out).mono ?_
        rintro e w7 ⟨rfl, hb7⟩
        have hz7 := hb7.size
        have HB7 := Lib.hid (HB6.out.trans (hb7.mono HB6.out.size))
        have Xx7 := Lib.hid (Xx6.out.kept hb7 xl)
        clear x0 x1 x2 xl
        obtain ⟨x0, x1, x2, xl⟩ := Xx7.out
        clear hb7
        go_wp2_with fail
        refine (AW.out _ HB7.out).mono ?_
        rintro e w8 ⟨rfl, hb8⟩
        have hz8 := hb8.size
        have HB8 := Lib.hid (HB7.out.trans (hb8.mono HB7.out.size))
        have Xx8 := Lib.hid (Xx7.out.kept hb8 xl)
        clear x0 x1 x2 xl
        obtain ⟨x0, x1, x2, xl⟩ := Xx8.out
        clear hb8
        go_wp2_with fail
        go_ret
        exact ⟨rfl, HB8.out⟩
    · by_cases hnz : n = 0
      · have en : (n == 0) = true := by rw [beq_iff_eq]; exact hnz
        clear hnz
        have hL0 : L = [] := List.eq_nil_of_length_eq_zero (by omega)
        have hmz : m = 0 := by rw [← HM.out, hL0]; rfl
        subst hL0
        subst hmz
        rw [Int.zero_add] at R2
        clear R4 hl hm2
        go_enter Tryd.func7, Tryd.ntmps7
        go_wp2_with fail
        refine (E1.out _ (HW1.out _)).mono ?_
        rintro e w1 ⟨rfl, hb1⟩
        have hz1 := hb1.size
        simp at hz1
        have HB1 := Lib.hid ((HW1.out _).trans (hb1.mono (by simp)))
        have Xx1 := Lib.hid (show TBox w1 (w.heap.size) t.k t.n (.slice A t.l.length cap) from TBox.of ((Bk.new w 24 #[.int .i64 t.k, .int .i64 t.n, .slice A t.l.length cap]).below hb1 (by simp)))
        obtain ⟨x0, x1, x2, xl⟩ := Xx1.out
        clear hb1
        go_wp2_with fail
        refine (E2.out _ HB1.out).mono ?_
        rintro e w2 ⟨rfl, hb2⟩
        have hz2 := hb2.size
        have HB2 := Lib.hid (HB1.out.trans (hb2.mono HB1.out.size))
        have Xx2 := Lib.hid (Xx1.out.kept hb2 xl)
        clear x0 x1 x2 xl
        obtain ⟨x0, x1, x2, xl⟩ := Xx2.out
        clear hb2
        go_wp2_with fail
        refine (E3.out _ HB2.out).mono ?_
        rintro e w3 hq
        obtain ⟨v, rfl, ho, hb3⟩ := hq
        obtain ⟨a, c, rfl⟩ := own_sliceM ho
        have HB3 := Lib.hid (HB2.out.trans (hb3.mono HB2.out.size))
        have Xx3 := Lib.hid (Xx2.out.kept hb3 xl)
        clear x0 x1 x2 xl
        obtain ⟨x0, x1, x2, xl⟩ := Xx3.out
        clear ho hb3
        simp only [List.length_nil]
        go_wp2_with fail
        refine (R1.out _ HB3.out).mono ?_
        rintro e w4 ⟨rfl, hb4⟩
        have hz4 := hb4.size
        have HB4 := Lib.hid (HB3.out.trans (hb4.mono HB3.out.size))
        have Xx4 := Lib.hid (Xx3.out.kept hb4 xl)
        clear x0 x1 x2 xl
        obtain ⟨x0, x1, x2, xl⟩ := Xx4.out
        clear hb4
        go_wp2_with fail
        refine (R2.out _ HB4.out).mono ?_
        rintro e w5 ⟨rfl, hb5⟩
        have hz5 := hb5.size
        have HB5 := Lib.hid (HB4.out.trans (hb5.mono HB4.out.size))
        have Xx5 := Lib.hid (Xx4.out.kept hb5 xl)
        clear x0 x1 x2 xl
        obtain ⟨x0, x1, x2, xl⟩ := Xx5.out
        clear hb5
        go_wp2_with fail
        refine (AW.out _ HB5.out).mono ?_
        rintro e w6 ⟨rfl, hb6⟩
        have hz6 := hb6.size
        have HB6 := Lib.hid (HB5.out.trans (hb6.mono HB5.out.size))
        have Xx6 := Lib.hid (Xx5.out.kept hb6 xl)
        clear x0 x1 x2 xl
        obtain ⟨x0, x1, x2, xl⟩ := Xx6.out
        clear hb6
        go_wp2_with fail
        go_ret
        exact ⟨rfl, HB6.out⟩
      · have en : (n == 0) = false := by rw [beq_eq_false_iff_ne]; exact hnz
        have hn2 : 1 ≤ n := by omega
        clear hnz
        have hL0 : L = [] := List.eq_nil_of_length_eq_zero (by omega)
        have hmz : m = 0 := by rw [← HM.out, hL0]; rfl
        subst hL0
        subst hmz
        rw [Int.zero_add] at R2
        clear R4 hl hm2
        go_enter Tryd.func7, Tryd.ntmps7
        go_wp2_with fail
        refine (E1.out _ (HW1.out _)).mono ?_
        rintro e w1 ⟨rfl, hb1⟩
        have hz1 := hb1.size
        simp at hz1
        have HB1 := Lib.hid ((HW1.out _).trans (hb1.mono (by simp)))
        have Xx1 := Lib.hid (show TBox w1 (w.heap.size) t.k t.n (.slice A t.l.length cap) from TBox.of ((Bk.new w 24 #[.int .i64 t.k, .int .i64 t.n, .slice A t.l.length cap]).below hb1 (by simp)))
        obtain ⟨x0, x1, x2, xl⟩ := Xx1.out
        clear hb1
        go_wp2_with fail
        refine (E2.out _ HB1.out).mono ?_
        rintro e w2 ⟨rfl, hb2⟩
        have hz2 := hb2.size
        have HB2 := Lib.hid (HB1.out.trans (hb2.mono HB1.out.size))
        have Xx2 := Lib.hid (Xx1.out.kept hb2 xl)
        clear x0 x1 x2 xl
        obtain ⟨x0, x1, x2, xl⟩ := Xx2.out
        clear hb2
        go_wp2_with fail
        refine (E3.out _ HB2.out).mono ?_
        rintro e w3 hq
        obtain ⟨v, rfl, ho, hb3⟩ := hq
        obtain ⟨a, c, rfl⟩ := own_sliceM ho
        have HB3 := Lib.hid (HB2.out.trans (hb3.mono HB2.out.size))
        have Xx3 := Lib.hid (Xx2.out.kept hb3 xl)
        clear x0 x1 x2 xl
        obtain ⟨x0, x1, x2, xl⟩ := Xx3.out
        clear ho hb3
        simp only [List.length_nil]
        go_wp2_with fail
        refine (R1.out _ HB3.out).mono ?_
        rintro e w4 ⟨rfl, hb4⟩
        have hz4 := hb4.size
        have HB4 := Lib.hid (HB3.out.trans (hb4.mono HB3.out.size))
        have Xx4 := Lib.hid (Xx3.out.kept hb4 xl)
        clear x0 x1 x2 xl
        obtain ⟨x0, x1, x2, xl⟩ := Xx4.out
        clear hb4
        go_wp2_with fail
        refine (R2.out _ HB4.out).mono ?_
        rintro e w5 ⟨rfl, hb5⟩
        have hz5 := hb5.size
        have HB5 := Lib.hid (HB4.out.trans (hb5.mono HB4.out.size))
        have Xx5 := Lib.hid (Xx4.out.kept hb5 xl)
        clear x0 x1 x2 xl
        obtain ⟨x0, x1, x2, xl⟩ := Xx5.out
        clear hb5
        go_wp2_with fail
        refine (R3.out _ HB5.out).mono ?_
        rintro e w6 ⟨rfl, hb6⟩
        have hz6 := hb6.size
        have HB6 := Lib.hid (HB5.out.trans (hb6.mono HB5.out.size))
        have Xx6 := Lib.hid (Xx5.out.kept hb6 xl)
        clear x0 x1 x2 xl
        obtain ⟨x0, x1, x2, xl⟩ := Xx6.out
        clear hb6
        go_wp2_with fail
        refine (AW.out _ HB6.out).mono ?_
        rintro e w7 ⟨rfl, hb7⟩
        have hz7 := hb7.size
        have HB7 := Lib.hid (HB6.out.trans (hb7.mono HB6.out.size))
        have Xx7 := Lib.hid (Xx6.out.kept hb7 xl)
        clear x0 x1 x2 xl
        obtain ⟨x0, x1, x2, xl⟩ := Xx7.out
        clear hb7
        go_wp2_with fail
        go_ret
        exact ⟨rfl, HB7.out⟩

end Go.Proofs.YteemfjkenmaedaaDoor
