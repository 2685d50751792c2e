/- term.formed: is a term what its kind asks, whatever its Subs are? With the library's ContainsFunc, IndexFunc over its one closure. -/
import Derived.Test.YtodmnollgejgeaaDoorTGood
import Derived.Test.YtodmnollgejgeaaDoorTIdx
namespace Go.Proofs.YtodmnollgejgeaaDoor
open Go.RowKit
set_option linter.unusedVariables false
set_option maxRecDepth 100000

theorem kindtest_any (u : TM) (F : Option Addr) (C : Nat) (g : Nat) (z : Int) (w : World) (hg : w.cell? ⟨g, 2, none⟩ = some (.int .i64 z)) :
    Calls Tryd.prog 82 #[termV u F C, .pointer (some ⟨g, 0, none⟩)] w fun e w' => e = .returned (.bool (u.k != z)) ∧ Below w.heap.size w w' := by
  have hlt := World.block_lt_of_cell? w _ hg
  simp only at hlt
  unfold termV
  go_enter Tryd.func82, Tryd.ntmps82
  go_wp2_with fail
  go_ret
  exact ⟨rfl, (Below.refl _ _).alloc (Nat.le_refl _) _⟩

theorem indexk_any (l : List TM) (A : Option Addr) (cap lo hi g : Nat) (z : Int) (w : World) (hl : l.length ≤ maxLen) (hn : TermsAt w lo hi A l) (hhi : hi ≤ w.heap.size) (hg : w.cell? ⟨g, 2, none⟩ = some (.int .i64 z)) :
    Calls Tryd.prog 94 #[.slice A l.length cap, .func (.func 82) #[] #[.pointer (some ⟨g, 0, none⟩)]] w fun e w' => ∃ r : Int, e = .returned (.int .i64 r) ∧ decide (0 ≤ r) = !(l.all fun t => t.k == z) ∧ Below w.heap.size w w' := by
  refine (tindex_any l A cap lo hi ⟨g, 0, none⟩ (fun i => tatB (fun t => t.k != z) l i) w hl hn hhi ?_).mono ?_
  · intro i h lo hi F C w' hb hn' hhi'
    have hg' : w'.cell? ⟨g, 2, none⟩ = some (.int .i64 z) := (hb.cell (p := ⟨g, 2, none⟩) (World.block_lt_of_cell? w _ hg)).trans hg
    show Calls _ _ _ _ fun e w'' => e = .returned (.bool (tatB (fun t => t.k != z) l i)) ∧ _
    rw [tatB_of _ h]
    exact kindtest_any _ F C g z w' hg'
  · rintro e w' ⟨r, rfl, hr, hb⟩
    refine ⟨r, rfl, ?_, hb⟩
    rcases hr with ⟨rfl, h⟩ | ⟨h0, i, hi, h⟩
    · have : (l.all fun t => t.k == z) = true := by
        rw [List.all_eq_true]
        intro t ht
        obtain ⟨i, hi, rfl⟩ := List.getElem_of_mem ht
        have : tatB (fun t => t.k != z) l i = false := h i hi
        rw [tatB_of _ hi] at this
        simpa using this
      rw [this]; rfl
    · replace h : tatB (fun t => t.k != z) l i = true := h
      have : (l.all fun t => t.k == z) = false := by
        rw [List.all_eq_false]
        rw [tatB_of _ hi] at h
        exact ⟨_, List.getElem_mem hi, by simpa using h⟩
      rw [this]; simpa using h0

theorem containsk_any (l : List TM) (A : Option Addr) (cap lo hi g : Nat) (z : Int) (w : World) (hl : l.length ≤ maxLen) (hn : TermsAt w lo hi A l) (hhi : hi ≤ w.heap.size) (hg : w.cell? ⟨g, 2, none⟩ = some (.int .i64 z)) :
    Calls Tryd.prog 81 #[.slice A l.length cap, .func (.func 82) #[] #[.pointer (some ⟨g, 0, none⟩)]] w fun e w' => e = .returned (.bool (!(l.all fun t => t.k == z))) ∧ Below w.heap.size w w' := by
  have HI := Lib.hid (indexk_any l A cap lo hi g z w hl hn hhi hg)
  clear hn
  go_enter Tryd.func81, Tryd.ntmps81
  go_wp2_with fail
  refine HI.out.mono ?_
  rintro e w1 ⟨r, rfl, hr, hb⟩
  go_wp2_with fail
  go_ret
  exact ⟨by rw [← hr]; rfl, hb⟩

set_option maxHeartbeats 1000000 in
theorem formed_any (k n : Int) (l : List TM) (lo hi : Nat) (A : Option Addr) (cap : Nat) (w : World) (h : IsTerm w lo hi (.node k n l) A cap) (hhi : hi ≤ w.heap.size) (hS : ShapesM w) :
    Calls Tryd.prog 74 #[.agg #[.int .i64 k, .int .i64 n, .slice A l.length cap]] w fun e w' => e = .returned (.bool (ttopB k n l)) ∧ Below w.heap.size w w' := by
  obtain ⟨hl, hm⟩ := h.bounds
  have hW1 : ∀ o1, Below w.heap.size w (w.alloc o1) := fun o1 => (Below.refl _ _).alloc (Nat.le_refl _) _
  have HW1 := Lib.hid hW1
  obtain ⟨r, hr⟩ : ∃ r, ttopB k n l = r := ⟨_, rfl⟩
  rw [hr]
  by_cases hk1 : k < 1
  · have HR : Hid (r = false) := Lib.hid (by rw [← hr]; unfold ttopB; rw [decide_eq_false (by omega : ¬ 1 ≤ k)]; rfl)
    clear hr h hW1
    go_enter Tryd.func74, Tryd.ntmps74
    go_wp2_with fail
    go_ret
    exact ⟨by rw [HR.out]; rfl, HW1.out _⟩
  by_cases hk2 : 8 < k
  · have HR : Hid (r = false) := Lib.hid (by rw [← hr]; unfold ttopB; rw [decide_eq_false (by omega : ¬ k ≤ 8)]; simp)
    clear hr h hW1
    go_enter Tryd.func74, Tryd.ntmps74
    go_wp2_with fail
    go_ret
    exact ⟨by rw [HR.out]; rfl, HW1.out _⟩
  have EK : Hid (1 ≤ k ∧ k ≤ 8) := Lib.hid ⟨by omega, by omega⟩
  obtain ⟨K, rfl⟩ : ∃ K : Nat, k = (K : Int) := ⟨k.toNat, by omega⟩
  have hK1 : 1 ≤ K := by omega
  have hK2 : K ≤ 8 := by omega
  have hlt := hS.lt
  have s0 := hS K 0 (by omega) (by omega)
  have s1 := hS K 1 (by omega) (by omega)
  have s2 := hS K 2 (by omega) (by omega)
  have s3 := hS K 3 (by omega) (by omega)
  have s4 := hS K 4 (by omega) (by omega)
  rw [shm_most hK1 hK2] at s0
  rw [shm_many hK1 hK2] at s1
  obtain ⟨z2, hz2⟩ : ∃ z, shm K 2 = z := ⟨_, rfl⟩
  rw [hz2] at s2
  rw [shm_only hK1 hK2] at hz2
  have HZ2 := Lib.hid hz2
  clear hz2
  obtain ⟨z3, hz3⟩ : ∃ z, shm K 3 = z := ⟨_, rfl⟩
  obtain ⟨z4, hz4⟩ : ∃ z, shm K 4 = z := ⟨_, rfl⟩
  obtain ⟨M, hM⟩ : ∃ M, mostM (K : Int) = M := ⟨_, rfl⟩
  obtain ⟨Y, hY⟩ : ∃ Y, manyM (K : Int) = Y := ⟨_, rfl⟩
  rw [hM] at s0
  rw [hY] at s1
  rw [hz3] at s3
  rw [hz4] at s4
  rw [Nat.add_zero] at s0
  have HM := Lib.hid hM
  have HY := Lib.hid hY
  have HH := Lib.hid h
  have HRR := Lib.hid hr
  have hKi : (0 : Int) ≤ (K : Int) := by omega
  have hKi9 : (K : Int) < 9 := by omega
  have d1 : decide ((K : Int) < 1) = false := decide_eq_false (by omega)
  have d2 : decide ((8 : Int) < (K : Int)) = false := decide_eq_false (by omega)
  clear hz3 hz4 hM hY h hr hk1 hk2 hS hW1
  have hfail : ¬ (l.length = Y ∧ 0 ≤ n ∧ n ≤ M) → r = false := fun hn => by
    rw [← HRR.out]
    cases e : ttopB (K : Int) n l with
    | false => rfl
    | true =>
      obtain ⟨_, _, h3, h4, h5, _⟩ := ttop_facts e
      exact (hn ⟨by rw [← HY.out]; exact h3, h4, by rw [← HM.out]; exact h5⟩).elim
  have HF := Lib.hid hfail
  clear hfail
  have HW2 := Lib.hid (fun o1 o2 => ((Below.refl w.heap.size w).alloc (Nat.le_refl _) o1).alloc (by simp) o2)
  have HCON := Lib.hid (fun W h1 h2 h3 => containsk_any l A cap lo hi (w.heap.size + 1) 2 W (by omega) h1 h2 h3)
  have HSUB := Lib.hid (fun W (hb : Below w.heap.size w W) => (show TermsAt W lo hi A l from fun i hi' => (HH.out.sub i hi').kept hb hhi))
  by_cases hn0 : n < 0
  · have HR : Hid (r = false) := Lib.hid (HF.out (by omega))
    have e0 : decide (n < 0) = true := decide_eq_true hn0
    clear hn0
    go_enter Tryd.func74, Tryd.ntmps74
    go_wp2_with fail
    go_ret
    exact ⟨by rw [HR.out]; rfl, HW2.out _ _⟩
  have e0 : decide (n < 0) = false := decide_eq_false hn0
  by_cases hn1 : M < n
  · have HR : Hid (r = false) := Lib.hid (HF.out (by omega))
    have e1 : decide (M < n) = true := decide_eq_true hn1
    clear hn0 hn1
    go_enter Tryd.func74, Tryd.ntmps74
    go_wp2_with fail
    go_ret
    exact ⟨by rw [HR.out]; rfl, HW2.out _ _⟩
  have e1 : decide (M < n) = false := decide_eq_false hn1
  by_cases hn2 : l.length = Y
  case neg =>
    have HR : Hid (r = false) := Lib.hid (HF.out (fun h => hn2 h.1))
    have e2 : ((l.length : Int) != (Y : Int)) = true := by simp; omega
    clear hn0 hn1 hn2
    go_enter Tryd.func74, Tryd.ntmps74
    go_wp2_with fail
    go_ret
    exact ⟨by rw [HR.out]; rfl, HW2.out _ _⟩
  have e2 : ((l.length : Int) != (Y : Int)) = false := by simp; omega
  have HN : Hid (0 ≤ n ∧ n ≤ M ∧ l.length = Y) := Lib.hid ⟨by omega, by omega, hn2⟩
  clear hn0 hn1 hn2
  by_cases h7 : K = 7
  · subst h7
    have HR : Hid (r = l.all fun t => t.k == 2) := Lib.hid (by
      have hY1 : Y = 1 := by rw [← HY.out]; rfl
      have hl1 : l.length = 1 := by have := HN.out.2.2; omega
      obtain ⟨t, rfl⟩ : ∃ t, l = [t] := List.length_eq_one_iff.1 hl1
      have e : (r : Bool) = decide (t.k = 2) := by
        rw [← HRR.out]
        unfold ttopB firstM
        have h1 : ([t] : List TM).length = manyM ((7 : Nat) : Int) := rfl
        have h2 : n ≤ mostM ((7 : Nat) : Int) := by rw [HM.out]; exact HN.out.2.1
        rw [decide_eq_true (by omega : (1 : Int) ≤ ((7 : Nat) : Int)), decide_eq_true (by omega : ((7 : Nat) : Int) ≤ 8), decide_eq_true h1, decide_eq_true HN.out.1, decide_eq_true h2]
        simp
      rw [e]; by_cases e2 : t.k = 2 <;> simp [e2])
    obtain rfl : z2 = 2 := HZ2.out.symm
    obtain ⟨v, hv⟩ : ∃ v, (l.all fun t => t.k == 2) = v := ⟨_, rfl⟩
    rw [hv] at HR HCON
    clear hv HF HRR HH
    go_enter Tryd.func74, Tryd.ntmps74
    go_wp2_with fail
    refine (HCON.out _ (HSUB.out _ (HW2.out _ _)) (by simp; omega) (by simp)).mono ?_
    rintro e w1 ⟨rfl, hb1⟩
    go_wp2_with fail
    go_ret
    exact ⟨by rw [HR.out]; simp, (HW2.out _ _).trans (hb1.mono (by simp; omega))⟩
  · have HR : Hid (r = true) := Lib.hid (by
      rw [← HRR.out]
      exact ttop_mk (by omega) (by omega) (by rw [HY.out]; exact HN.out.2.2) HN.out.1 (by rw [HM.out]; exact HN.out.2.1) (fun e => (h7 (by omega)).elim))
    have hz := HZ2.out
    rw [if_neg h7] at hz
    subst hz
    clear h7 HF HRR HH HCON
    go_enter Tryd.func74, Tryd.ntmps74
    go_wp2_with fail
    go_ret
    exact ⟨by rw [HR.out]; rfl, HW2.out _ _⟩

end Go.Proofs.YtodmnollgejgeaaDoor
