/- tree.Expr, tree.Pattern. -/
import Derived.Test.YtmaomnpanfdjeaaDoorStand
namespace Go.Proofs.YtmaomnpanfdjeaaDoor
open Go.RowKit
set_option linter.unusedVariables false

theorem fit_size {t : RT} (h : fitB t = true) : t.size ≤ 8192 := (fitB_true.1 h).1

theorem expr_any (t : RT) (lo hi : Nat) (A : Option Addr) (cap : Nat) (w : World) (h : IsNode w lo hi t A cap) (hhi : hi ≤ w.heap.size) (hS : Shapes w) :
    Calls Tryd.prog 19 #[nodeV t A cap] w fun e w' => e = .returned (.bool (fitB t && goodB t false)) ∧ Below w.heap.size w w' := by
  have hf := fits_any t lo hi A cap
  cases hb : fitB t with
  | false =>
    rw [hb] at hf
    have HF := Lib.hid hf
    clear hf hb
    unfold nodeV at HF ⊢
    go_enter Tryd.func19, Tryd.ntmps19
    go_wp2_with fail
    refine (HF.out _ (h.alloc hhi _) (by simp; omega)).mono ?_
    rintro e w1 ⟨rfl, hb1⟩
    go_wp2_with fail
    go_ret
    exact ⟨rfl, ((Below.refl _ _).alloc (Nat.le_refl _) _).trans (hb1.mono (by simp))⟩
  | true =>
    have hst := fun W h1 h2 h3 => stands_any t 1 lo hi A cap W h1 h2 h3 (fit_size hb) (by decide)
    rw [show decide ((1 : Int) = 2) = false from rfl] at hst
    obtain ⟨r, hr⟩ : ∃ r, goodB t false = r := ⟨_, rfl⟩
    rw [hr] at hst
    rw [hb] at hf
    rw [hr, Bool.true_and]
    have HF := Lib.hid hf
    have HT := Lib.hid hst
    clear hf hb hr hst
    unfold nodeV at HF HT ⊢
    go_enter Tryd.func19, Tryd.ntmps19
    go_wp2_with fail
    refine (HF.out _ (h.alloc hhi _) (by simp; omega)).mono ?_
    rintro e w1 ⟨rfl, hb1⟩
    have hz1 := hb1.size
    simp at hz1
    have hB1 := ((Below.refl _ _).alloc (Nat.le_refl _) _).trans (hb1.mono (by simp))
    have hcell := fun p hp => hb1.cell (p := p) hp
    go_wp2_with fail
    refine (HT.out _ ((h.alloc hhi _).kept hb1 (by simp; omega)) (by omega) (hS.below hB1)).mono ?_
    rintro e w2 ⟨rfl, hb2⟩
    go_wp2_with fail
    go_ret
    exact ⟨rfl, hB1.trans (hb2.mono (by omega))⟩

theorem pattern_any (t : RT) (lo hi : Nat) (A : Option Addr) (cap : Nat) (w : World) (h : IsNode w lo hi t A cap) (hhi : hi ≤ w.heap.size) (hS : Shapes w) :
    Calls Tryd.prog 22 #[nodeV t A cap] w fun e w' => e = .returned (.bool (fitB t && goodB t true)) ∧ Below w.heap.size w w' := by
  have hf := fits_any t lo hi A cap
  cases hb : fitB t with
  | false =>
    rw [hb] at hf
    have HF := Lib.hid hf
    clear hf hb
    unfold nodeV at HF ⊢
    go_enter Tryd.func22, Tryd.ntmps22
    go_wp2_with fail
    refine (HF.out _ (h.alloc hhi _) (by simp; omega)).mono ?_
    rintro e w1 ⟨rfl, hb1⟩
    go_wp2_with fail
    go_ret
    exact ⟨rfl, ((Below.refl _ _).alloc (Nat.le_refl _) _).trans (hb1.mono (by simp))⟩
  | true =>
    have hst := fun W h1 h2 h3 => stands_any t 2 lo hi A cap W h1 h2 h3 (fit_size hb) (by decide)
    rw [show decide ((2 : Int) = 2) = true from rfl] at hst
    obtain ⟨r, hr⟩ : ∃ r, goodB t true = r := ⟨_, rfl⟩
    rw [hr] at hst
    rw [hb] at hf
    rw [hr, Bool.true_and]
    have HF := Lib.hid hf
    have HT := Lib.hid hst
    clear hf hb hr hst
    unfold nodeV at HF HT ⊢
    go_enter Tryd.func22, Tryd.ntmps22
    go_wp2_with fail
    refine (HF.out _ (h.alloc hhi _) (by simp; omega)).mono ?_
    rintro e w1 ⟨rfl, hb1⟩
    have hz1 := hb1.size
    simp at hz1
    have hB1 := ((Below.refl _ _).alloc (Nat.le_refl _) _).trans (hb1.mono (by simp))
    have hcell := fun p hp => hb1.cell (p := p) hp
    go_wp2_with fail
    refine (HT.out _ ((h.alloc hhi _).kept hb1 (by simp; omega)) (by omega) (hS.below hB1)).mono ?_
    rintro e w2 ⟨rfl, hb2⟩
    go_wp2_with fail
    go_ret
    exact ⟨rfl, hB1.trans (hb2.mono (by omega))⟩

end Go.Proofs.YtmaomnpanfdjeaaDoor
