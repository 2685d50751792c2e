/- Signs are ordered as their bytes: plain functions. No program. -/
import Derived.Test.YtcmmkdihknjfnaaStr
namespace Go.Proofs.Ytcmmkdihknjfnaa
open Go.RowKit

/-- One list of numbers stands before another, as bytes do. -/
def lessI : List Int → List Int → Bool
  | _, [] => false
  | [], _ :: _ => true
  | a :: x, b :: y => decide (a < b) || (decide (a = b) && lessI x y)

theorem bytesLess_lessI : ∀ (x y : List UInt8), Op.bytesLess x y = lessI (x.map fun b => (b.toNat : Int)) (y.map fun b => (b.toNat : Int))
  | _, [] => by cases ‹List UInt8› <;> rfl
  | [], _ :: _ => rfl
  | a :: x, b :: y => by
    have h := bytesLess_lessI x y
    show (decide (a < b) || (a == b && Op.bytesLess x y)) = (decide ((a.toNat : Int) < (b.toNat : Int)) || (decide ((a.toNat : Int) = (b.toNat : Int)) && lessI _ _))
    rw [h]
    have e1 : decide (a < b) = decide ((a.toNat : Int) < (b.toNat : Int)) := by
      rw [decide_eq_decide, UInt8.lt_iff_toNat_lt]; omega
    have e2 : (a == b) = decide ((a.toNat : Int) = (b.toNat : Int)) := by
      rw [Bool.eq_iff_iff, beq_iff_eq, decide_eq_true_eq, ← UInt8.toNat_inj]; omega
    rw [e1, e2]

theorem bytesLess_enc {a b : Int} (ha : rightB a = true) (hb : rightB b = true) : Op.bytesLess (enc a).toList (enc b).toList = lessI (encI a) (encI b) := by
  rw [ByteArray.toList_eq, ByteArray.toList_eq, bytesLess_lessI]
  show lessI (bytesL (enc a)) (bytesL (enc b)) = _
  rw [bytesL_enc ha, bytesL_enc hb]

theorem lessI_cons (a b : Int) (x y : List Int) : lessI (a :: x) (b :: y) = (decide (a < b) || (decide (a = b) && lessI x y)) := rfl
theorem lessI_lt {a b : Int} {x y : List Int} (h : a < b) : lessI (a :: x) (b :: y) = true := by rw [lessI_cons]; simp [h]
theorem lessI_eq {a b : Int} {x y : List Int} (h : a = b) : lessI (a :: x) (b :: y) = lessI x y := by rw [lessI_cons]; simp [h]

theorem lessI_enc {a b : Int} (ha : rightB a = true) (hb : rightB b = true) (h : a < b) : lessI (encI a) (encI b) = true := by
  obtain ⟨a0, a1, a2⟩ := rightB_true.1 ha
  obtain ⟨b0, b1, b2⟩ := rightB_true.1 hb
  clear a2 b2 ha hb
  by_cases c1 : b ≤ 127
  · rw [encI_1 c1, encI_1 (show a ≤ 127 by omega)]; exact lessI_lt h
  by_cases c2 : b ≤ 2047
  · rw [encI_2 (by omega) c2]
    by_cases d1 : a ≤ 127
    · rw [encI_1 d1]; exact lessI_lt (by omega)
    rw [encI_2 (by omega) (by omega)]
    by_cases e1 : a / 64 < b / 64
    · exact lessI_lt (by omega)
    · rw [lessI_eq (by omega)]; exact lessI_lt (by omega)
  by_cases c3 : b ≤ 65535
  · rw [encI_3 (by omega) c3]
    by_cases d1 : a ≤ 127
    · rw [encI_1 d1]; exact lessI_lt (by omega)
    by_cases d2 : a ≤ 2047
    · rw [encI_2 (by omega) d2]; exact lessI_lt (by omega)
    rw [encI_3 (by omega) (by omega)]
    by_cases e1 : a / 64 / 64 < b / 64 / 64
    · exact lessI_lt (by omega)
    rw [lessI_eq (by omega)]
    by_cases e2 : a / 64 < b / 64
    · exact lessI_lt (by omega)
    · rw [lessI_eq (by omega)]; exact lessI_lt (by omega)
  · rw [encI_4 (show 65536 ≤ b by omega)]
    by_cases d1 : a ≤ 127
    · rw [encI_1 d1]; exact lessI_lt (by omega)
    by_cases d2 : a ≤ 2047
    · rw [encI_2 (by omega) d2]; exact lessI_lt (by omega)
    by_cases d3 : a ≤ 65535
    · rw [encI_3 (by omega) d3]; exact lessI_lt (by omega)
    rw [encI_4 (by omega)]
    by_cases e1 : a / 64 / 64 / 64 < b / 64 / 64 / 64
    · exact lessI_lt (by omega)
    rw [lessI_eq (by omega)]
    by_cases e2 : a / 64 / 64 < b / 64 / 64
    · exact lessI_lt (by omega)
    rw [lessI_eq (by omega)]
    by_cases e3 : a / 64 < b / 64
    · exact lessI_lt (by omega)
    · rw [lessI_eq (by omega)]; exact lessI_lt (by omega)

theorem lessI_anti : ∀ (x y : List Int), lessI x y = true → lessI y x = false
  | [], [], _ => rfl
  | [], _ :: _, _ => rfl
  | _ :: _, [], h => by cases h
  | a :: x, b :: y, h => by
    rw [lessI_cons] at h ⊢
    simp only [Bool.or_eq_true, Bool.and_eq_true, decide_eq_true_eq] at h
    rcases h with h | ⟨h, h2⟩
    · have e1 : ¬ b < a := by omega
      have e2 : ¬ b = a := by omega
      simp [e1, e2]
    · have e1 : ¬ b < a := by omega
      simp [e1, lessI_anti x y h2]

theorem lessI_irr : ∀ (x : List Int), lessI x x = false
  | [] => rfl
  | a :: x => by rw [lessI_cons]; simp [lessI_irr x]

theorem enc_less {a b : Int} (ha : rightB a = true) (hb : rightB b = true) (h : a < b) : Op.bytesLess (enc a).toList (enc b).toList = true := by
  rw [bytesLess_enc ha hb]; exact lessI_enc ha hb h
theorem enc_not_less {a b : Int} (ha : rightB a = true) (hb : rightB b = true) (h : b ≤ a) : Op.bytesLess (enc a).toList (enc b).toList = false := by
  rw [bytesLess_enc ha hb]
  by_cases e : a = b
  · subst e; exact lessI_irr _
  · exact lessI_anti _ _ (lessI_enc hb ha (by omega))
theorem enc_inj {a b : Int} (ha : rightB a = true) (hb : rightB b = true) (h : encI a = encI b) : a = b := by
  have h1 := numV_sign ha
  rw [h, numV_sign hb] at h1
  exact h1.symm
theorem enc_ne {a b : Int} (ha : rightB a = true) (hb : rightB b = true) (h : a ≠ b) : ((enc a).toList == (enc b).toList) = false :=
  str_eq_false (by rw [bytesL_enc ha, bytesL_enc hb]; exact fun e => h (enc_inj ha hb e))

end Go.Proofs.Ytcmmkdihknjfnaa
