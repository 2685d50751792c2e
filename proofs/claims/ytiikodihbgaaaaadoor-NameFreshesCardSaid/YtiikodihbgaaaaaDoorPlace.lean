/- Where a text stands among others: name.Place and the document's plain Place; whether no two are the same: the document's plain Distinct. For every slice of strings of at most 2^47 elements, nil too; nothing that was there is written. -/
import Derived.Test.YtiikodihbgaaaaaDoorWord
import Derived.LoopTactic
import Derived.LoopN
import Derived.Lib.Hide
import Derived.RegionTactic
namespace Go.Proofs.YtiikodihbgaaaaaDoor
open Go.RowKit
set_option linter.unusedVariables false

/-- The last place below n at which p holds; -1 if there is none. -/
def lastF (p : Nat → Bool) : Nat → Int
  | 0 => -1
  | n + 1 => if p n then (n : Int) else lastF p n
theorem lastF_yes {p : Nat → Bool} {n : Nat} (h : p n = true) : lastF p (n + 1) = n := by rw [lastF, h]; rfl
theorem lastF_no {p : Nat → Bool} {n : Nat} (h : p n = false) : lastF p (n + 1) = lastF p n := by rw [lastF, h]; rfl
theorem lastF_lo (p : Nat → Bool) : ∀ n, -1 ≤ lastF p n
  | 0 => by show (-1 : Int) ≤ -1; omega
  | n + 1 => by
    have := lastF_lo p n
    rw [lastF]; split <;> omega
theorem lastF_hi (p : Nat → Bool) : ∀ n, lastF p n < n
  | 0 => by show (-1 : Int) < 0; omega
  | n + 1 => by have := lastF_hi p n; rw [lastF]; split <;> omega
theorem lastF_none {p : Nat → Bool} : ∀ {n : Nat}, lastF p n = -1 ↔ ∀ j, j < n → p j = false
  | 0 => by simp [lastF]
  | n + 1 => by
    cases h : p n with
    | true =>
      rw [lastF_yes h]
      constructor
      · intro e; omega
      · intro e; rw [e n (by omega)] at h; cases h
    | false =>
      rw [lastF_no h, lastF_none]
      constructor
      · intro e j hj
        by_cases hjn : j < n
        · exact e j hjn
        · obtain rfl : j = n := by omega
          exact h
      · exact fun e j hj => e j (by omega)
theorem lastF_some {p : Nat → Bool} {k : Nat} : ∀ {n : Nat}, k < n → p k = true → (∀ j, k < j → j < n → p j = false) → lastF p n = k
  | n + 1, hk, h, hn => by
    by_cases hkn : k = n
    · subst hkn; exact lastF_yes h
    · rw [lastF_no (hn n (by omega) (by omega))]
      exact lastF_some (by omega) h (fun j hj hjn => hn j hj (by omega))

/-- Which of the texts are s? -/
def isAt (ss : List ByteArray) (s : ByteArray) (j : Nat) : Bool := (ss.getD j ByteArray.empty).toList == s.toList
theorem isAt_true {ss : List ByteArray} {s : ByteArray} {j : Nat} : isAt ss s j = true ↔ ss.getD j ByteArray.empty = s := by
  unfold isAt
  constructor
  · intro h
    by_cases e : ss.getD j ByteArray.empty = s
    · exact e
    · rw [ne_list e] at h; cases h
  · exact eq_list
/-- The last place of a text. -/
def placeI (ss : List ByteArray) (s : ByteArray) : Int := lastF (isAt ss s) ss.length

/-- A slice of strings lies at an address. -/
structure StrRow (w : World) (a : Option Addr) (len : Nat) (ss : List ByteArray) : Prop where
  length : ss.length = len
  max : len ≤ 140737488355328
  size : ∀ s ∈ ss, s.size ≤ maxLen
  cells : len = 0 ∨ ∃ b off, a = some ⟨b, off, none⟩ ∧ b < w.heap.size ∧ ∀ j, j < len → w.cell? ⟨b, off + j, none⟩ = some (.string (ss.getD j ByteArray.empty))

theorem StrRow.below {w w' : World} {a : Option Addr} {len : Nat} {ss : List ByteArray} (h : StrRow w a len ss) (hb : Below w.heap.size w w') : StrRow w' a len ss := by
  refine ⟨h.length, h.max, h.size, ?_⟩
  rcases h.cells with h0 | ⟨b, off, ha, hlt, hc⟩
  · exact .inl h0
  · have hs := hb.size
    exact .inr ⟨b, off, ha, by omega, fun j hj => (hb.cell (p := ⟨b, off + j, none⟩) hlt).trans (hc j hj)⟩

theorem getD_size {ss : List ByteArray} (h : ∀ s ∈ ss, s.size ≤ maxLen) (j : Nat) : (ss.getD j ByteArray.empty).size ≤ maxLen := by
  by_cases hk : j < ss.length
  · rw [List.getD, List.getElem?_eq_getElem hk]
    exact h _ (List.getElem_mem hk)
  · rw [List.getD, List.getElem?_eq_none (by omega)]
    exact Nat.zero_le _

theorem place_any (a : Option Addr) (len cap : Nat) (ss : List ByteArray) (s : ByteArray) (w : World) (h : StrRow w a len ss) :
    Calls Tryd.prog 21 #[.slice a len cap, .string s] w fun e w' => e = .returned (.int .i64 (placeI ss s)) ∧ w = w' := by
  have hm := h.max
  unfold placeI
  rw [h.length]
  rcases h.cells with h0 | ⟨b, off, ha, hlt, hc⟩
  · subst h0
    clear h
    have e0 : lastF (isAt ss s) 0 = -1 := rfl
    rw [e0]; clear e0
    go_enter Tryd.func21, Tryd.ntmps21
    go_wp2_with fail
    refine wp_loop_rounds 1 ?_
    rw [rounds_succ]
    go_wp2_with fail
    go_ret
    exact ⟨rfl, rfl⟩
  · subst ha
    have HC := Lib.hid hc
    clear hc h
    obtain ⟨P, hP⟩ : ∃ P, lastF (isAt ss s) len = P := ⟨_, rfl⟩
    rw [hP]
    have HP := Lib.hid hP
    clear hP
    go_enter Tryd.func21, Tryd.ntmps21
    go_wp2_with fail
    go_loop [5] (fun i => ∃ k : Nat, k ≤ len ∧ i = .int .i64 ((k : Int) - 1) ∧ Hid (P = lastF (isAt ss s) k)) (fun i => (intOf i + 1).toNat)
    case atStart => exact ⟨len, Nat.le_refl _, rfl, Lib.hid HP.out.symm⟩
    case round =>
      obtain ⟨k, hk, rfl, HK⟩ := hrel
      match k, hk, HK with
      | 0, hk, HK =>
        have hP : P = -1 := HK.out
        subst hP
        go_wp2_with fail
        go_ret
        exact ⟨rfl, rfl⟩
      | k + 1, hk, HK =>
        have e1 : (((k + 1 : Nat) : Int) - 1) = (k : Int) := by omega
        rw [e1]; clear e1
        have hcell := HC.out k (by omega)
        cases hi : isAt ss s k with
        | true =>
          have hP : P = k := HK.out.trans (lastF_yes hi)
          subst hP
          unfold isAt at hi
          obtain ⟨x, hx⟩ : ∃ x, ss.getD k ByteArray.empty = x := ⟨_, rfl⟩
          rw [hx] at hcell hi
          clear hx
          go_wp2_with fail
          go_ret
          exact ⟨rfl, rfl⟩
        | false =>
          have HK2 := Lib.hid (HK.out.trans (lastF_no hi))
          unfold isAt at hi
          obtain ⟨x, hx⟩ : ∃ x, ss.getD k ByteArray.empty = x := ⟨_, rfl⟩
          rw [hx] at hcell hi
          clear hx HK
          go_wp2_with fail
          go_round
          case rel => exact ⟨k, by omega, rfl, HK2⟩
          case measure => simp [intOf]

theorem refPlace_any (a : Option Addr) (len cap : Nat) (ss : List ByteArray) (s : ByteArray) (w : World) (h : StrRow w a len ss) :
    Calls Tryd.prog 22 #[.slice a len cap, .string s] w fun e w' => e = .returned (.int .i64 (placeI ss s)) ∧ w = w' := by
  have hm := h.max
  unfold placeI
  rw [h.length]
  rcases h.cells with h0 | ⟨b, off, ha, hlt, hc⟩
  · subst h0
    clear h
    have e0 : lastF (isAt ss s) 0 = -1 := rfl
    rw [e0]; clear e0
    go_enter Tryd.func22, Tryd.ntmps22
    go_wp2_with fail
    refine wp_loop_rounds 1 ?_
    rw [rounds_succ]
    go_wp2_with fail
    go_ret
    exact ⟨rfl, rfl⟩
  · subst ha
    have HC := Lib.hid hc
    clear hc h
    obtain ⟨P, hP⟩ : ∃ P, lastF (isAt ss s) len = P := ⟨_, rfl⟩
    rw [hP]
    have HP := Lib.hid hP
    clear hP
    go_enter Tryd.func22, Tryd.ntmps22
    go_wp2_with fail
    go_loop [5, 6] (fun t i => ∃ k : Nat, k ≤ len ∧ i = .int .i64 k ∧ ∃ q : Int, t = .int .i64 q ∧ Hid (q = lastF (isAt ss s) k)) (fun _ i => len - (intOf i).toNat)
    case atStart => exact ⟨0, Nat.zero_le _, rfl, -1, rfl, Lib.hid rfl⟩
    case round =>
      obtain ⟨k, hk, rfl, q, rfl, HK⟩ := hrel
      by_cases hlk : k < len
      · have hcell := HC.out k hlk
        cases hi : isAt ss s k with
        | true =>
          have HK2 : Hid ((k : Int) = lastF (isAt ss s) (k + 1)) := Lib.hid (lastF_yes hi).symm
          unfold isAt at hi
          obtain ⟨x, hx⟩ : ∃ x, ss.getD k ByteArray.empty = x := ⟨_, rfl⟩
          rw [hx] at hcell hi
          clear hx HK
          go_wp2_with fail
          go_round
          case rel => exact ⟨k + 1, by omega, by go_num, k, rfl, HK2⟩
          case measure => simp [intOf]; omega
        | false =>
          have HK2 : Hid (q = lastF (isAt ss s) (k + 1)) := Lib.hid (HK.out.trans (lastF_no hi).symm)
          unfold isAt at hi
          obtain ⟨x, hx⟩ : ∃ x, ss.getD k ByteArray.empty = x := ⟨_, rfl⟩
          rw [hx] at hcell hi
          clear hx HK
          go_wp2_with fail
          go_round
          case rel => exact ⟨k + 1, by omega, by go_num, q, rfl, HK2⟩
          case measure => simp [intOf]; omega
      · have hq : q = P := by
          have e : k = len := by omega
          rw [HK.out, e]; exact HP.out
        subst hq
        go_wp2_with fail
        go_ret
        exact ⟨rfl, rfl⟩

/-- No two texts are the same: each one's last place is its own. -/
def distB (ss : List ByteArray) : Bool := decide (∀ j, j < ss.length → placeI ss (ss.getD j ByteArray.empty) = j)

theorem refDistinct_any (a : Option Addr) (len cap : Nat) (ss : List ByteArray) (w : World) (h : StrRow w a len ss) :
    Calls Tryd.prog 24 #[.slice a len cap] w fun e w' => e = .returned (.bool (distB ss)) ∧ w = w' := by
  have hm := h.max
  rcases h.cells with h0 | ⟨b, off, ha, hlt, hc⟩
  · have hd : distB ss = true := by
      unfold distB
      rw [h.length, h0]
      exact decide_eq_true (fun j hj => absurd hj (Nat.not_lt_zero j))
    rw [hd]
    subst h0
    clear h
    go_enter Tryd.func24, Tryd.ntmps24
    go_wp2_with fail
    refine wp_loop_rounds 1 ?_
    rw [rounds_succ]
    go_wp2_with fail
    go_ret
    exact ⟨rfl, rfl⟩
  · subst ha
    have HC := Lib.hid hc
    have HS := Lib.hid h
    obtain ⟨D, hD⟩ : ∃ D, distB ss = D := ⟨_, rfl⟩
    rw [hD]
    have HD := Lib.hid hD
    clear hc h hD
    go_enter Tryd.func24, Tryd.ntmps24
    go_wp2_with fail
    go_loop [3] (fun i => ∃ k : Nat, k ≤ len ∧ i = .int .i64 k ∧ Hid (∀ j, j < k → placeI ss (ss.getD j ByteArray.empty) = j)) (fun i => len - (intOf i).toNat)
    case atStart => exact ⟨0, Nat.zero_le _, rfl, Lib.hid (fun j hj => absurd hj (Nat.not_lt_zero j))⟩
    case round =>
      obtain ⟨k, hk, rfl, HK⟩ := hrel
      by_cases hlk : k < len
      · have hcell := HC.out k hlk
        obtain ⟨x, hx⟩ : ∃ x, ss.getD k ByteArray.empty = x := ⟨_, rfl⟩
        rw [hx] at hcell
        have HX := Lib.hid hx
        clear hx
        obtain ⟨q, hq⟩ : ∃ q, placeI ss x = q := ⟨_, rfl⟩
        have HQ := Lib.hid hq
        clear hq
        by_cases he : q = (k : Int)
        · subst he
          go_wp2_with fail
          refine (refPlace_any _ _ _ _ _ _ HS.out).mono ?_; rintro e w1 ⟨rfl, rfl⟩
          rw [HQ.out]
          go_wp2_with fail
          go_round
          case rel =>
            refine ⟨k + 1, by omega, by go_num, Lib.hid (fun j hj => ?_)⟩
            by_cases hjk : j < k
            · exact HK.out j hjk
            · obtain rfl : j = k := by omega
              rw [HX.out]; exact HQ.out
          case measure => simp [intOf]; omega
        · have hd : D = false := by
            rw [← HD.out]
            refine decide_eq_false (fun hall => he ?_)
            have := hall k (by rw [HS.out.length]; exact hlk)
            rw [HX.out, HQ.out] at this
            exact this
          subst hd
          have ne : (q != (k : Int)) = true := by simpa using he
          have ne2 : (q == (k : Int)) = false := by simpa using he
          go_wp2_with fail
          refine (refPlace_any _ _ _ _ _ _ HS.out).mono ?_; rintro e w1 ⟨rfl, rfl⟩
          rw [HQ.out]
          go_wp2_with fail
          go_ret
          exact ⟨rfl, rfl⟩
      · have hd : D = true := by
          rw [← HD.out]
          exact decide_eq_true (fun j hj => HK.out j (by rw [HS.out.length] at hj; omega))
        subst hd
        go_wp2_with fail
        go_ret
        exact ⟨rfl, rfl⟩

end Go.Proofs.YtiikodihbgaaaaaDoor
