/- Strings and their bytes as numbers: equality, cuts, the bytes of a sign. No program. -/
import Derived.Test.YtmaomnpanfdjeaaDoorDec
import Derived.Laws.Strings
namespace Go.Proofs.YtmaomnpanfdjeaaDoor
open Go.RowKit

theorem bytesL_inj {a b : ByteArray} (h : bytesL a = bytesL b) : a = b := by
  have h2 : a.data.toList = b.data.toList := by
    unfold bytesL at h
    exact List.map_inj_right (f := fun b : UInt8 => (b.toNat : Int)) (fun x y hxy => UInt8.toNat_inj.1 (by exact_mod_cast hxy)) |>.1 h
  apply ByteArray.ext
  exact Array.toList_inj.1 h2

theorem str_eq_true {a b : ByteArray} (h : bytesL a = bytesL b) : (a.toList == b.toList) = true := by
  rw [bytesL_inj h]; simp
theorem str_eq_false {a b : ByteArray} (h : bytesL a ≠ bytesL b) : (a.toList == b.toList) = false := by
  rw [beq_eq_false_iff_ne]
  intro e
  apply h
  rw [ByteArray.toList_eq, ByteArray.toList_eq] at e
  unfold bytesL; rw [e]

theorem bytesL_strOfNums (l : List Int) (h : ∀ x ∈ l, 0 ≤ x ∧ x ≤ 255) : bytesL (strOfNums l) = l := by
  unfold bytesL
  rw [strOfNums_data, List.map_map]
  conv => rhs; rw [← List.map_id l]
  apply List.map_congr_left
  intro x hx
  obtain ⟨h0, h1⟩ := h x hx
  simp
  omega

theorem encI_bytes {n : Int} (h0 : 0 ≤ n) (h1 : n ≤ 1114111) : ∀ x ∈ encI n, 0 ≤ x ∧ x ≤ 255 := by
  intro x hx
  by_cases a1 : n ≤ 127
  · rw [encI_1 a1] at hx; simp at hx; omega
  · by_cases a2 : n ≤ 2047
    · rw [encI_2 (by omega) a2] at hx; simp at hx; omega
    · by_cases a3 : n ≤ 65535
      · rw [encI_3 (by omega) a3] at hx; simp at hx; omega
      · rw [encI_4 (by omega)] at hx; simp at hx; omega

theorem bytesL_enc {n : Int} (h : rightB n = true) : bytesL (enc n) = encI n :=
  bytesL_strOfNums _ (encI_bytes (rightB_true.1 h).1 (rightB_true.1 h).2.1)

theorem bytesL_empty : bytesL ⟨#[]⟩ = [] := rfl

theorem bytesL_extract (s : ByteArray) (a b : Nat) : bytesL (s.extract a b) = ((bytesL s).drop a).take (b - a) := by
  unfold bytesL
  have h : (s.extract a b).data.toList = (s.data.toList.drop a).take (b - a) := by simp [List.extract_eq_take_drop]
  rw [h]
  simp [List.map_take, List.map_drop]

/-- What scholiumref01.number answers. -/
def fin (N : Int) (l : List Int) : Int := if rightB N && decide (encI N = l) then N else -1
def numV : List Int → Int
  | [b0] => fin b0 [b0]
  | [b0, c1] => if b0 - 192 < 0 then -1 else fin ((b0 - 192) * 64 + c1 - 128) [b0, c1]
  | [b0, c1, c2] => if b0 - 224 < 0 then -1 else fin (((b0 - 224) * 64 + c1 - 128) * 64 + c2 - 128) [b0, c1, c2]
  | [b0, c1, c2, c3] => if b0 - 240 < 0 then -1 else fin ((((b0 - 240) * 64 + c1 - 128) * 64 + c2 - 128) * 64 + c3 - 128) [b0, c1, c2, c3]
  | _ => -1

theorem numV_1 (b0 : Int) : numV [b0] = fin b0 [b0] := rfl
theorem numV_2 (b0 c1 : Int) : numV [b0, c1] = if b0 - 192 < 0 then -1 else fin ((b0 - 192) * 64 + c1 - 128) [b0, c1] := rfl
theorem numV_3 (b0 c1 c2 : Int) : numV [b0, c1, c2] = if b0 - 224 < 0 then -1 else fin (((b0 - 224) * 64 + c1 - 128) * 64 + c2 - 128) [b0, c1, c2] := rfl
theorem numV_4 (b0 c1 c2 c3 : Int) : numV [b0, c1, c2, c3] = if b0 - 240 < 0 then -1 else fin ((((b0 - 240) * 64 + c1 - 128) * 64 + c2 - 128) * 64 + c3 - 128) [b0, c1, c2, c3] := rfl
theorem fin_yes {N : Int} {l : List Int} (h : rightB N = true) (k : encI N = l) : fin N l = N := by
  unfold fin; rw [h, k]; simp
theorem fin_no {N : Int} {l : List Int} (h : rightB N = false) : fin N l = -1 := by
  unfold fin; rw [h]; simp
theorem fin_other {N : Int} {l : List Int} (h : encI N ≠ l) : fin N l = -1 := by
  unfold fin; rw [decide_eq_false h]; simp

theorem numV_sign {n : Int} (h : rightB n = true) : numV (encI n) = n := by
  obtain ⟨h0, h1, h2⟩ := rightB_true.1 h
  by_cases a1 : n ≤ 127
  · have e := encI_1 a1
    rw [e, numV_1, fin_yes h e]
  · by_cases a2 : n ≤ 2047
    · have e := encI_2 (by omega) a2
      have e2 : (192 + n / 64 - 192) * 64 + (128 + n % 64) - 128 = n := by omega
      rw [e, numV_2, if_neg (by omega), e2, fin_yes h e]
    · by_cases a3 : n ≤ 65535
      · have e := encI_3 (by omega) a3
        have e2 : ((224 + n / 64 / 64 - 224) * 64 + (128 + n / 64 % 64) - 128) * 64 + (128 + n % 64) - 128 = n := by omega
        rw [e, numV_3, if_neg (by omega), e2, fin_yes h e]
      · have e := encI_4 (n := n) (by omega)
        have e2 : (((240 + n / 64 / 64 / 64 - 240) * 64 + (128 + n / 64 / 64 % 64) - 128) * 64 + (128 + n / 64 % 64) - 128) * 64 + (128 + n % 64) - 128 = n := by omega
        rw [e, numV_4, if_neg (by omega), e2, fin_yes h e]

theorem fin_cases (N : Int) (l : List Int) : fin N l = -1 ∨ (rightB N = true ∧ encI N = l ∧ fin N l = N) := by
  by_cases h : (rightB N && decide (encI N = l)) = true
  · right
    have h2 : fin N l = N := if_pos h
    simp only [Bool.and_eq_true, decide_eq_true_eq] at h
    exact ⟨h.1, h.2, h2⟩
  · left; exact if_neg h

theorem numV_cases (l : List Int) : numV l = -1 ∨ ∃ n, rightB n = true ∧ encI n = l ∧ numV l = n := by
  unfold numV
  split
  · rcases fin_cases _ _ with h | ⟨h1, h2, h3⟩
    · exact .inl h
    · exact .inr ⟨_, h1, h2, h3⟩
  · split
    · exact .inl rfl
    · rcases fin_cases _ _ with h | ⟨h1, h2, h3⟩
      · exact .inl h
      · exact .inr ⟨_, h1, h2, h3⟩
  · split
    · exact .inl rfl
    · rcases fin_cases _ _ with h | ⟨h1, h2, h3⟩
      · exact .inl h
      · exact .inr ⟨_, h1, h2, h3⟩
  · split
    · exact .inl rfl
    · rcases fin_cases _ _ with h | ⟨h1, h2, h3⟩
      · exact .inl h
      · exact .inr ⟨_, h1, h2, h3⟩
  · exact .inl rfl

/-- Where no sign begins, no cut is one's bytes. -/
theorem numV_none {l : List Int} (h : dec l = none) (m : Nat) : numV (l.take m) = -1 := by
  rcases numV_cases (l.take m) with e | ⟨n, h1, h2, _⟩
  · exact e
  · have : IsSign l n := ⟨h1, l.drop m, by rw [h2, List.take_append_drop]⟩
    rw [dec_of_sign this] at h; cases h

/-- Where one begins, no other cut is one's bytes. -/
theorem numV_other {l : List Int} {n : Int} (h : IsSign l n) (m : Nat) (hm : m < wid n) : numV (l.take m) = -1 := by
  rcases numV_cases (l.take m) with e | ⟨n', h1, h2, _⟩
  · exact e
  · have hs : IsSign l n' := ⟨h1, l.drop m, by rw [h2, List.take_append_drop]⟩
    have := sign_unique hs h
    subst this
    have h3 := encI_length n'
    rw [h2, List.length_take] at h3
    omega

theorem numV_at {l : List Int} {n : Int} (h : IsSign l n) : numV (l.take (wid n)) = n := by
  obtain ⟨hr, t, rfl⟩ := h
  rw [← encI_length, List.take_left]
  exact numV_sign hr

end Go.Proofs.YtmaomnpanfdjeaaDoor
