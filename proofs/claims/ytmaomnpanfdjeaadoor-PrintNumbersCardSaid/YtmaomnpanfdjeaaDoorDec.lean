/- Reading one sign, as plain functions on lists of numbers, and what they come to: 'dec l' is the sign whose bytes l begins with, if there is one. No program. -/
import Derived.Test.YtmaomnpanfdjeaaDoorEnc
namespace Go.Proofs.YtmaomnpanfdjeaaDoor
open Go.RowKit

/-- A string's bytes, as numbers. -/
def bytesL (s : ByteArray) : List Int := s.data.toList.map fun b => (b.toNat : Int)

theorem bytesL_length (s : ByteArray) : (bytesL s).length = s.size := by simp [bytesL]
theorem bytesL_get (s : ByteArray) (i : Nat) (h : i < s.size) : (bytesL s)[i]? = some ((s[i].toNat : Int)) := by
  simp [bytesL]
  exact ⟨s[i], by rw [Array.getElem?_eq_getElem (by simpa using h)]; rfl, rfl⟩
/-- The byte at a place. -/
def byt (s : ByteArray) (i : Nat) : Int := (bytesL s).getD i 0
theorem byt_eq (s : ByteArray) (i : Nat) (h : i < s.size) : (s[i].toNat : Int) = byt s i := by
  unfold byt; simp [List.getD, bytesL_get s i h]
theorem byt_lo (s : ByteArray) (i : Nat) : 0 ≤ byt s i := by
  by_cases h : i < s.size
  · rw [← byt_eq s i h]; omega
  · unfold byt; rw [List.getD, List.getElem?_eq_none (by rw [bytesL_length]; omega)]; simp
theorem byt_hi (s : ByteArray) (i : Nat) : byt s i ≤ 255 := by
  by_cases h : i < s.size
  · rw [← byt_eq s i h]; have := s[i].toNat_lt; omega
  · unfold byt; rw [List.getD, List.getElem?_eq_none (by rw [bytesL_length]; omega)]; simp
theorem drop_byt (s : ByteArray) (i : Nat) (h : i < s.size) : (bytesL s).drop i = byt s i :: (bytesL s).drop (i + 1) := by
  rw [List.drop_eq_getElem_cons (by rw [bytesL_length]; exact h)]
  unfold byt
  rw [List.getD, List.getElem?_eq_getElem (by rw [bytesL_length]; exact h)]
  rfl
theorem drop_nil (s : ByteArray) (i : Nat) (h : s.size ≤ i) : (bytesL s).drop i = [] := List.drop_eq_nil_of_le (by rw [bytesL_length]; exact h)

def okB (k : Nat) (n : Int) : Bool := rightB n && decide (wid n = k)

def dec4 (b : Int) : List Int → Option Int
  | c1 :: c2 :: c3 :: _ => if followsB c1 && (followsB c2 && (followsB c3 && okB 4 ((((b - 240) * 64 + c1 % 64) * 64 + c2 % 64) * 64 + c3 % 64))) then some ((((b - 240) * 64 + c1 % 64) * 64 + c2 % 64) * 64 + c3 % 64) else none
  | _ => none
def dec3 (b : Int) : List Int → Option Int
  | c1 :: c2 :: _ => if followsB c1 && (followsB c2 && okB 3 (((b - 224) * 64 + c1 % 64) * 64 + c2 % 64)) then some (((b - 224) * 64 + c1 % 64) * 64 + c2 % 64) else none
  | _ => none
def dec2 (b : Int) : List Int → Option Int
  | c1 :: _ => if followsB c1 && okB 2 ((b - 192) * 64 + c1 % 64) then some ((b - 192) * 64 + c1 % 64) else none
  | _ => none
/-- The sign that stands at a list's head. -/
def dec : List Int → Option Int
  | [] => none
  | b :: t => if b < 128 then some b else if b < 192 ∨ 248 ≤ b then none else if 240 ≤ b then dec4 b t else if 224 ≤ b then dec3 b t else dec2 b t
theorem dec_cons (b : Int) (t : List Int) : dec (b :: t) = if b < 128 then some b else if b < 192 ∨ 248 ≤ b then none else if 240 ≤ b then dec4 b t else if 224 ≤ b then dec3 b t else dec2 b t := rfl
theorem dec_1 {b : Int} {t : List Int} (h : b < 128) : dec (b :: t) = some b := if_pos h
theorem dec_0 {b : Int} {t : List Int} (h : (128 ≤ b ∧ b < 192) ∨ 248 ≤ b) : dec (b :: t) = none := by rw [dec_cons, if_neg (by omega), if_pos (by omega)]
theorem dec_4 {b : Int} {t : List Int} (h : 240 ≤ b) (k : b < 248) : dec (b :: t) = dec4 b t := by rw [dec_cons, if_neg (by omega), if_neg (by omega), if_pos h]
theorem dec_3 {b : Int} {t : List Int} (h : 224 ≤ b) (k : b < 240) : dec (b :: t) = dec3 b t := by rw [dec_cons, if_neg (by omega), if_neg (by omega), if_neg (by omega), if_pos h]
theorem dec_2 {b : Int} {t : List Int} (h : 192 ≤ b) (k : b < 224) : dec (b :: t) = dec2 b t := by rw [dec_cons, if_neg (by omega), if_neg (by omega), if_neg (by omega), if_neg (by omega)]

/-- A list begins with a sign's bytes. -/
def IsSign (l : List Int) (n : Int) : Prop := rightB n = true ∧ ∃ t, l = encI n ++ t

theorem sign_cases {l : List Int} {n : Int} (h : IsSign l n) : 0 ≤ n ∧ n ≤ 1114111 ∧ (n < 55296 ∨ 57343 < n) ∧ ∃ t,
    (n ≤ 127 ∧ l = n :: t) ∨ (128 ≤ n ∧ n ≤ 2047 ∧ l = (192 + n / 64) :: (128 + n % 64) :: t) ∨
    (2048 ≤ n ∧ n ≤ 65535 ∧ l = (224 + n / 64 / 64) :: (128 + n / 64 % 64) :: (128 + n % 64) :: t) ∨
    (65536 ≤ n ∧ l = (240 + n / 64 / 64 / 64) :: (128 + n / 64 / 64 % 64) :: (128 + n / 64 % 64) :: (128 + n % 64) :: t) := by
  obtain ⟨hr, t, rfl⟩ := h
  obtain ⟨h0, h1, h2⟩ := rightB_true.1 hr
  refine ⟨h0, h1, h2, t, ?_⟩
  by_cases a1 : n ≤ 127
  · exact .inl ⟨a1, by rw [encI_1 a1]; rfl⟩
  · by_cases a2 : n ≤ 2047
    · exact .inr (.inl ⟨by omega, a2, by rw [encI_2 (by omega) a2]; rfl⟩)
    · by_cases a3 : n ≤ 65535
      · exact .inr (.inr (.inl ⟨by omega, a3, by rw [encI_3 (by omega) a3]; rfl⟩))
      · exact .inr (.inr (.inr ⟨by omega, by rw [encI_4 (by omega)]; rfl⟩))

theorem okB_true {k : Nat} {n : Int} : okB k n = true ↔ rightB n = true ∧ wid n = k := by simp [okB]
theorem wid_1 {n : Int} (h : n ≤ 127) : wid n = 1 := if_pos h
theorem wid_2 {n : Int} (h0 : 128 ≤ n) (h : n ≤ 2047) : wid n = 2 := by unfold wid; rw [if_neg (by omega), if_pos h]
theorem wid_3 {n : Int} (h0 : 2048 ≤ n) (h : n ≤ 65535) : wid n = 3 := by unfold wid; rw [if_neg (by omega), if_neg (by omega), if_pos h]
theorem wid_4 {n : Int} (h0 : 65536 ≤ n) : wid n = 4 := by unfold wid; rw [if_neg (by omega), if_neg (by omega), if_neg (by omega)]
theorem of_wid_2 {n : Int} (h : wid n = 2) : 128 ≤ n ∧ n ≤ 2047 := by
  unfold wid at h; (repeat' split at h) <;> omega
theorem of_wid_3 {n : Int} (h : wid n = 3) : 2048 ≤ n ∧ n ≤ 65535 := by
  unfold wid at h; (repeat' split at h) <;> omega
theorem of_wid_4 {n : Int} (h : wid n = 4) : 65536 ≤ n := by
  unfold wid at h; (repeat' split at h) <;> omega
theorem follows_true {b : Int} : followsB b = true ↔ 128 ≤ b ∧ b < 192 := by simp [followsB]

/-- What begins with a sign's bytes is read so. -/
theorem dec_of_sign {l : List Int} {n : Int} (h : IsSign l n) : dec l = some n := by
  have hr := h.1
  obtain ⟨h0, h1, h2, t, h⟩ := sign_cases h
  rcases h with ⟨a, rfl⟩ | ⟨a, b, rfl⟩ | ⟨a, b, rfl⟩ | ⟨a, rfl⟩
  · exact dec_1 (by omega)
  · have e : (192 + n / 64 - 192) * 64 + (128 + n % 64) % 64 = n := by omega
    have f1 : followsB (128 + n % 64) = true := follows_true.2 (by omega)
    have f2 : okB 2 n = true := okB_true.2 ⟨hr, wid_2 a b⟩
    rw [dec_2 (by omega) (by omega)]
    simp only [dec2, e, f1, f2, Bool.and_self, if_true]
  · have e : ((224 + n / 64 / 64 - 224) * 64 + (128 + n / 64 % 64) % 64) * 64 + (128 + n % 64) % 64 = n := by omega
    have f1 : followsB (128 + n % 64) = true := follows_true.2 (by omega)
    have f2 : followsB (128 + n / 64 % 64) = true := follows_true.2 (by omega)
    have f3 : okB 3 n = true := okB_true.2 ⟨hr, wid_3 a b⟩
    rw [dec_3 (by omega) (by omega)]
    simp only [dec3, e, f1, f2, f3, Bool.and_self, if_true]
  · have e : (((240 + n / 64 / 64 / 64 - 240) * 64 + (128 + n / 64 / 64 % 64) % 64) * 64 + (128 + n / 64 % 64) % 64) * 64 + (128 + n % 64) % 64 = n := by omega
    have f1 : followsB (128 + n % 64) = true := follows_true.2 (by omega)
    have f2 : followsB (128 + n / 64 % 64) = true := follows_true.2 (by omega)
    have f3 : followsB (128 + n / 64 / 64 % 64) = true := follows_true.2 (by omega)
    have f4 : okB 4 n = true := okB_true.2 ⟨hr, wid_4 a⟩
    rw [dec_4 (by omega) (by omega)]
    simp only [dec4, e, f1, f2, f3, f4, Bool.and_self, if_true]

theorem sign_of_dec {l : List Int} {n : Int} (hl : ∀ b, l.head? = some b → 0 ≤ b) (h : dec l = some n) : IsSign l n := by
  match l, hl, h with
  | b :: t, hl, h =>
    have hb := hl b rfl
    rw [dec_cons] at h
    split at h
    · obtain rfl := Option.some.inj h
      exact ⟨rightB_true.2 (by omega), t, by rw [encI_1 (by omega)]; rfl⟩
    · split at h
      · cases h
      · split at h
        · unfold dec4 at h
          split at h
          · rename_i c1 c2 c3 u
            split at h
            · rename_i hc
              simp only [Bool.and_eq_true] at hc
              obtain ⟨f1, f2, f3, f4⟩ := hc
              rw [follows_true] at f1 f2 f3
              obtain ⟨g1, g2⟩ := okB_true.1 f4
              have e := Option.some.inj h
              rw [e] at g1 g2
              have g3 := of_wid_4 g2
              refine ⟨g1, u, ?_⟩
              rw [encI_4 g3]
              have e1 : b = 240 + n / 64 / 64 / 64 := by omega
              have e2 : c1 = 128 + n / 64 / 64 % 64 := by omega
              have e3 : c2 = 128 + n / 64 % 64 := by omega
              have e4 : c3 = 128 + n % 64 := by omega
              rw [← e1, ← e2, ← e3, ← e4]; rfl
            · cases h
          · cases h
        · split at h
          · unfold dec3 at h
            split at h
            · rename_i c1 c2 u
              split at h
              · rename_i hc
                simp only [Bool.and_eq_true] at hc
                obtain ⟨f1, f2, f4⟩ := hc
                rw [follows_true] at f1 f2
                obtain ⟨g1, g2⟩ := okB_true.1 f4
                have e := Option.some.inj h
                rw [e] at g1 g2
                have g3 := of_wid_3 g2
                refine ⟨g1, u, ?_⟩
                rw [encI_3 g3.1 g3.2]
                have e1 : b = 224 + n / 64 / 64 := by omega
                have e3 : c1 = 128 + n / 64 % 64 := by omega
                have e4 : c2 = 128 + n % 64 := by omega
                rw [← e1, ← e3, ← e4]; rfl
              · cases h
            · cases h
          · unfold dec2 at h
            split at h
            · rename_i c1 u
              split at h
              · rename_i hc
                simp only [Bool.and_eq_true] at hc
                obtain ⟨f1, f4⟩ := hc
                rw [follows_true] at f1
                obtain ⟨g1, g2⟩ := okB_true.1 f4
                have e := Option.some.inj h
                rw [e] at g1 g2
                have g3 := of_wid_2 g2
                refine ⟨g1, u, ?_⟩
                rw [encI_2 g3.1 g3.2]
                have e1 : b = 192 + n / 64 := by omega
                have e4 : c1 = 128 + n % 64 := by omega
                rw [← e1, ← e4]; rfl
              · cases h
            · cases h

theorem sign_unique {l : List Int} {n m : Int} (h : IsSign l n) (k : IsSign l m) : n = m :=
  Option.some.inj ((dec_of_sign h).symm.trans (dec_of_sign k))

end Go.Proofs.YtmaomnpanfdjeaaDoor
