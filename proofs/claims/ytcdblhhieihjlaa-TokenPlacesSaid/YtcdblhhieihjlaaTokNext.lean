/- token.next: the token that begins at an offset: a word, a mark. In terms of facts on the text there; nothing that was there is written. -/
import Derived.Test.YtcdblhhieihjlaaTok
namespace Go.Proofs.Ytcdblhhieihjlaa
open Go.RowKit
set_option linter.unusedVariables false

/-- A token, as the program holds it. -/
def tokV (k : Int) (t : ByteArray) (a : Nat) : Value := .agg #[.int .i64 k, .string t, .int .i64 a]

/-- The cell of a result that is a token, behind calls that lay new blocks alone. -/
theorem tok_cells {w w2 : World} (hb : Below (w.heap.size + 1) (w.alloc (.cells #[.int .i64 0, .string ⟨#[]⟩, .int .i64 0] 36)) w2) :
    (w2.cell? ⟨w.heap.size, 0, none⟩ = some (.int .i64 0) ∧ w2.cell? ⟨w.heap.size, 1, none⟩ = some (.string ⟨#[]⟩) ∧ w2.cell? ⟨w.heap.size, 2, none⟩ = some (.int .i64 0)) ∧
    (w2.frozen? ⟨w.heap.size, 0, none⟩ = false ∧ w2.frozen? ⟨w.heap.size, 1, none⟩ = false ∧ w2.frozen? ⟨w.heap.size, 2, none⟩ = false) ∧ w.heap.size < w2.heap.size ∧ Below w.heap.size w w2 := by
  have z : ∀ j, w2.frozen? ⟨w.heap.size, j, none⟩ = false := fun j => (hb.frozen (p := ⟨w.heap.size, j, none⟩) (by simp)).trans (by simp)
  have c : ∀ j, w2.cell? ⟨w.heap.size, j, none⟩ = _ := fun j => hb.cell (p := ⟨w.heap.size, j, none⟩) (by simp)
  refine ⟨⟨(c 0).trans (by simp), (c 1).trans (by simp), (c 2).trans (by simp)⟩, ⟨z 0, z 1, z 2⟩, ?_, ?_⟩
  · have := hb.size; simp at this; omega
  · exact ((Below.refl _ w).alloc (Nat.le_refl _) _).trans (hb.mono (by omega))

theorem next_mark (s t u : ByteArray) (a m : Nat) (n : Int) (w : World) (ha : a < s.size) (hs : s.size ≤ 65535) (ht : s.extract a s.size = t) (hp : preB t ⟨#[123, 45]⟩ = false) (hd : dec (bytesL t) = some n) (hw : withinB n = false)
    (hm : MarkIs t u m) (hm0 : 0 < m) (hm1 : m ≤ 4) : Calls Try.prog 19 #[.string s, .int .i64 a] w fun e w' => e = .returned (.tuple #[tokV 4 u a, .int .i64 m]) ∧ Below w.heap.size w w' := by
  have hz : t.size = s.size - a := by rw [← ht]; simp
  have ht0 : 0 < t.size := by omega
  have ht1 : t.size ≤ 65535 := by omega
  have HT := Lib.hid ht
  have HP := Lib.hid hp
  have HD := Lib.hid hd
  have HW := Lib.hid hw
  have HM := Lib.hid hm
  have tm : ((m : Int) == 0) = false := by simp; omega
  clear ht hp hd hw hm hz
  go_enter Try.func19, Try.ntmps19
  go_wp2_with fail
  rw [HT.out]
  refine (next_any t 0 _ (by omega) ht0).mono ?_; rintro e w1 ⟨rfl, hb1⟩
  rw [List.drop_zero, HD.out, nextV_some]
  go_wp2_with fail
  refine (pre_any _ _ _).mono ?_; rintro e w2 ⟨rfl, rfl⟩
  rw [HP.out]
  go_wp2_with fail
  refine (tWithin_any _ _).mono ?_; rintro e w2 ⟨rfl, rfl⟩
  rw [HW.out]
  go_wp2_with fail
  refine (HM.out _).mono ?_; rintro e w2 ⟨rfl, hb2⟩
  have hb1' : Below (w.heap.size + 1) (w.alloc (.cells #[.int .i64 0, .string ⟨#[]⟩, .int .i64 0] 36)) w1 := by first | exact hb1 | simpa using hb1
  have hb3 := hb1'.trans (hb2.mono (by have := hb1'.size; simpa using this))
  obtain ⟨⟨q0, q1, q2⟩, ⟨z0, z1, z2⟩, hlt, hB⟩ := tok_cells hb3
  clear hb1 hb1' hb2 hb3
  go_wp2_with fail
  exact bodyPost_ret (v := .tuple #[.agg #[.int .i64 4, .string u, .int .i64 a], .int .i64 m]) (by simp [results, Try.results19, go_sem, q0, q1, q2]) rfl
    ⟨rfl, ((hB.setCell (Nat.le_refl _) _).setCell (Nat.le_refl _) _).setCell (Nat.le_refl _) _⟩

theorem next_word (s t u : ByteArray) (a m : Nat) (k n : Int) (w : World) (ha : a < s.size) (hs : s.size ≤ 65535) (ht : s.extract a s.size = t) (hp : preB t ⟨#[123, 45]⟩ = false) (hd : dec (bytesL t) = some n) (hw : withinB n = true)
    (hr : RunIs t u) (hk : WordIs u k) (hm : u.size = m) (hm0 : 0 < m) (hm1 : m ≤ 65535) (hk0 : (k == 0) = false) : Calls Try.prog 19 #[.string s, .int .i64 a] w fun e w' => e = .returned (.tuple #[tokV k u a, .int .i64 m]) ∧ Below w.heap.size w w' := by
  have hz : t.size = s.size - a := by rw [← ht]; simp
  have ht0 : 0 < t.size := by omega
  have ht1 : t.size ≤ 65535 := by omega
  have HT := Lib.hid ht
  have HP := Lib.hid hp
  have HD := Lib.hid hd
  have HW := Lib.hid hw
  have HR := Lib.hid hr
  have HK := Lib.hid hk
  have tm : ((m : Int) == 0) = false := by simp; omega
  clear ht hp hd hw hr hk hz
  go_enter Try.func19, Try.ntmps19
  go_wp2_with fail
  rw [HT.out]
  refine (next_any t 0 _ (by omega) ht0).mono ?_; rintro e w1 ⟨rfl, hb1⟩
  rw [List.drop_zero, HD.out, nextV_some]
  go_wp2_with fail
  refine (pre_any _ _ _).mono ?_; rintro e w2 ⟨rfl, rfl⟩
  rw [HP.out]
  go_wp2_with fail
  refine (tWithin_any _ _).mono ?_; rintro e w2 ⟨rfl, rfl⟩
  rw [HW.out]
  go_wp2_with fail
  refine (HR.out _).mono ?_; rintro e w2 ⟨rfl, hb2⟩
  go_wp2_with fail
  refine (HK.out _).mono ?_; rintro e w3 ⟨rfl, hb3⟩
  have hb1' : Below (w.heap.size + 1) (w.alloc (.cells #[.int .i64 0, .string ⟨#[]⟩, .int .i64 0] 36)) w1 := by first | exact hb1 | simpa using hb1
  have hb4 := hb1'.trans (hb2.mono (by have := hb1'.size; simpa using this))
  have hb5 := hb4.trans (hb3.mono (by have := hb4.size; simpa using this))
  obtain ⟨⟨q0, q1, q2⟩, ⟨z0, z1, z2⟩, hlt, hB⟩ := tok_cells hb5
  clear hb1 hb1' hb2 hb3 hb4 hb5
  go_wp2_with fail
  exact bodyPost_ret (v := .tuple #[.agg #[.int .i64 k, .string u, .int .i64 a], .int .i64 m]) (by simp [results, Try.results19, go_sem, q0, q1, q2]) rfl
    ⟨rfl, ((hB.setCell (Nat.le_refl _) _).setCell (Nat.le_refl _) _).setCell (Nat.le_refl _) _⟩

end Go.Proofs.Ytcdblhhieihjlaa
