/- utf.Next reads, at any place of any bytes, the sign whose bytes begin there, or answers ErrForm: the cases put together. For every string shorter than 2^63 bytes and every offset. -/
import Derived.Test.YtmaomnpanfdjeaaDoorNextW
namespace Go.Proofs.YtmaomnpanfdjeaaDoor
open Go.RowKit
set_option maxRecDepth 100000

/-- What utf.Next answers. -/
def nextV : Option Int → Value
  | none => .tuple #[.int .i64 0, .int .i64 0, .int .i64 1]
  | some n => .tuple #[.int .i64 n, .int .i64 (wid n), .int .i64 0]

theorem nextV_some (n : Int) : nextV (some n) = .tuple #[.int .i64 n, .int .i64 (wid n), .int .i64 0] := rfl
theorem dec4_cons (b c1 c2 c3 : Int) (t : List Int) : dec4 b (c1 :: c2 :: c3 :: t) = if followsB c1 && (followsB c2 && (followsB c3 && okB 4 ((((b - 240) * 64 + c1 % 64) * 64 + c2 % 64) * 64 + c3 % 64))) then some ((((b - 240) * 64 + c1 % 64) * 64 + c2 % 64) * 64 + c3 % 64) else none := rfl
theorem dec3_cons (b c1 c2 : Int) (t : List Int) : dec3 b (c1 :: c2 :: t) = if followsB c1 && (followsB c2 && okB 3 (((b - 224) * 64 + c1 % 64) * 64 + c2 % 64)) then some (((b - 224) * 64 + c1 % 64) * 64 + c2 % 64) else none := rfl
theorem dec2_cons (b c1 : Int) (t : List Int) : dec2 b (c1 :: t) = if followsB c1 && okB 2 ((b - 192) * 64 + c1 % 64) then some ((b - 192) * 64 + c1 % 64) else none := rfl

theorem next_any (s : ByteArray) (k : Nat) (w : World) (hs : s.size ≤ 9223372036854775807) (hk : k < s.size) :
    Calls Tryd.prog 79 #[.string s, .int .i64 k] w fun e w' => e = .returned (nextV (dec ((bytesL s).drop k))) ∧ Below w.heap.size w w' := by
  have hb0 := byt_eq s k hk
  have lo := byt_lo s k
  have hi := byt_hi s k
  rw [drop_byt s k hk]
  generalize byt s k = b0 at *
  by_cases c1 : b0 < 128
  · rw [dec_1 c1]
    rw [nextV_some, wid_1 (show b0 ≤ 127 by omega)]
    exact nx1_ok s k w hs hk b0 hb0 lo c1
  by_cases c2 : b0 < 192 ∨ 248 ≤ b0
  · rw [dec_0 (by omega)]
    exact nx_0 s k w hs hk b0 hb0 lo hi (by omega)
  by_cases d4 : 240 ≤ b0
  · rw [dec_4 d4 (by omega)]
    by_cases hm : k + 4 ≤ s.size
    · rw [drop_byt s (k + 1) (by omega), drop_byt s (k + 1 + 1) (by omega), drop_byt s (k + 1 + 1 + 1) (by omega)]
      obtain ⟨x1, e1⟩ : ∃ x, byt s (k + 1 + 0) = x := ⟨_, rfl⟩
      have l1 : 0 ≤ x1 := e1 ▸ byt_lo s _
      have h1 : x1 ≤ 255 := e1 ▸ byt_hi s _
      obtain ⟨x2, e2⟩ : ∃ x, byt s (k + 1 + 1) = x := ⟨_, rfl⟩
      have l2 : 0 ≤ x2 := e2 ▸ byt_lo s _
      have h2 : x2 ≤ 255 := e2 ▸ byt_hi s _
      obtain ⟨x3, e3⟩ : ∃ x, byt s (k + 1 + 2) = x := ⟨_, rfl⟩
      have l3 : 0 ≤ x3 := e3 ▸ byt_lo s _
      have h3 : x3 ≤ 255 := e3 ▸ byt_hi s _
      rw [show byt s (k + 1) = x1 from e1, show byt s (k + 1 + 1) = x2 from e2, show byt s (k + 1 + 1 + 1) = x3 from e3]
      cases f1 : followsB x1 with
      | false =>
        have hc : ¬ (followsB x1 && (followsB x2 && (followsB x3 && okB 4 ((((b0 - 240) * 64 + x1 % 64) * 64 + x2 % 64) * 64 + x3 % 64)))) = true := by simp [f1]
        rw [dec4_cons, if_neg hc]
        exact nx4_f1 s k w hs hk b0 hb0 d4 (by omega) hm x1 x2 x3 e1 l1 h1 e2 l2 h2 e3 l3 h3 f1
      | true =>
        cases f2 : followsB x2 with
        | false =>
          have hc : ¬ (followsB x1 && (followsB x2 && (followsB x3 && okB 4 ((((b0 - 240) * 64 + x1 % 64) * 64 + x2 % 64) * 64 + x3 % 64)))) = true := by simp [f1, f2]
          rw [dec4_cons, if_neg hc]
          exact nx4_f2 s k w hs hk b0 hb0 d4 (by omega) hm x1 x2 x3 e1 l1 h1 e2 l2 h2 e3 l3 h3 f1 f2
        | true =>
          cases f3 : followsB x3 with
          | false =>
            have hc : ¬ (followsB x1 && (followsB x2 && (followsB x3 && okB 4 ((((b0 - 240) * 64 + x1 % 64) * 64 + x2 % 64) * 64 + x3 % 64)))) = true := by simp [f1, f2, f3]
            rw [dec4_cons, if_neg hc]
            exact nx4_f3 s k w hs hk b0 hb0 d4 (by omega) hm x1 x2 x3 e1 l1 h1 e2 l2 h2 e3 l3 h3 f1 f2 f3
          | true =>
            cases hr : rightB ((((b0 - 240) * 64 + x1 % 64) * 64 + x2 % 64) * 64 + x3 % 64) with
            | false =>
              have hc : ¬ (followsB x1 && (followsB x2 && (followsB x3 && okB 4 ((((b0 - 240) * 64 + x1 % 64) * 64 + x2 % 64) * 64 + x3 % 64)))) = true := by simp [okB, hr]
              rw [dec4_cons, if_neg hc]
              exact nx4_r s k w hs hk b0 hb0 d4 (by omega) hm x1 x2 x3 e1 l1 h1 e2 l2 h2 e3 l3 h3 f1 f2 f3 hr
            | true =>
              by_cases hw : wid ((((b0 - 240) * 64 + x1 % 64) * 64 + x2 % 64) * 64 + x3 % 64) = 4
              · have hc : (followsB x1 && (followsB x2 && (followsB x3 && okB 4 ((((b0 - 240) * 64 + x1 % 64) * 64 + x2 % 64) * 64 + x3 % 64)))) = true := by simp [f1, f2, f3, okB, hr, hw]
                rw [dec4_cons, if_pos hc]
                rw [nextV_some, hw]
                exact nx4_ok s k w hs hk b0 hb0 d4 (by omega) hm x1 x2 x3 e1 l1 h1 e2 l2 h2 e3 l3 h3 f1 f2 f3 hr hw
              · have hc : ¬ (followsB x1 && (followsB x2 && (followsB x3 && okB 4 ((((b0 - 240) * 64 + x1 % 64) * 64 + x2 % 64) * 64 + x3 % 64)))) = true := by simp [okB, hw]
                rw [dec4_cons, if_neg hc]
                exact nx4_w s k w hs hk b0 hb0 d4 (by omega) hm x1 x2 x3 e1 l1 h1 e2 l2 h2 e3 l3 h3 f1 f2 f3 hr hw
    · have e : dec4 b0 ((bytesL s).drop (k + 1)) = none := by
        have hl : ((bytesL s).drop (k + 1)).length < 3 := by rw [List.length_drop, bytesL_length]; omega
        match (bytesL s).drop (k + 1), hl with
        | [], _ => rfl
        | [_], _ => rfl
        | [_, _], _ => rfl
      rw [e]
      exact nx4_short s k w hs hk b0 hb0 d4 (by omega) (by omega)
  by_cases d3 : 224 ≤ b0
  · rw [dec_3 d3 (by omega)]
    by_cases hm : k + 3 ≤ s.size
    · rw [drop_byt s (k + 1) (by omega), drop_byt s (k + 1 + 1) (by omega)]
      obtain ⟨x1, e1⟩ : ∃ x, byt s (k + 1 + 0) = x := ⟨_, rfl⟩
      have l1 : 0 ≤ x1 := e1 ▸ byt_lo s _
      have h1 : x1 ≤ 255 := e1 ▸ byt_hi s _
      obtain ⟨x2, e2⟩ : ∃ x, byt s (k + 1 + 1) = x := ⟨_, rfl⟩
      have l2 : 0 ≤ x2 := e2 ▸ byt_lo s _
      have h2 : x2 ≤ 255 := e2 ▸ byt_hi s _
      rw [show byt s (k + 1) = x1 from e1, show byt s (k + 1 + 1) = x2 from e2]
      cases f1 : followsB x1 with
      | false =>
        have hc : ¬ (followsB x1 && (followsB x2 && okB 3 (((b0 - 224) * 64 + x1 % 64) * 64 + x2 % 64))) = true := by simp [f1]
        rw [dec3_cons, if_neg hc]
        exact nx3_f1 s k w hs hk b0 hb0 d3 (by omega) hm x1 x2 e1 l1 h1 e2 l2 h2 f1
      | true =>
        cases f2 : followsB x2 with
        | false =>
          have hc : ¬ (followsB x1 && (followsB x2 && okB 3 (((b0 - 224) * 64 + x1 % 64) * 64 + x2 % 64))) = true := by simp [f1, f2]
          rw [dec3_cons, if_neg hc]
          exact nx3_f2 s k w hs hk b0 hb0 d3 (by omega) hm x1 x2 e1 l1 h1 e2 l2 h2 f1 f2
        | true =>
          cases hr : rightB (((b0 - 224) * 64 + x1 % 64) * 64 + x2 % 64) with
          | false =>
            have hc : ¬ (followsB x1 && (followsB x2 && okB 3 (((b0 - 224) * 64 + x1 % 64) * 64 + x2 % 64))) = true := by simp [okB, hr]
            rw [dec3_cons, if_neg hc]
            exact nx3_r s k w hs hk b0 hb0 d3 (by omega) hm x1 x2 e1 l1 h1 e2 l2 h2 f1 f2 hr
          | true =>
            by_cases hw : wid (((b0 - 224) * 64 + x1 % 64) * 64 + x2 % 64) = 3
            · have hc : (followsB x1 && (followsB x2 && okB 3 (((b0 - 224) * 64 + x1 % 64) * 64 + x2 % 64))) = true := by simp [f1, f2, okB, hr, hw]
              rw [dec3_cons, if_pos hc]
              rw [nextV_some, hw]
              exact nx3_ok s k w hs hk b0 hb0 d3 (by omega) hm x1 x2 e1 l1 h1 e2 l2 h2 f1 f2 hr hw
            · have hc : ¬ (followsB x1 && (followsB x2 && okB 3 (((b0 - 224) * 64 + x1 % 64) * 64 + x2 % 64))) = true := by simp [okB, hw]
              rw [dec3_cons, if_neg hc]
              exact nx3_w s k w hs hk b0 hb0 d3 (by omega) hm x1 x2 e1 l1 h1 e2 l2 h2 f1 f2 hr hw
    · have e : dec3 b0 ((bytesL s).drop (k + 1)) = none := by
        have hl : ((bytesL s).drop (k + 1)).length < 2 := by rw [List.length_drop, bytesL_length]; omega
        match (bytesL s).drop (k + 1), hl with
        | [], _ => rfl
        | [_], _ => rfl
      rw [e]
      exact nx3_short s k w hs hk b0 hb0 d3 (by omega) (by omega)
  by_cases d2 : 192 ≤ b0
  · rw [dec_2 d2 (by omega)]
    by_cases hm : k + 2 ≤ s.size
    · rw [drop_byt s (k + 1) (by omega)]
      obtain ⟨x1, e1⟩ : ∃ x, byt s (k + 1 + 0) = x := ⟨_, rfl⟩
      have l1 : 0 ≤ x1 := e1 ▸ byt_lo s _
      have h1 : x1 ≤ 255 := e1 ▸ byt_hi s _
      rw [show byt s (k + 1) = x1 from e1]
      cases f1 : followsB x1 with
      | false =>
        have hc : ¬ (followsB x1 && okB 2 ((b0 - 192) * 64 + x1 % 64)) = true := by simp [f1]
        rw [dec2_cons, if_neg hc]
        exact nx2_f1 s k w hs hk b0 hb0 d2 (by omega) hm x1 e1 l1 h1 f1
      | true =>
        cases hr : rightB ((b0 - 192) * 64 + x1 % 64) with
        | false =>
          have hc : ¬ (followsB x1 && okB 2 ((b0 - 192) * 64 + x1 % 64)) = true := by simp [okB, hr]
          rw [dec2_cons, if_neg hc]
          exact nx2_r s k w hs hk b0 hb0 d2 (by omega) hm x1 e1 l1 h1 f1 hr
        | true =>
          by_cases hw : wid ((b0 - 192) * 64 + x1 % 64) = 2
          · have hc : (followsB x1 && okB 2 ((b0 - 192) * 64 + x1 % 64)) = true := by simp [f1, okB, hr, hw]
            rw [dec2_cons, if_pos hc]
            rw [nextV_some, hw]
            exact nx2_ok s k w hs hk b0 hb0 d2 (by omega) hm x1 e1 l1 h1 f1 hr hw
          · have hc : ¬ (followsB x1 && okB 2 ((b0 - 192) * 64 + x1 % 64)) = true := by simp [okB, hw]
            rw [dec2_cons, if_neg hc]
            exact nx2_w s k w hs hk b0 hb0 d2 (by omega) hm x1 e1 l1 h1 f1 hr hw
    · have e : dec2 b0 ((bytesL s).drop (k + 1)) = none := by
        have hl : ((bytesL s).drop (k + 1)).length < 1 := by rw [List.length_drop, bytesL_length]; omega
        match (bytesL s).drop (k + 1), hl with
        | [], _ => rfl
      rw [e]
      exact nx2_short s k w hs hk b0 hb0 d2 (by omega) (by omega)
  omega

end Go.Proofs.YtmaomnpanfdjeaaDoor
