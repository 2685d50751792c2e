/- How long a right tree's text is. No program. -/
import Derived.Test.YtmaomnpanfdjeaaDoorPrP
namespace Go.Proofs.YtmaomnpanfdjeaaDoor
open Go.RowKit
set_option linter.unusedVariables false
set_option maxRecDepth 100000

theorem nm_40 {s : ByteArray} (h : nmB s = true) : s.size ≤ 40 := by
  unfold nmB at h
  obtain ⟨ns, hn⟩ := @of_decide_eq_true _ (Classical.propDecidable _) h
  exact hn.size
theorem low_40 {s : ByteArray} (h : (lowB s || nmB s) = true) : s.size ≤ 40 := by
  cases hl : lowB s with
  | true =>
    have := congrArg List.length (show s.toList = [95] by unfold lowB at hl; simpa using hl)
    have e : s.toList.length = s.size := by rw [ByteArray.toList_eq]; rfl
    rw [e] at this
    rw [this]; decide
  | false => rw [hl] at h; exact nm_40 h
theorem set_len {n : Int} (h0 : 0 ≤ n) (h7 : n ≤ 7) : (setX n).length ≤ 5 := by
  unfold setX
  split
  · decide
  · have h1 := digs_lt 0 n.toNat (by omega)
    rw [digs_length, ← Lib.decDigits_length] at h1
    simp; omega
theorem bind_len (s : ByteArray) (X : Tx) : (bindX (tx s) X).length = s.size + X.length + 5 := by
  unfold bindX typedX
  simp [tx_length]
  have := tx_length s
  omega
theorem exprX_len (t : RT) : goodB t false = true → ∀ lv, (exprX t lv).length ≤ 60 * t.size := by
  induction t using RT.ind with
  | h k a s n l ih =>
    intro hgd lv
    have hin : (innerX k s n (exprXL l)).length + 2 ≤ 60 * (RT.node k a s n l).size := by
      rw [size_node]
      rcases good_cases hgd with ⟨rfl, rfl, hn⟩ | ⟨rfl, rfl, h0, h7⟩ | ⟨hk, hn, t, u, rfl, gt, gu⟩ | ⟨rfl, t, u, rfl, gt, gu⟩
      · have := nm_40 hn
        unfold innerX
        rw [if_pos rfl, tx_length]; omega
      · have := set_len h0 h7
        unfold innerX
        rw [if_neg (by decide), if_pos rfl]; omega
      · have e0 : ∀ lv, subT (exprXL [t, u]) 0 lv = exprX t lv := fun lv => exprXL_at [t, u] 0 (by simp) lv
        have e1 : ∀ lv, subT (exprXL [t, u]) 1 lv = exprX u lv := fun lv => exprXL_at [t, u] 1 (by simp) lv
        have ht := fun lv => ih t (by simp) gt lv
        have hu := fun lv => ih u (by simp) gu lv
        have hs := low_40 hn
        have hz : sizeL [t, u] = t.size + u.size := by rw [sizeL_cons, sizeL_cons, sizeL_nil]; omega
        rw [hz]
        unfold innerX
        have a1 := ht 0
        have a2 := ht 1
        have a3 := hu 0
        rcases hk with rfl | rfl
        · rw [if_neg (by decide), if_neg (by decide), if_neg (by decide)]
          split
          · rw [e0, e1]; simp; omega
          · rw [if_neg (by decide), e0, e1, List.length_append, bind_len]; simp; omega
        · rw [if_neg (by decide), if_neg (by decide), if_neg (by decide), if_neg (fun h => absurd h.1 (by decide)), if_pos rfl, e0, e1, List.length_append, List.length_append, bind_len]; simp; omega
      · have e0 : ∀ lv, subT (exprXL [t, u]) 0 lv = exprX t lv := fun lv => exprXL_at [t, u] 0 (by simp) lv
        have e1 : ∀ lv, subT (exprXL [t, u]) 1 lv = exprX u lv := fun lv => exprXL_at [t, u] 1 (by simp) lv
        have a1 := ih t (by simp) gt 1
        have a2 := ih u (by simp) gu 2
        have hz : sizeL [t, u] = t.size + u.size := by rw [sizeL_cons, sizeL_cons, sizeL_nil]; omega
        rw [hz]
        unfold innerX
        rw [if_neg (by decide), if_neg (by decide), if_pos rfl, e0, e1]; simp; omega
    rw [exprX_node]
    split
    · simp; omega
    · omega
theorem patXL_len : ∀ (l : List RT), (∀ t ∈ l, goodB t true = true → (patX t).length + 1 ≤ 60 * t.size) → goodL l true = true → (patXL l).length ≤ 60 * sizeL l
  | [], _, _ => by rw [patXL_nil]; simp
  | t :: r, h, hg => by
    rw [goodL_all, List.all_cons, Bool.and_eq_true] at hg
    have h1 := h t (by simp) hg.1
    have h2 := patXL_len r (fun u hu => h u (List.mem_cons_of_mem _ hu)) (by rw [goodL_all]; exact hg.2)
    rw [patXL_cons, sizeL_cons]
    simp; omega
theorem patX_len (t : RT) : goodB t true = true → (patX t).length + 1 ≤ 60 * t.size := by
  induction t using RT.ind with
  | h k a s n l ih =>
    intro hgd
    rw [patX_node, size_node]
    rcases good_pats hgd with ⟨rfl, rfl, hn⟩ | ⟨rfl, rfl⟩ | ⟨rfl, rfl⟩ | ⟨rfl, t, rfl, gt⟩ | ⟨rfl, hn, hl, gl⟩
    · have := nm_40 hn
      rw [if_pos rfl, tx_length]; omega
    · rw [if_neg (by decide), if_pos rfl]; simp; omega
    · rw [if_neg (by decide), if_neg (by decide), if_pos rfl]; simp; omega
    · have h1 := exprX_len t gt 2
      have hz : sizeL [t] = t.size := by rw [sizeL_cons, sizeL_nil]; omega
      rw [if_neg (by decide), if_neg (by decide), if_neg (by decide), if_pos rfl, exprXL_at [t] 0 (by simp) 2, hz]
      simp; omega
    · have h1 := patXL_len l ih gl
      have h2 := nm_40 hn
      rw [if_neg (by decide), if_neg (by decide), if_neg (by decide), if_neg (by decide)]
      simp [tx_length]
      have := tx_length s
      omega

end Go.Proofs.YtmaomnpanfdjeaaDoor
