/- What parse says of the texts that the law ParseLimits reads. No walk. -/
import Derived.Test.YtkccjfbgepmfkaaLim0
namespace Go.Proofs.Ytkccjfbgepmfkaa
open Go.RowKit
set_option linter.unusedVariables false
set_option maxRecDepth 100000

theorem text_cut {u : ByteArray} {p : Pc} {P : List Pc} (hu : bytesL u = pcsL (p :: P)) (ok : okPc (p :: P) = true) (ha : ascB (pcsL (p :: P)) = true) (hm : (p :: P).length ≤ 8192) :
    Parse (bytesL u) (bytesL u) [] ∧ Lex u (skipL (bytesL u)) 0 (toksPc (p :: P) 0) u.size 0 := by
  obtain ⟨e1, e2⟩ := asc_enc (l := bytesL u) (by rw [hu]; exact ha)
  have hs : skipL (bytesL u) = 0 := skipL_stop (tok_gap (okPc_tok (k := p.1) (u := p.2.1) (g := p.2.2) ok hu))
  exact ⟨⟨by rw [e1, List.append_nil], e2, rfl⟩, by rw [hs]; exact lex_run _ u 0 0 ok (Nat.zero_le _) (by rw [List.drop_zero]; exact hu) (by omega)⟩
theorem limE_says {u : ByteArray} {m : Nat} {e f : Int} (hu : bytesL u = pcsL (limE (m + 1))) (ok : okPc (limE (m + 1)) = true) (ha : ascB (pcsL (limE (m + 1))) = true) (hl : (pcsL (limE (m + 1))).length = 2 * (m + 1) + 1) (hm : m ≤ 200) (hb : limB (m + 1) e f = true) :
    ∃ t z, z.e = e ∧ z.f = f ∧ ∀ w, Calls Try.prog 9 #[.string u] w (ExprOut t z u.size w) := by
  have hz : u.size = 2 * (m + 1) + 1 := by rw [← bytesL_length, hu, hl]
  obtain ⟨hp, hx⟩ := text_cut (p := (1, limF, 1)) (P := List.replicate m (1, limX, 1) ++ [(1, limX, 0)]) hu ok ha (by simp; omega)
  unfold limB at hb
  split at hb
  · rename_i t s' hr
    simp only [Bool.and_eq_true, decide_eq_true_eq] at hb
    have hr := exprC_sound hr
    unfold limL at hr hb
    rw [← hz] at hr hb
    exact ⟨t, _, hb.1, hb.2, fun w => expr_of (by omega) hp hx hr⟩
  · cases hb

theorem limP_says {u : ByteArray} {m n : Nat} {e f : Int} (hu : bytesL u = pcsL (limP (m + 1))) (ok : okPc (limP (m + 1)) = true) (ha : ascB (pcsL (limP (m + 1))) = true) (hl : (pcsL (limP (m + 1))).length = 2 * (m + 1)) (hm : m ≤ 200) (hb : limPB (m + 1) n e f = true) :
    ∃ l z, z.e = e ∧ z.f = f ∧ l.length = n ∧ ∀ w, Calls Try.prog 10 #[.string u] w (PatsOut l z u.size w) := by
  have hz : u.size = 2 * (m + 1) := by rw [← bytesL_length, hu, hl]
  obtain ⟨hp, hx⟩ := text_cut (p := (1, limX, 1)) (P := List.replicate m (1, limX, 1)) hu ok ha (by simp; omega)
  unfold limPB at hb
  split at hb
  · rename_i t s' hr
    simp only [Bool.and_eq_true, decide_eq_true_eq] at hb
    have hr := patsC_sound hr
    unfold limPL at hr hb
    rw [← hz] at hr hb
    exact ⟨t, _, hb.2.1, hb.2.2, hb.1, fun w => pats_of (by omega) hp hx hr⟩
  · cases hb
theorem limD_says {u : ByteArray} {m n : Nat} {e f : Int} (hu : bytesL u = pcsL (limD m)) (ok : okPc (limD m) = true) (ha : ascB (pcsL (limD m)) = true) (hl : (pcsL (limD m)).length = 14 + 2 * m) (hlen : (limD m).length ≤ 8192) (hm : m ≤ 200) (hb : limDB m n e f = true) :
    ∃ d z, z.e = e ∧ z.f = f ∧ (d : DT).ro.length = n ∧ ∀ w, Calls Try.prog 7 #[.string u] w (DeclsOut [d] z u.size w) := by
  have hz : u.size = 14 + 2 * m := by rw [← bytesL_length, hu, hl]
  have he : limD m = (2, (⟨#[100, 101, 102]⟩ : ByteArray), 1) :: (limD m).tail := rfl
  have hpx : Parse (bytesL u) (bytesL u) [] ∧ Lex u (skipL (bytesL u)) 0 (toksPc (limD m) 0) u.size 0 := by
    rw [he] at hu ok ha hlen ⊢
    exact text_cut hu ok ha hlen
  obtain ⟨hp, hx⟩ := hpx
  unfold limDB at hb
  split at hb
  · rename_i l s' hr
    simp only [Bool.and_eq_true, decide_eq_true_eq] at hb
    obtain ⟨h1, h2, h3⟩ := hb
    split at h3
    · rename_i d
      have hr := fileC_sound hr
      unfold limDL at hr h1 h2
      rw [← hz] at hr h1 h2
      exact ⟨d, _, h1, h2, of_decide_eq_true h3, fun w => file_of (by omega) hp hx hr⟩
    · cases h3
  · cases hb
/-- The nine texts' plain facts. -/
theorem lim_asc : ∀ k, k < 3 → ascB (pcsL (limE (126 + k))) = true ∧ ascB (pcsL (limP (23 + k))) = true ∧ ascB (pcsL (limD (31 + k))) = true
  | 0, _ => ⟨by kernel_rfl, by kernel_rfl, by kernel_rfl⟩
  | 1, _ => ⟨by kernel_rfl, by kernel_rfl, by kernel_rfl⟩
  | 2, _ => ⟨by kernel_rfl, by kernel_rfl, by kernel_rfl⟩
  | k + 3, h => by omega
theorem lim_len : ∀ k, k < 3 → (pcsL (limE (126 + k))).length = 2 * (126 + k) + 1 ∧ (pcsL (limP (23 + k))).length = 2 * (23 + k) ∧ (pcsL (limD (31 + k))).length = 14 + 2 * (31 + k)
  | 0, _ => ⟨by kernel_rfl, by kernel_rfl, by kernel_rfl⟩
  | 1, _ => ⟨by kernel_rfl, by kernel_rfl, by kernel_rfl⟩
  | 2, _ => ⟨by kernel_rfl, by kernel_rfl, by kernel_rfl⟩
  | k + 3, h => by omega

end Go.Proofs.Ytkccjfbgepmfkaa
