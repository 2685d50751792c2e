/- The text that the law of parse reads to be awake: its tokens, what parse.File says of it. No walk. -/
import Derived.Test.YtkccjfbgepmfkaaB8
import Derived.Test.YtkccjfbgepmfkaaC3
namespace Go.Proofs.Ytkccjfbgepmfkaa
open Go.RowKit
set_option linter.unusedVariables false
set_option maxRecDepth 100000

def awT : ByteArray := ⟨#[100, 97, 116, 97, 32, 78, 32, 58, 32, 83, 101, 116, 32, 123, 32, 122, 32, 58, 32, 78, 59, 32, 115, 32, 58, 32, 78, 32, 45, 62, 32, 78, 59, 32, 125, 32, 100, 101, 102, 32, 112, 32, 58, 32, 78, 32, 45, 62, 32, 78, 32, 123, 32, 122, 32, 61, 32, 122, 59, 32, 40, 115, 32, 110, 41, 32, 61, 32, 110, 59, 32, 125]⟩
def awP : List Pc := [(2, ⟨#[100, 97, 116, 97]⟩, 1), (1, ⟨#[78]⟩, 1), (4, ⟨#[58]⟩, 1), (2, ⟨#[83, 101, 116]⟩, 1), (4, ⟨#[123]⟩, 1), (1, ⟨#[122]⟩, 1), (4, ⟨#[58]⟩, 1), (1, ⟨#[78]⟩, 0), (4, ⟨#[59]⟩, 1), (1, ⟨#[115]⟩, 1), (4, ⟨#[58]⟩, 1), (1, ⟨#[78]⟩, 1), (4, ⟨#[45, 62]⟩, 1), (1, ⟨#[78]⟩, 0), (4, ⟨#[59]⟩, 1), (4, ⟨#[125]⟩, 1), (2, ⟨#[100, 101, 102]⟩, 1), (1, ⟨#[112]⟩, 1), (4, ⟨#[58]⟩, 1), (1, ⟨#[78]⟩, 1), (4, ⟨#[45, 62]⟩, 1), (1, ⟨#[78]⟩, 1), (4, ⟨#[123]⟩, 1), (1, ⟨#[122]⟩, 1), (4, ⟨#[61]⟩, 1), (1, ⟨#[122]⟩, 0), (4, ⟨#[59]⟩, 1), (4, ⟨#[40]⟩, 0), (1, ⟨#[115]⟩, 1), (1, ⟨#[110]⟩, 0), (4, ⟨#[41]⟩, 1), (4, ⟨#[61]⟩, 1), (1, ⟨#[110]⟩, 0), (4, ⟨#[59]⟩, 1), (4, ⟨#[125]⟩, 0)]
def awL : List Tk := withEnd (toksPc awP 0) awT.size
theorem aw_bytes : bytesL awT = pcsL awP := by kernel_rfl
theorem aw_ok : okPc awP = true := by kernel_rfl
theorem aw_skip : skipL (bytesL awT) = 0 := skipL_stop (by kernel_rfl)
theorem aw_lex : Lex awT (skipL (bytesL awT)) 0 (toksPc awP 0) awT.size 0 := by
  rw [aw_skip]
  exact lex_run awP awT 0 0 aw_ok (Nat.zero_le _) (by rw [List.drop_zero]; exact aw_bytes) (by decide)
theorem aw_parse : Parse (bytesL awT) (bytesL awT) [] := by
  obtain ⟨e1, e2⟩ := asc_enc (l := bytesL awT) (by kernel_rfl)
  exact ⟨by rw [e1, List.append_nil], e2, rfl⟩
def awB : Bool := match fileC awL 30 s0 with
  | some ([d0, d1], s') => decide ((endS awL s').e = 0) && (decide (d0.co.length = 2) && (match d1.ro with
    | [r0, r1] => (match r1.ps with
      | [p] => decide (p.k = 8)
      | _ => false)
    | _ => false))
  | _ => false
theorem aw_true : awB = true := by kernel_rfl
theorem aw_file : ∃ d0 d1 s' r0 r1 p, FileR awL s0 [d0, d1] s' ∧ (endS awL s').e = 0 ∧ d0.co.length = 2 ∧ d1.ro = [r0, r1] ∧ r1.ps = [p] ∧ p.k = 8 := by
  have h := aw_true
  unfold awB at h
  split at h
  · rename_i d0 d1 s' hf
    simp only [Bool.and_eq_true, decide_eq_true_eq] at h
    obtain ⟨h1, h2, h3⟩ := h
    split at h3
    · rename_i r0 r1 hr
      split at h3
      · rename_i p hp
        exact ⟨d0, d1, s', r0, r1, p, fileC_sound hf, h1, h2, hr, hp, of_decide_eq_true h3⟩
      · cases h3
    · cases h3
  · cases h
theorem aw_says : ∃ d0 d1 r0 r1 p z, z.e = 0 ∧ (d0 : DT).co.length = 2 ∧ (d1 : DT).ro = [r0, r1] ∧ r1.ps = [p] ∧ p.k = 8 ∧ ∀ w, Calls Try.prog 7 #[.string awT] w (DeclsOut [d0, d1] z awT.size w) := by
  obtain ⟨d0, d1, s', r0, r1, p, hf, h1, h2, h3, h4, h5⟩ := aw_file
  exact ⟨d0, d1, r0, r1, p, _, h1, h2, h3, h4, h5, fun w => file_of (by decide) aw_parse aw_lex hf⟩

end Go.Proofs.Ytkccjfbgepmfkaa
