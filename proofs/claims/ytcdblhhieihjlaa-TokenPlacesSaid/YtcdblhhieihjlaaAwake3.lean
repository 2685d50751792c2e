/- The laws' own question whether the program answers at all (layer 3): it does. -/
import Derived.Test.YtcdblhhieihjlaaTokAll
namespace Go.Proofs.Ytcdblhhieihjlaa
open Go.RowKit
set_option linter.unusedVariables false

/-- The text of the question. -/
def awS : ByteArray := ⟨#[206, 187, 32, 40, 120, 32, 58, 32, 65, 41, 32, 45, 62, 32, 120]⟩
theorem aw_size : awS.size = 15 := rfl
theorem aw_parse : Parse (bytesL awS) [955, 32, 40, 120, 32, 58, 32, 65, 41, 32, 45, 62, 32, 120] [] := by
  have h : Parse (encAll [955, 32, 40, 120, 32, 58, 32, 65, 41, 32, 45, 62, 32, 120]) [955, 32, 40, 120, 32, 58, 32, 65, 41, 32, 45, 62, 32, 120] [] := parse_enc (by decide)
  exact h

theorem aw_cut0 : awS.extract 0 awS.size = ⟨#[206, 187, 32, 40, 120, 32, 58, 32, 65, 41, 32, 45, 62, 32, 120]⟩ := by decide +kernel
theorem aw_cut2 : awS.extract 2 awS.size = ⟨#[32, 40, 120, 32, 58, 32, 65, 41, 32, 45, 62, 32, 120]⟩ := by decide +kernel
theorem aw_cut3 : awS.extract 3 awS.size = ⟨#[40, 120, 32, 58, 32, 65, 41, 32, 45, 62, 32, 120]⟩ := by decide +kernel
theorem aw_cut4 : awS.extract 4 awS.size = ⟨#[120, 32, 58, 32, 65, 41, 32, 45, 62, 32, 120]⟩ := by decide +kernel
theorem aw_cut5 : awS.extract 5 awS.size = ⟨#[32, 58, 32, 65, 41, 32, 45, 62, 32, 120]⟩ := by decide +kernel
theorem aw_cut6 : awS.extract 6 awS.size = ⟨#[58, 32, 65, 41, 32, 45, 62, 32, 120]⟩ := by decide +kernel
theorem aw_cut7 : awS.extract 7 awS.size = ⟨#[32, 65, 41, 32, 45, 62, 32, 120]⟩ := by decide +kernel
theorem aw_cut8 : awS.extract 8 awS.size = ⟨#[65, 41, 32, 45, 62, 32, 120]⟩ := by decide +kernel
theorem aw_cut9 : awS.extract 9 awS.size = ⟨#[41, 32, 45, 62, 32, 120]⟩ := by decide +kernel
theorem aw_cut10 : awS.extract 10 awS.size = ⟨#[32, 45, 62, 32, 120]⟩ := by decide +kernel
theorem aw_cut11 : awS.extract 11 awS.size = ⟨#[45, 62, 32, 120]⟩ := by decide +kernel
theorem aw_cut13 : awS.extract 13 awS.size = ⟨#[32, 120]⟩ := by decide +kernel
theorem aw_cut14 : awS.extract 14 awS.size = ⟨#[120]⟩ := by decide +kernel
theorem aw_cut15 : awS.extract 15 awS.size = ⟨#[]⟩ := by decide +kernel

theorem aw_none0 : GapIs (awS.extract 0 awS.size) 0 := by rw [aw_cut0]; exact gap_none (by decide) (by decide) (by decide) (by decide)
theorem aw_none3 : GapIs (awS.extract 3 awS.size) 0 := by rw [aw_cut3]; exact gap_none (by decide) (by decide) (by decide) (by decide)
theorem aw_none4 : GapIs (awS.extract 4 awS.size) 0 := by rw [aw_cut4]; exact gap_none (by decide) (by decide) (by decide) (by decide)
theorem aw_none6 : GapIs (awS.extract 6 awS.size) 0 := by rw [aw_cut6]; exact gap_none (by decide) (by decide) (by decide) (by decide)
theorem aw_none8 : GapIs (awS.extract 8 awS.size) 0 := by rw [aw_cut8]; exact gap_none (by decide) (by decide) (by decide) (by decide)
theorem aw_none9 : GapIs (awS.extract 9 awS.size) 0 := by rw [aw_cut9]; exact gap_none (by decide) (by decide) (by decide) (by decide)
theorem aw_none11 : GapIs (awS.extract 11 awS.size) 0 := by rw [aw_cut11]; exact gap_none (by decide) (by decide) (by decide) (by decide)
theorem aw_none14 : GapIs (awS.extract 14 awS.size) 0 := by rw [aw_cut14]; exact gap_none (by decide) (by decide) (by decide) (by decide)
theorem aw_none15 : GapIs (awS.extract 15 awS.size) 0 := by rw [aw_cut15]; exact gap_end rfl
theorem aw_gap2 : GapIs (awS.extract 2 awS.size) 1 := by rw [aw_cut2]; exact gap_blank (by decide) (by decide)
theorem aw_gap5 : GapIs (awS.extract 5 awS.size) 1 := by rw [aw_cut5]; exact gap_blank (by decide) (by decide)
theorem aw_gap7 : GapIs (awS.extract 7 awS.size) 1 := by rw [aw_cut7]; exact gap_blank (by decide) (by decide)
theorem aw_gap10 : GapIs (awS.extract 10 awS.size) 1 := by rw [aw_cut10]; exact gap_blank (by decide) (by decide)
theorem aw_gap13 : GapIs (awS.extract 13 awS.size) 1 := by rw [aw_cut13]; exact gap_blank (by decide) (by decide)

theorem aw_skip0 : SkipIs awS 0 0 := fun w => skip_0 awS 0 w (by decide) (by decide) aw_none0
theorem aw_skip4 : SkipIs awS 4 4 := fun w => skip_0 awS 4 w (by decide) (by decide) aw_none4
theorem aw_skip9 : SkipIs awS 9 9 := fun w => skip_0 awS 9 w (by decide) (by decide) aw_none9
theorem aw_skip15 : SkipIs awS 15 15 := fun w => skip_0 awS 15 w (by decide) (by decide) aw_none15
theorem aw_skip2 : SkipIs awS 2 3 := fun w => skip_1 awS 2 w (by decide) (by decide) aw_gap2 aw_none3
theorem aw_skip5 : SkipIs awS 5 6 := fun w => skip_1 awS 5 w (by decide) (by decide) aw_gap5 aw_none6
theorem aw_skip7 : SkipIs awS 7 8 := fun w => skip_1 awS 7 w (by decide) (by decide) aw_gap7 aw_none8
theorem aw_skip10 : SkipIs awS 10 11 := fun w => skip_1 awS 10 w (by decide) (by decide) aw_gap10 aw_none11
theorem aw_skip13 : SkipIs awS 13 14 := fun w => skip_1 awS 13 w (by decide) (by decide) aw_gap13 aw_none14

theorem aw_next0 : NextIs awS 0 4 ⟨#[92]⟩ 2 := fun w => next_mark awS _ _ 0 2 955 w (by decide) (by decide) aw_cut0 (by decide) (by decide) (by decide) (mark_955 (by decide) (by decide) (by decide)) (by decide) (by decide)
theorem aw_next3 : NextIs awS 3 4 ⟨#[40]⟩ 1 := fun w => next_mark awS _ _ 3 1 40 w (by decide) (by decide) aw_cut3 (by decide) (by decide) (by decide) (mark_40 (by decide) (by decide) (by decide)) (by decide) (by decide)
theorem aw_next6 : NextIs awS 6 4 ⟨#[58]⟩ 1 := fun w => next_mark awS _ _ 6 1 58 w (by decide) (by decide) aw_cut6 (by decide) (by decide) (by decide) (mark_58 (by decide) (by decide) (by decide)) (by decide) (by decide)
theorem aw_next9 : NextIs awS 9 4 ⟨#[41]⟩ 1 := fun w => next_mark awS _ _ 9 1 41 w (by decide) (by decide) aw_cut9 (by decide) (by decide) (by decide) (mark_41 (by decide) (by decide) (by decide)) (by decide) (by decide)
theorem aw_next11 : NextIs awS 11 4 ⟨#[45, 62]⟩ 2 := fun w => next_mark awS _ _ 11 2 45 w (by decide) (by decide) aw_cut11 (by decide) (by decide) (by decide) (mark_45 (by decide) (by decide) (by decide) (by decide)) (by decide) (by decide)
theorem aw_name120 : IsName ⟨#[120]⟩ [120] := by
  refine ⟨?_, by decide, by unfold keyB; rw [ByteArray.toList_eq]; decide, by decide, by decide⟩
  have h : Parse (encAll [120]) [120] [] := parse_enc (by decide)
  exact h
theorem aw_word120 : WordIs ⟨#[120]⟩ 1 := word_name aw_name120 (IsNum.no (fun n _ e => by
  have h : (120 : Int) ∈ digs n := by rw [e]; exact List.mem_singleton.2 rfl
  have := digs_mem h
  omega))
theorem aw_name65 : IsName ⟨#[65]⟩ [65] := by
  refine ⟨?_, by decide, by unfold keyB; rw [ByteArray.toList_eq]; decide, by decide, by decide⟩
  have h : Parse (encAll [65]) [65] [] := parse_enc (by decide)
  exact h
theorem aw_word65 : WordIs ⟨#[65]⟩ 1 := word_name aw_name65 (IsNum.no (fun n _ e => by
  have h : (65 : Int) ∈ digs n := by rw [e]; exact List.mem_singleton.2 rfl
  have := digs_mem h
  omega))
theorem aw_run4 : RunIs ⟨#[120, 32, 58, 32, 65, 41, 32, 45, 62, 32, 120]⟩ ⟨#[120]⟩ := by
  have hp : Parse (encAll [120, 32, 58, 32, 65, 41, 32, 45, 62, 32, 120]) [120, 32, 58, 32, 65, 41, 32, 45, 62, 32, 120] [] := parse_enc (by decide)
  have h := run_any (s := ⟨#[120, 32, 58, 32, 65, 41, 32, 45, 62, 32, 120]⟩) (ns := [120, 32, 58, 32, 65, 41, 32, 45, 62, 32, 120]) (r := []) (by decide) hp 1 (by decide) (fun i hi => by rw [show i = 0 by omega]; decide) (.inr (by decide))
  have e : (⟨#[120, 32, 58, 32, 65, 41, 32, 45, 62, 32, 120]⟩ : ByteArray).extract 0 (offs [120, 32, 58, 32, 65, 41, 32, 45, 62, 32, 120] 1) = ⟨#[120]⟩ := by decide +kernel
  rwa [e] at h
theorem aw_next4 : NextIs awS 4 1 ⟨#[120]⟩ 1 := fun w => next_word awS _ _ 4 1 1 120 w (by decide) (by decide) aw_cut4 (by decide) (by decide) (by decide) aw_run4 aw_word120 rfl (by decide) (by decide) (by decide)
theorem aw_run8 : RunIs ⟨#[65, 41, 32, 45, 62, 32, 120]⟩ ⟨#[65]⟩ := by
  have hp : Parse (encAll [65, 41, 32, 45, 62, 32, 120]) [65, 41, 32, 45, 62, 32, 120] [] := parse_enc (by decide)
  have h := run_any (s := ⟨#[65, 41, 32, 45, 62, 32, 120]⟩) (ns := [65, 41, 32, 45, 62, 32, 120]) (r := []) (by decide) hp 1 (by decide) (fun i hi => by rw [show i = 0 by omega]; decide) (.inr (by decide))
  have e : (⟨#[65, 41, 32, 45, 62, 32, 120]⟩ : ByteArray).extract 0 (offs [65, 41, 32, 45, 62, 32, 120] 1) = ⟨#[65]⟩ := by decide +kernel
  rwa [e] at h
theorem aw_next8 : NextIs awS 8 1 ⟨#[65]⟩ 1 := fun w => next_word awS _ _ 8 1 1 65 w (by decide) (by decide) aw_cut8 (by decide) (by decide) (by decide) aw_run8 aw_word65 rfl (by decide) (by decide) (by decide)
theorem aw_run14 : RunIs ⟨#[120]⟩ ⟨#[120]⟩ := by
  have hp : Parse (encAll [120]) [120] [] := parse_enc (by decide)
  have h := run_any (s := ⟨#[120]⟩) (ns := [120]) (r := []) (by decide) hp 1 (by decide) (fun i hi => by rw [show i = 0 by omega]; decide) (.inl rfl)
  have e : (⟨#[120]⟩ : ByteArray).extract 0 (offs [120] 1) = ⟨#[120]⟩ := by decide +kernel
  rwa [e] at h
theorem aw_next14 : NextIs awS 14 1 ⟨#[120]⟩ 1 := fun w => next_word awS _ _ 14 1 1 120 w (by decide) (by decide) aw_cut14 (by decide) (by decide) (by decide) aw_run14 aw_word120 rfl (by decide) (by decide) (by decide)

def awK (k : Nat) : Int := [4, 4, 1, 4, 1, 4, 4, 1].getD k 0
def awT (k : Nat) : ByteArray := ([⟨#[92]⟩, ⟨#[40]⟩, ⟨#[120]⟩, ⟨#[58]⟩, ⟨#[65]⟩, ⟨#[41]⟩, ⟨#[45, 62]⟩, ⟨#[120]⟩] : List ByteArray).getD k ⟨#[]⟩
def awP (k : Nat) : Nat := [0, 3, 4, 6, 8, 9, 11, 14, 15].getD k 15
def awZ (k : Nat) : Nat := [2, 1, 1, 1, 1, 1, 2, 1].getD k 0

theorem aw_nexts : ∀ k, k < 8 → NextIs awS (awP k) (awK k) (awT k) (awZ k)
  | 0, _ => aw_next0
  | 1, _ => aw_next3
  | 2, _ => aw_next4
  | 3, _ => aw_next6
  | 4, _ => aw_next8
  | 5, _ => aw_next9
  | 6, _ => aw_next11
  | 7, _ => aw_next14
theorem aw_skips : ∀ k, k < 8 → SkipIs awS (awP k + awZ k) (awP (k + 1))
  | 0, _ => aw_skip2
  | 1, _ => aw_skip4
  | 2, _ => aw_skip5
  | 3, _ => aw_skip7
  | 4, _ => aw_skip9
  | 5, _ => aw_skip10
  | 6, _ => aw_skip13
  | 7, _ => aw_skip15

theorem aw_all (w : World) : Calls Try.prog 12 #[.string awS] w fun e w' => ∃ v, e = .returned (.tuple #[v, .int .i64 15, .int .i64 0]) ∧
    w'.ownsRow w.heap.size 36 3 v 9 (cellsT awK awT awP 8 ++ [.int .i64 5, .string ⟨#[]⟩, .int .i64 15]) ∧ Below w.heap.size w w' :=
  tokAll_ok awS _ 8 awK awT awP awZ w (by decide) aw_parse aw_skip0 rfl (by decide) (by decide) aw_nexts aw_skips (by decide)

/-- What an owned row that is not empty is, whatever its elements' size. -/
theorem own_openN {w : World} {base : Nat} {e : TypeId} {size : Nat} {v : Value} {n : Nat} {xs : List Value} (h : w.ownsRow base e size v n xs) (hn : 0 < n) :
    ∃ g cap, v = .slice (some ⟨g, 0, none⟩) n cap ∧ base ≤ g ∧ g < w.heap.size ∧ n ≤ cap ∧ ∀ j u, xs[j]? = some u → w.cell? ⟨g, j, none⟩ = some u := by
  rcases h.2 with ⟨_, h0⟩ | ⟨g, cap, cur, rfl, hb, hg, hr⟩
  · omega
  · have hl := h.lt g rfl
    refine ⟨g, cap, rfl, hl.1, hl.2, hr.1, fun j u hu => ?_⟩
    have := h.cells (g := g) rfl j u hu
    rwa [Addr.add_lit, Nat.zero_add] at this

theorem awake3_any (w : World) : Calls Try.prog 7 #[] w fun e w' => e = .returned (.bool true) ∧ Below w.heap.size w w' := by
  go_enter Try.func7, Try.ntmps7
  go_wp2_with fail
  refine (aw_all _).mono ?_; rintro e w1 ⟨v, rfl, hown, hb⟩
  obtain ⟨g, cap, rfl, -, hg, hcap, hc⟩ := own_openN hown (by decide)
  have c1 : w1.cell? ⟨g, 1, none⟩ = some (.string ⟨#[92]⟩) := hc 1 _ rfl
  have c2 : w1.cell? ⟨g, 19, none⟩ = some (.string ⟨#[45, 62]⟩) := hc 19 _ rfl
  have c3 : w1.cell? ⟨g, 24, none⟩ = some (.int .i64 5) := hc 24 _ rfl
  clear hc hown
  go_wp2_with fail
  go_ret
  exact ⟨rfl, hb⟩

end Go.Proofs.Ytcdblhhieihjlaa
