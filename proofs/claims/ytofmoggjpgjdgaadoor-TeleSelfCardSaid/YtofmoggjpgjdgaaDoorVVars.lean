/- tele.Vars: the variables of a telescope. -/
import Derived.Test.YtofmoggjpgjdgaaDoorVLaid
namespace Go.Proofs.YtofmoggjpgjdgaaDoor
open Go.RowKit
set_option linter.unusedVariables false
set_option maxRecDepth 100000

/-- A call that gives a list of terms, wherever they lie. -/
def GivesR (ts : List TM) (w : World) (e : Ending) (w' : World) : Prop := ∃ A cap, e = .returned (.slice A ts.length cap) ∧ IsTerms w' 0 w'.heap.size ts A cap ∧ Below w.heap.size w w'
def VarsRel (n : Nat) (w : World) (nv iv : Value) (wr : World) : Prop :=
  ∃ (i : Nat) (ps : List (TM × Option Addr × Nat)) (P : Nat → Prop), i ≤ n ∧ iv = .int .i64 i ∧ Below w.heap.size w wr ∧
    TermRow wr w.heap.size 24 nv ps P ∧ (∀ b, P b → w.heap.size ≤ b) ∧ ps.length = i ∧ ps.map (·.1) = (varsT n).take i
theorem ownsRow_baseV {w : World} {base base' : Nat} {e : TypeId} {size : Nat} {v : Value} {n : Nat} {xs : List Value} (h : w.ownsRow base e size v n xs) (hb : base' ≤ base) : w.ownsRow base' e size v n xs := by
  refine ⟨h.1, ?_⟩
  rcases h.2 with h1 | ⟨g, cap, cur, h1, h2, h3⟩
  · exact .inl h1
  · exact .inr ⟨g, cap, cur, h1, by omega, h3⟩
theorem varsT_at (n i : Nat) (h : i < n) : (varsT n).take (i + 1) = (varsT n).take i ++ [.node 1 ((n : Int) - 1 - (i : Int)) []] := by
  rw [List.take_succ_eq_append_getElem (by rw [varsT_len]; exact h)]
  congr 1
  simp only [varsT, List.getElem_map, List.getElem_range]
  congr 2
  omega

set_option maxHeartbeats 4000000 in
theorem vars_any (n : Nat) (hn : n ≤ 1000) (w : World) : Calls Tryd.prog 28 #[.int .i64 n] w (GivesR (varsT n) w) := by
  obtain ⟨i0, hi0, hz0, hz1, hz2⟩ := info_parts infoM
  have HN := Lib.hid hn
  by_cases h0 : n = 0
  · subst h0
    have HE := Lib.hid (show varsT 0 = [] from rfl)
    have t0 : decide (((0 : Nat) : Int) < 1) = true := by decide
    go_enter Tryd.func28, Tryd.ntmps28
    go_wp2_with fail
    go_ret
    rw [HE.out]
    exact ⟨none, 0, rfl, leaf_in _ _ 0 0, Below.refl _ _⟩
  have t0 : decide ((n : Int) < 1) = false := decide_eq_false (by omega)
  have t1 : decide ((1048576 : Int) < (n : Int)) = false := decide_eq_false (by omega)
  have t2 : decide ((n : Int) > 1048576) = false := decide_eq_false (by omega)
  have CG := Lib.hid (growM_any n (by omega) w)
  clear h0
  go_enter Tryd.func28, Tryd.ntmps28
  go_wp2_with fail
  refine CG.out.mono ?_
  rintro e w1 ⟨v0, rfl, ho0, hbx⟩
  obtain ⟨a0, cc0, rfl⟩ := own_sliceM ho0
  have HO0 := Lib.hid ho0
  have HB0 := Lib.hid hbx
  clear ho0 hbx CG
  go_wp2_with fail
  go_loopw [3, 14] (VarsRel n w) (fun _ iv _ => n - (intOf iv).toNat)
  case atStart => exact ⟨0, [], fun _ => False, Nat.zero_le _, rfl, HB0.out, ⟨HO0.out, fun _ h => h.elim, fun _ h => by cases h⟩, fun _ h => h.elim, rfl, rfl⟩
  case round =>
    obtain ⟨i, ps, P, hi1, rfl, hB, hrow, hP, hps, hpl⟩ := hrel
    have hz := hB.size
    obtain ⟨a1, c1, rfl⟩ := own_sliceM hrow.row
    have HPS := Lib.hid hps
    have HROW := Lib.hid hrow
    have HPP := Lib.hid hP
    have HPL := Lib.hid hpl
    have HBB := Lib.hid hB
    clear hrow hP hpl hps
    by_cases hil : i < n
    · have hi1' : (i : Int) < (n : Int) := by omega
      have hn9 : (n : Int) ≤ 1000 := by omega
      have w1' : IntKind.i64.wrap ((n : Int) - 1) = (n : Int) - 1 := IntWalk.i64_in _ (by omega)
      have HMT := Lib.hid (varsT_at n i hil)
      obtain ⟨m, hm⟩ : ∃ m, (n : Int) - 1 - (i : Int) = m := ⟨_, rfl⟩
      have w2' : IntKind.i64.wrap ((n : Int) - 1 - (i : Int)) = m := by rw [IntWalk.i64_in _ (by omega)]; exact hm
      rw [hm] at HMT
      have CV := Lib.hid ((mk_var m wr).mono fun e w' h => (show e = .returned (.agg #[.int .i64 1, .int .i64 m, .slice none 0 0]) ∧ Below wr.heap.size wr w' from ⟨h.1, by rw [h.2]; exact (Below.refl _ _).alloc (Nat.le_refl _) _⟩))
      clear hm hil hi1 hn9
      go_wp2_with fail
      refine CV.out.mono ?_
      rintro e wc ⟨rfl, hbc⟩
      have HBC := Lib.hid hbc
      have HBWC := Lib.hid (HBB.out.trans (hbc.mono hz))
      clear hbc CV
      have R1 := (HROW.out.below HBC.out).alloc (.cells #[.int .i64 1, .int .i64 m, .slice none 0 0] 24)
      have HR1 := Lib.hid R1
      have HOW := Lib.hid R1.row
      have hown0 := R1.row.lt
      clear R1
      go_wp2_with (at_builtin; refine wpList_app rfl _ _ 22 rfl w.heap.size 24 i0 (.agg #[.int .i64 0, .int .i64 0, .slice none 0 0]) 3 40 Tryd.underlying22 hi0 hz0 hz1 hz2 rfl (by decide) _ _ _ rfl HOW.out (some ⟨wc.heap.size, 0, none⟩) 1 1 (cellsM (.node 1 m [], none, 0)) rfl (src_at _ _ _ (by simp) rfl) (cellsM_one _) ?c3 ?c4 ?c5 ?_)
      case c3 => have := HPS.out; have := HN.out; unfold maxLen; omega
      case c4 => have := HPS.out; have := HN.out; omega
      case c5 => have := HBWC.out.size; simp; omega
      rintro v2' w3 ⟨hown3, hg3, ho3⟩
      have HRow := Lib.hid (HR1.out.push (Pn := fun _ => False) (p := (.node 1 m [], none, 0)) (leaf_in _ _ 1 m) (fun b hb => hb.elim) hown3 hg3 ho3)
      have HB4 := Lib.hid ((HBWC.out.alloc HBWC.out.size (.cells #[.int .i64 1, .int .i64 m, .slice none 0 0] 24)).grown hg3 (by have := HBWC.out.size; simp; omega) (fun g e => by have := hown0 g e; omega))
      clear hown3 hg3 ho3 hown0
      go_wp2_with fail
      go_roundw
      case rel =>
        refine ⟨i + 1, ps ++ [(.node 1 m [], none, 0)], fun b => P b ∨ False, by omega, by go_num, HB4.out, HRow.out, ?_, by have := HPS.out; simp; omega, ?_⟩
        · intro b hb
          rcases hb with hb | hb
          · exact HPP.out b hb
          · exact hb.elim
        · rw [List.map_append, HPL.out, HMT.out]; rfl
      case measure => simp [intOf]; omega
    · have HIN := Lib.hid (show i = n by omega)
      have HFULL : Hid (ps.map (·.1) = varsT n) := Lib.hid (by rw [HPL.out, List.take_of_length_le (by rw [varsT_len]; omega)])
      have hge : ¬ (i : Int) < (n : Int) := by omega
      have hpar := HROW.out.parent (lo := w.heap.size) (Nat.le_refl _) (fun b hb => HPP.out b hb) 0 0
      rw [HFULL.out] at hpar
      have HPAR := Lib.hid hpar
      clear hpar
      go_wp2_with fail
      go_ret
      exact ⟨a1, c1, by rw [HPS.out, varsT_len, HIN.out]; rfl, HPAR.out.wide (Nat.zero_le _) (Nat.le_refl _), HBB.out⟩

end Go.Proofs.YtofmoggjpgjdgaaDoor
