import Derived.Test.YtchllgkgjompgaaGreatDoorM8
import Derived.Test.YtchllgkgjompgaaGreatDoorR1
import Derived.Test.YtchllgkgjompgaaGreatDoorM1
import Derived.Test.YtchllgkgjompgaaGreatDoorR3
import Derived.Test.YtchllgkgjompgaaGreatDoorM7
import Derived.Deep.RegionLaw
import Derived.Deep.RegionWith
import Derived.Deep.RegionHeld3
import Derived.BigRegion
import Derived.Test.YtchllgkgjompgaaGreatDoorTRGood
namespace Go.Proofs.YtchllgkgjompgaaGreatDoor
open Go.RowKit
set_option linter.unusedVariables false
set_option maxRecDepth 100000

/-- A call that gives a term, wherever it lies, and an error. -/
def GivesL (p : TM × Int) (w : World) (e : Ending) (w' : World) : Prop :=
  ∃ A cap, e = .returned (.tuple #[termV p.1 A cap, .int .i64 p.2]) ∧ IsTerm w' 0 w'.heap.size p.1 A cap ∧ Below w.heap.size w w'
theorem GivesT.any {p : TM × Int} {w w' : World} {e : Ending} (h : GivesT p w e w') : GivesL p w e w' := by
  obtain ⟨A, c, h1, h2, h3⟩ := h
  exact ⟨A, c, h1, h2.wide (Nat.zero_le _) (Nat.le_refl _), h3⟩
theorem GivesL.kept {p q : TM × Int} {w w' : World} {e : Ending} (h : GivesL p w e w') (hq : p = q) : GivesL q w e w' := hq ▸ h


/-- A call that gives a list of terms, wherever they lie. -/
def GivesR (ts : List TM) (w : World) (e : Ending) (w' : World) : Prop := ∃ A cap, e = .returned (.slice A ts.length cap) ∧ IsTerms w' 0 w'.heap.size ts A cap ∧ Below w.heap.size w w'
/-- The same, in new memory. -/
def GivesRn (ts : List TM) (w : World) (e : Ending) (w' : World) : Prop := ∃ A cap, e = .returned (.slice A ts.length cap) ∧ IsTerms w' w.heap.size w'.heap.size ts A cap ∧ Below w.heap.size w w'
def VarsRel (n : Nat) (w : World) (nv iv : Value) (wr : World) : Prop :=
  ∃ (i : Nat) (ps : List (TM × Option Addr × Nat)) (P : Nat → Prop), i ≤ n ∧ iv = .int .i64 i ∧ Below w.heap.size w wr ∧
    TermRow wr w.heap.size 25 nv ps P ∧ (∀ b, P b → w.heap.size ≤ b) ∧ ps.length = i ∧ ps.map (·.1) = (varsT n).take i
theorem varsT_at (n i : Nat) (h : i < n) : (varsT n).take (i + 1) = (varsT n).take i ++ [.node 1 ((n : Int) - 1 - (i : Int)) []] := by
  rw [List.take_succ_eq_append_getElem (by rw [varsT_len]; exact h)]
  congr 1
  simp only [varsT, List.getElem_map, List.getElem_range]
  congr 2
  omega

set_option maxHeartbeats 4000000 in
theorem varsN_any (n : Nat) (hn : n ≤ 1000) (w : World) : Calls Tryz.prog 175 #[.int .i64 n] w (GivesRn (varsT n) w) := by
  obtain ⟨i0, hi0, hz0, hz1, hz2⟩ := info_parts infoM
  have HN := Lib.hid hn
  by_cases h0 : n = 0
  · subst h0
    have HE := Lib.hid (show varsT 0 = [] from rfl)
    have t0 : decide (((0 : Nat) : Int) < 1) = true := by decide
    go_enter Tryz.func175, Tryz.ntmps175
    go_wp2_with fail
    go_ret
    rw [HE.out]
    exact ⟨none, 0, rfl, leaf_in _ _ 0 0, Below.refl _ _⟩
  have t0 : decide ((n : Int) < 1) = false := decide_eq_false (by omega)
  have t1 : decide ((1048576 : Int) < (n : Int)) = false := decide_eq_false (by omega)
  have t2 : decide ((n : Int) > 1048576) = false := decide_eq_false (by omega)
  have CG := Lib.hid (growM_any n (by omega) w)
  clear h0
  go_enter Tryz.func175, Tryz.ntmps175
  go_wp2_with fail
  refine CG.out.mono ?_
  rintro e w1 ⟨v0, rfl, ho0, hbx⟩
  obtain ⟨a0, cc0, rfl⟩ := own_sliceM ho0
  have HO0 := Lib.hid ho0
  have HB0 := Lib.hid hbx
  clear ho0 hbx CG
  go_wp2_with fail
  go_loopw [3, 14] (VarsRel n w) (fun _ iv _ => n - (intOf iv).toNat)
  case atStart => exact ⟨0, [], fun _ => False, Nat.zero_le _, rfl, HB0.out, ⟨HO0.out, fun _ h => h.elim, fun _ h => by cases h⟩, fun _ h => h.elim, rfl, rfl⟩
  case round =>
    obtain ⟨i, ps, P, hi1, rfl, hB, hrow, hP, hps, hpl⟩ := hrel
    have hz := hB.size
    obtain ⟨a1, c1, rfl⟩ := own_sliceM hrow.row
    have HPS := Lib.hid hps
    have HROW := Lib.hid hrow
    have HPP := Lib.hid hP
    have HPL := Lib.hid hpl
    have HBB := Lib.hid hB
    clear hrow hP hpl hps
    by_cases hil : i < n
    · have hi1' : (i : Int) < (n : Int) := by omega
      have hn9 : (n : Int) ≤ 1000 := by omega
      have w1' : IntKind.i64.wrap ((n : Int) - 1) = (n : Int) - 1 := IntWalk.i64_in _ (by omega)
      have HMT := Lib.hid (varsT_at n i hil)
      obtain ⟨m, hm⟩ : ∃ m, (n : Int) - 1 - (i : Int) = m := ⟨_, rfl⟩
      have w2' : IntKind.i64.wrap ((n : Int) - 1 - (i : Int)) = m := by rw [IntWalk.i64_in _ (by omega)]; exact hm
      rw [hm] at HMT
      have CV := Lib.hid ((mk_var m wr).mono fun e w' h => (show e = .returned (.agg #[.int .i64 1, .int .i64 m, .slice none 0 0]) ∧ Below wr.heap.size wr w' from ⟨h.1, by rw [h.2]; exact (Below.refl _ _).alloc (Nat.le_refl _) _⟩))
      clear hm hil hi1 hn9
      go_wp2_with fail
      refine CV.out.mono ?_
      rintro e wc ⟨rfl, hbc⟩
      have HBC := Lib.hid hbc
      have HBWC := Lib.hid (HBB.out.trans (hbc.mono hz))
      clear hbc CV
      have R1 := (HROW.out.below HBC.out).alloc (.cells #[.int .i64 1, .int .i64 m, .slice none 0 0] 25)
      have HR1 := Lib.hid R1
      have HOW := Lib.hid R1.row
      have hown0 := R1.row.lt
      clear R1
      go_wp2_with (at_builtin; refine wpList_app rfl _ _ 23 rfl w.heap.size 25 i0 (.agg #[.int .i64 0, .int .i64 0, .slice none 0 0]) 3 40 Tryz.underlying23 hi0 hz0 hz1 hz2 rfl (by decide) _ _ _ rfl HOW.out (some ⟨wc.heap.size, 0, none⟩) 1 1 (cellsM (.node 1 m [], none, 0)) rfl (src_at _ _ _ (by simp) rfl) (cellsM_one _) ?c3 ?c4 ?c5 ?_)
      case c3 => have := HPS.out; have := HN.out; unfold maxLen; omega
      case c4 => have := HPS.out; have := HN.out; omega
      case c5 => have := HBWC.out.size; simp; omega
      rintro v2' w3 ⟨hown3, hg3, ho3⟩
      have HRow := Lib.hid (HR1.out.push (Pn := fun _ => False) (p := (.node 1 m [], none, 0)) (leaf_in _ _ 1 m) (fun b hb => hb.elim) hown3 hg3 ho3)
      have HB4 := Lib.hid ((HBWC.out.alloc HBWC.out.size (.cells #[.int .i64 1, .int .i64 m, .slice none 0 0] 25)).grown hg3 (by have := HBWC.out.size; simp; omega) (fun g e => by have := hown0 g e; omega))
      clear hown3 hg3 ho3 hown0
      go_wp2_with fail
      go_roundw
      case rel =>
        refine ⟨i + 1, ps ++ [(.node 1 m [], none, 0)], fun b => P b ∨ False, by omega, by go_num, HB4.out, HRow.out, ?_, by have := HPS.out; simp; omega, ?_⟩
        · intro b hb
          rcases hb with hb | hb
          · exact HPP.out b hb
          · exact hb.elim
        · rw [List.map_append, HPL.out, HMT.out]; rfl
      case measure => simp [intOf]; omega
    · have HIN := Lib.hid (show i = n by omega)
      have HFULL : Hid (ps.map (·.1) = varsT n) := Lib.hid (by rw [HPL.out, List.take_of_length_le (by rw [varsT_len]; omega)])
      have hge : ¬ (i : Int) < (n : Int) := by omega
      have hpar := HROW.out.parent (lo := w.heap.size) (Nat.le_refl _) (fun b hb => HPP.out b hb) 0 0
      rw [HFULL.out] at hpar
      have HPAR := Lib.hid hpar
      clear hpar
      go_wp2_with fail
      go_ret
      exact ⟨a1, c1, by rw [HPS.out, varsT_len, HIN.out]; rfl, HPAR.out, HBB.out⟩

theorem vars_any (n : Nat) (hn : n ≤ 1000) (w : World) : Calls Tryz.prog 175 #[.int .i64 n] w (GivesR (varsT n) w) :=
  (varsN_any n hn w).mono fun _ _ h => by
    obtain ⟨A, c, h1, h2, h3⟩ := h
    exact ⟨A, c, h1, h2.wide (Nat.zero_le _) (Nat.le_refl _), h3⟩



/-- A call that gives a list of terms, a term and an error; they lie in blocks of which P speaks. -/
def GivesS (P : Nat → Prop) (p : List TM × TM × Int) (w : World) (e : Ending) (w' : World) : Prop :=
  ∃ A c B d, e = .returned (.tuple #[.slice A p.1.length c, termV p.2.1 B d, .int .i64 p.2.2]) ∧ TermIn w' (fun b => P b ∧ b < w'.heap.size) (.node 0 0 p.1) A c ∧ TermIn w' (fun b => P b ∧ b < w'.heap.size) p.2.1 B d ∧ Below w.heap.size w w'
theorem GivesS.kept {P : Nat → Prop} {p q : List TM × TM × Int} {w w' : World} {e : Ending} (h : GivesS P p w e w') (hq : p = q) : GivesS P q w e w' := hq ▸ h
theorem gives_zero {P : Nat → Prop} {w w1 : World} {g : Nat} {c : Int} (hb : Below w.heap.size w w1) (hg : w.heap.size ≤ g) : GivesS P ([], .node 0 0 [], c) w (.returned (.tuple #[.slice none 0 0, .agg #[.int .i64 0, .int .i64 0, .slice none 0 0], .int .i64 c])) (((w1.setCell ⟨g, 0, none⟩ (.int .i64 0)).setCell ⟨g, 1, none⟩ (.int .i64 0)).setCell ⟨g, 2, none⟩ (.slice none 0 0)) :=
  ⟨none, 0, none, 0, rfl, leaf_in _ _ 0 0, leaf_in _ _ 0 0, ((hb.setCell hg _).setCell hg _).setCell hg _⟩
/-- A node whose Subs a row is: the row's block is one of the call's own. -/
theorem TermRow.parentV {w : World} {base : Nat} {e : TypeId} {A : Option Addr} {cap : Nat} {ps : List (TM × Option Addr × Nat)} {P Q : Nat → Prop} (h : TermRow w base e (.slice A ps.length cap) ps P) (hP : ∀ b, P b → Q b) (hQ : ∀ b, base ≤ b → Q b)
    (k n : Int) : TermIn w (fun b => Q b ∧ b < w.heap.size) (.node k n (ps.map (·.1))) A cap := by
  have hcap : ps.length ≤ cap ∧ cap ≤ maxLen := by
    rcases h.row.2 with ⟨h1, h2⟩ | ⟨g, c, cur, h1, _, _, h2, h3, _⟩
    · injection h1 with _ h3 h4
      subst h4; omega
    · injection h1 with _ _ h4
      subst h4; exact ⟨h2, h3⟩
  have hlen : (ps.map (·.1)).length = ps.length := List.length_map _
  have hnode : ∀ i (hi : i < (ps.map (·.1)).length), TermIn w (fun b => Q b ∧ b < w.heap.size) (ps.map (·.1))[i] ((ps[i]?.map fun p => p.2.1).getD none) ((ps[i]?.map fun p => p.2.2).getD 0) := by
    intro i hi
    have hi' : i < ps.length := by omega
    rw [List.getElem?_eq_getElem hi', List.getElem_map]
    exact (h.node _ (List.getElem_mem hi')).imp (fun _ _ _ => rfl) (fun b hb => ⟨hP b hb, (h.far b hb).1⟩)
  refine TermIn.mk k n _ A cap (fun i => (ps[i]?.map fun p => p.2.1).getD none) (fun i => (ps[i]?.map fun p => p.2.2).getD 0) (by omega) hcap.2 (fun h0 => ?_) hnode
  have h0' : 0 < ps.length := by omega
  obtain ⟨g, c', hv, _, _⟩ := h.row.form h0'
  injection hv with hv _ _
  subst hv
  have hb := h.row.lt g rfl
  refine ⟨g, 0, rfl, ⟨hQ g hb.1, hb.2⟩, fun i hi => ?_⟩
  have hi' : i < ps.length := by omega
  have hat := fun r (hr : r < 3) => (h.row.cellAt (i * 3 + r) (by omega)).trans (flatM_at ps i r hi' hr)
  have e : (ps.map (·.1))[i] = ps[i].1 := List.getElem_map _
  rw [e, List.getElem?_eq_getElem hi']
  have a0 := hat 0 (by omega)
  rw [Nat.add_zero] at a0
  exact ⟨by rw [Nat.zero_add, a0]; rfl, by rw [Nat.zero_add, hat 1 (by omega)]; rfl, by rw [Nat.zero_add, hat 2 (by omega)]; rfl⟩
/-- Where the loop stands: so many are taken off; what stands beneath lies in the box. -/
def SplitRel (t : TM) (m : Nat) (w : World) (Lo Hi B0 : Nat) (nv iv : Value) (wr : World) : Prop :=
  ∃ (i : Nat) (u : TM) (A : Option Addr) (c : Nat) (ps : List (TM × Option Addr × Nat)), i ≤ m ∧ iv = .int .i64 i ∧ Below w.heap.size w wr ∧ Bk wr w.heap.size 25 #[.int .i64 u.k, .int .i64 u.n, .slice A u.l.length c] ∧
    Bk wr (w.heap.size + 1) 25 #[.int .i64 0, .int .i64 0, .slice none 0 0] ∧ TermRow wr B0 25 nv ps (fun b => Lo ≤ b ∧ b < Hi) ∧ ps.length = i ∧ IsTerm wr Lo Hi u A c ∧ tgoodB u = true ∧
    takeT m t = (takeT (m - i) u).map (fun p => (ps.map (·.1) ++ p.1, p.2)) ∧ Hi ≤ wr.heap.size
theorem split_no {t : TM} {n : Int} (h : (shapedB t && decide (0 ≤ n)) = false) : splitX t n = ([], .node 0 0 [], 5) := by unfold splitX; rw [h]; rfl
theorem split_long {t : TM} {n : Int} (h : (shapedB t && decide (0 ≤ n)) = true) (h2 : 24 < n) : splitX t n = ([], .node 0 0 [], 2) := by unfold splitX; rw [h, if_pos rfl, if_pos h2]
theorem split_none {t : TM} {m : Nat} (h : shapedB t = true) (h2 : m ≤ 24) (h3 : takeT m t = none) : splitX t (m : Int) = ([], .node 0 0 [], 6) := by
  unfold splitX; rw [h, decide_eq_true (show (0 : Int) ≤ (m : Int) by omega), if_pos (show (true && true) = true from rfl), if_neg (by omega), Int.toNat_natCast, h3]
theorem split_some {t u : TM} {m : Nat} {l : List TM} (h : shapedB t = true) (h2 : m ≤ 24) (h3 : takeT m t = some (l, u)) : splitX t (m : Int) = (l, u, 0) := by
  unfold splitX; rw [h, decide_eq_true (show (0 : Int) ≤ (m : Int) by omega), if_pos (show (true && true) = true from rfl), if_neg (by omega), Int.toNat_natCast, h3]

set_option maxHeartbeats 8000000 in
theorem split_any (t : TM) (A_t : Option Addr) (c_t : Nat) (n : Int) (w : World) (ht : IsTerm w 0 w.heap.size t A_t c_t) (hS : ShapesM w) :
    Calls Tryz.prog 190 #[termV t A_t c_t, .int .i64 n] w (GivesS (fun b => w.heap.size ≤ b) (splitX t n) w) := by
  obtain ⟨i0, hi0, hz0, hz1, hz2⟩ := info_parts infoM
  have HW := Lib.hid (show Below w.heap.size w ((w.alloc (.cells #[.int .i64 t.k, .int .i64 t.n, .slice A_t t.l.length c_t] 25)).alloc (.cells #[.int .i64 0, .int .i64 0, .slice none 0 0] 25)) from ((Below.refl w.heap.size w).alloc (by simp <;> omega) (.cells #[.int .i64 t.k, .int .i64 t.n, .slice A_t t.l.length c_t] 25)).alloc (by simp <;> omega) (.cells #[.int .i64 0, .int .i64 0, .slice none 0 0] 25))
  have KB := Lib.hid (fun (V : World) (hV : Below ((w.alloc (.cells #[.int .i64 t.k, .int .i64 t.n, .slice A_t t.l.length c_t] 25)).alloc (.cells #[.int .i64 0, .int .i64 0, .slice none 0 0] 25)).heap.size ((w.alloc (.cells #[.int .i64 t.k, .int .i64 t.n, .slice A_t t.l.length c_t] 25)).alloc (.cells #[.int .i64 0, .int .i64 0, .slice none 0 0] 25)) V) => (show Bk V w.heap.size 25 #[.int .i64 t.k, .int .i64 t.n, .slice A_t t.l.length c_t] ∧ Bk V (w.heap.size + 1) 25 #[.int .i64 0, .int .i64 0, .slice none 0 0] from ⟨((Bk.new w 25 _).alloc _).below hV (by simp <;> omega), (Bk.last (w.alloc (.cells #[.int .i64 t.k, .int .i64 t.n, .slice A_t t.l.length c_t] 25)) 25 #[.int .i64 0, .int .i64 0, .slice none 0 0] (g := w.heap.size + 1) (by simp)).below hV (by simp <;> omega)⟩))
  have CC0 := Lib.hid (fun (V : World) (hV : Below w.heap.size w V) => shaped_any t 0 w.heap.size A_t c_t V (ht.kept hV (Nat.le_refl _)) hV.size (hS.kept hV))
  have CCP := Lib.hid (fun (V : World) (hV : Below w.heap.size w V) => tcopy_any t 0 w.heap.size A_t c_t V (ht.kept hV (Nat.le_refl _)) hV.size (hS.kept hV))
  obtain ⟨RR, hRR⟩ : ∃ RR, splitX t n = RR := ⟨_, rfl⟩
  rw [hRR]
  obtain ⟨bt, hbt⟩ : ∃ b, shapedB t = b := ⟨_, rfl⟩
  rw [hbt] at CC0
  have HR5 := Lib.hid (fun (h : (shapedB t && decide (0 ≤ n)) = false) => hRR.symm.trans (split_no h))
  have HR2 := Lib.hid (fun (h : (shapedB t && decide (0 ≤ n)) = true) (h2 : 24 < n) => hRR.symm.trans (split_long h h2))
  have HR6 := Lib.hid (fun (h : shapedB t = true) (m : Nat) (e : n = (m : Int)) (h2 : m ≤ 24) (h3 : takeT m t = none) => hRR.symm.trans ((congrArg (splitX t) e).trans (split_none h h2 h3)))
  have HR0 := Lib.hid (fun (h : shapedB t = true) (m : Nat) (e : n = (m : Int)) (h2 : m ≤ 24) (l : List TM) (u : TM) (h3 : takeT m t = some (l, u)) => hRR.symm.trans ((congrArg (splitX t) e).trans (split_some h h2 h3)))
  have HBT := Lib.hid hbt
  clear ht hRR hbt hS
  unfold termV at CC0 CCP ⊢
  by_cases hn0 : n < 0
  · have t0 : decide (n < 0) = true := decide_eq_true hn0
    have HE := Lib.hid (HR5.out (by rw [decide_eq_false (show ¬ 0 ≤ n by omega), Bool.and_false]))
    clear hn0
    go_enter Tryz.func190, Tryz.ntmps190
    go_wp2_with fail
    refine (CC0.out _ HW.out).mono ?_
    rintro e w0 ⟨rfl, hc0⟩
    have hb0 := Lib.hid (hc0.mono (Nat.le_refl _))
    clear hc0
    have b00 : w0.cell? ⟨w.heap.size, 0, none⟩ = some (.int .i64 t.k) := (KB.out _ hb0.out).1.cell 0
    have b01 : w0.cell? ⟨w.heap.size, 1, none⟩ = some (.int .i64 t.n) := (KB.out _ hb0.out).1.cell 1
    have b02 : w0.cell? ⟨w.heap.size, 2, none⟩ = some (.slice A_t t.l.length c_t) := (KB.out _ hb0.out).1.cell 2
    have b10 : w0.cell? ⟨w.heap.size + 1, 0, none⟩ = some (.int .i64 0) := (KB.out _ hb0.out).2.cell 0
    have b11 : w0.cell? ⟨w.heap.size + 1, 1, none⟩ = some (.int .i64 0) := (KB.out _ hb0.out).2.cell 1
    have b12 : w0.cell? ⟨w.heap.size + 1, 2, none⟩ = some (.slice none 0 0) := (KB.out _ hb0.out).2.cell 2
    have hfz : ∀ o, w0.frozen? ⟨w.heap.size + 1, o, none⟩ = false := fun o => (KB.out _ hb0.out).2.cold o
    cases bt
    all_goals
      have B5 := (((KB.out _ hb0.out).2.at_ 0 (.int .i64 0)).at_ 1 (.int .i64 0)).at_ 2 (.slice none 0 0)
      have HS0 := Lib.hid (B5.cell 0)
      have HS1 := Lib.hid (B5.cell 1)
      have HS2 := Lib.hid (B5.cell 2)
      have HBF := Lib.hid (HW.out.trans (hb0.out.mono (by simp <;> omega)))
      clear B5
      go_wp2_with fail
      refine bodyPost_ret (v := .tuple #[.slice none 0 0, .agg #[.int .i64 0, .int .i64 0, .slice none 0 0], .int .i64 5]) (by simp [results, Tryz.results190, go_sem, HS0.out, HS1.out, HS2.out]) rfl ?_
      rw [HE.out]
      exact gives_zero HBF.out (by omega)
  have t0 : decide (n < 0) = false := decide_eq_false hn0
  by_cases hn24 : 24 < n
  · have t1 : decide ((24 : Int) < n) = true := decide_eq_true hn24
    have t2 : decide (n > 24) = true := decide_eq_true hn24
    go_enter Tryz.func190, Tryz.ntmps190
    go_wp2_with fail
    refine (CC0.out _ HW.out).mono ?_
    rintro e w0 ⟨rfl, hc0⟩
    have hb0 := Lib.hid (hc0.mono (Nat.le_refl _))
    clear hc0
    have b00 : w0.cell? ⟨w.heap.size, 0, none⟩ = some (.int .i64 t.k) := (KB.out _ hb0.out).1.cell 0
    have b01 : w0.cell? ⟨w.heap.size, 1, none⟩ = some (.int .i64 t.n) := (KB.out _ hb0.out).1.cell 1
    have b02 : w0.cell? ⟨w.heap.size, 2, none⟩ = some (.slice A_t t.l.length c_t) := (KB.out _ hb0.out).1.cell 2
    have b10 : w0.cell? ⟨w.heap.size + 1, 0, none⟩ = some (.int .i64 0) := (KB.out _ hb0.out).2.cell 0
    have b11 : w0.cell? ⟨w.heap.size + 1, 1, none⟩ = some (.int .i64 0) := (KB.out _ hb0.out).2.cell 1
    have b12 : w0.cell? ⟨w.heap.size + 1, 2, none⟩ = some (.slice none 0 0) := (KB.out _ hb0.out).2.cell 2
    have hfz : ∀ o, w0.frozen? ⟨w.heap.size + 1, o, none⟩ = false := fun o => (KB.out _ hb0.out).2.cold o
    cases bt with
    | false =>
      have HE := Lib.hid (HR5.out (by rw [HBT.out]; rfl))
      clear hn0 hn24
      have B5 := (((KB.out _ hb0.out).2.at_ 0 (.int .i64 0)).at_ 1 (.int .i64 0)).at_ 2 (.slice none 0 0)
      have HS0 := Lib.hid (B5.cell 0)
      have HS1 := Lib.hid (B5.cell 1)
      have HS2 := Lib.hid (B5.cell 2)
      have HBF := Lib.hid (HW.out.trans (hb0.out.mono (by simp <;> omega)))
      clear B5
      go_wp2_with fail
      refine bodyPost_ret (v := .tuple #[.slice none 0 0, .agg #[.int .i64 0, .int .i64 0, .slice none 0 0], .int .i64 5]) (by simp [results, Tryz.results190, go_sem, HS0.out, HS1.out, HS2.out]) rfl ?_
      rw [HE.out]
      exact gives_zero HBF.out (by omega)
    | true =>
      have HE := Lib.hid (HR2.out (by rw [HBT.out, decide_eq_true (show 0 ≤ n by omega)]; rfl) hn24)
      clear hn0 hn24
      have B5 := (((KB.out _ hb0.out).2.at_ 0 (.int .i64 0)).at_ 1 (.int .i64 0)).at_ 2 (.slice none 0 0)
      have HS0 := Lib.hid (B5.cell 0)
      have HS1 := Lib.hid (B5.cell 1)
      have HS2 := Lib.hid (B5.cell 2)
      have HBF := Lib.hid (HW.out.trans (hb0.out.mono (by simp <;> omega)))
      clear B5
      go_wp2_with fail
      refine bodyPost_ret (v := .tuple #[.slice none 0 0, .agg #[.int .i64 0, .int .i64 0, .slice none 0 0], .int .i64 2]) (by simp [results, Tryz.results190, go_sem, HS0.out, HS1.out, HS2.out]) rfl ?_
      rw [HE.out]
      exact gives_zero HBF.out (by omega)
  have t1 : decide ((24 : Int) < n) = false := decide_eq_false hn24
  have t2 : decide (n > 24) = false := decide_eq_false hn24
  obtain ⟨m, rfl⟩ : ∃ m : Nat, n = (m : Int) := ⟨n.toNat, by omega⟩
  have HM24 := Lib.hid (show m ≤ 24 by omega)
  have HXN0 := Lib.hid (fun (h : bt = true) (h3 : takeT m t = none) => HR6.out (HBT.out.trans h) m rfl HM24.out h3)
  have HXS0 := Lib.hid (fun (h : bt = true) (l : List TM) (u : TM) (h3 : takeT m t = some (l, u)) => HR0.out (HBT.out.trans h) m rfl HM24.out l u h3)
  have HGT0 := Lib.hid (fun (h : bt = true) => (shapedB_true.1 (HBT.out.trans h)).2.2)
  have HRF := Lib.hid (fun (h : bt = false) => HR5.out (by rw [HBT.out, h]; rfl))
  have CG := Lib.hid (fun (V : World) => growM_any m (by have := HM24.out; omega) V)
  clear hn0 hn24 HR5 HR2 HR6 HR0
  go_enter Tryz.func190, Tryz.ntmps190
  go_wp2_with fail
  refine (CC0.out _ HW.out).mono ?_
  rintro e w0 ⟨rfl, hc0⟩
  have hb0 := Lib.hid (hc0.mono (Nat.le_refl _))
  clear hc0 CC0
  have b00 : w0.cell? ⟨w.heap.size, 0, none⟩ = some (.int .i64 t.k) := (KB.out _ hb0.out).1.cell 0
  have b01 : w0.cell? ⟨w.heap.size, 1, none⟩ = some (.int .i64 t.n) := (KB.out _ hb0.out).1.cell 1
  have b02 : w0.cell? ⟨w.heap.size, 2, none⟩ = some (.slice A_t t.l.length c_t) := (KB.out _ hb0.out).1.cell 2
  have b10 : w0.cell? ⟨w.heap.size + 1, 0, none⟩ = some (.int .i64 0) := (KB.out _ hb0.out).2.cell 0
  have b11 : w0.cell? ⟨w.heap.size + 1, 1, none⟩ = some (.int .i64 0) := (KB.out _ hb0.out).2.cell 1
  have b12 : w0.cell? ⟨w.heap.size + 1, 2, none⟩ = some (.slice none 0 0) := (KB.out _ hb0.out).2.cell 2
  have hfz : ∀ o, w0.frozen? ⟨w.heap.size + 1, o, none⟩ = false := fun o => (KB.out _ hb0.out).2.cold o
  cases bt with
  | false =>
    have HE := Lib.hid (HRF.out rfl)
    clear HXN0 HXS0 HGT0 HRF
    have B5 := (((KB.out _ hb0.out).2.at_ 0 (.int .i64 0)).at_ 1 (.int .i64 0)).at_ 2 (.slice none 0 0)
    have HS0 := Lib.hid (B5.cell 0)
    have HS1 := Lib.hid (B5.cell 1)
    have HS2 := Lib.hid (B5.cell 2)
    have HBF := Lib.hid (HW.out.trans (hb0.out.mono (by simp <;> omega)))
    clear B5
    go_wp2_with fail
    refine bodyPost_ret (v := .tuple #[.slice none 0 0, .agg #[.int .i64 0, .int .i64 0, .slice none 0 0], .int .i64 5]) (by simp [results, Tryz.results190, go_sem, HS0.out, HS1.out, HS2.out]) rfl ?_
    rw [HE.out]
    exact gives_zero HBF.out (by omega)
  | true =>
  have HXN := Lib.hid (HXN0.out rfl)
  have HXS := Lib.hid (HXS0.out rfl)
  have HGT := Lib.hid (HGT0.out rfl)
  have hb0s := hb0.out.size
  simp at hb0s
  clear HRF HXN0 HXS0 HGT0
  go_wp2_with fail
  refine (CCP.out _ (HW.out.trans (hb0.out.mono (by simp <;> omega)))).mono ?_
  rintro e w2 (⟨hs, A', cap', P, rfl, hn, hp, hc, hb2⟩ | ⟨hs, _⟩)
  rotate_left
  · exact absurd (HBT.out.symm.trans hs) (by decide)
  have HN2 := Lib.hid hn.term
  have HP2 := Lib.hid hp
  have hbx := hb0.out.trans (hb2.mono hb0.out.size)
  have hzz2 := hb2.size
  have HBX := Lib.hid hbx
  clear hn hp hc hb2 hs b00 b01 b02 b10 b11 b12 hfz hbx
  have b00 : w2.cell? ⟨w.heap.size, 0, none⟩ = some (.int .i64 t.k) := (KB.out _ HBX.out).1.cell 0
  have b01 : w2.cell? ⟨w.heap.size, 1, none⟩ = some (.int .i64 t.n) := (KB.out _ HBX.out).1.cell 1
  have b02 : w2.cell? ⟨w.heap.size, 2, none⟩ = some (.slice A_t t.l.length c_t) := (KB.out _ HBX.out).1.cell 2
  have b10 : w2.cell? ⟨w.heap.size + 1, 0, none⟩ = some (.int .i64 0) := (KB.out _ HBX.out).2.cell 0
  have b11 : w2.cell? ⟨w.heap.size + 1, 1, none⟩ = some (.int .i64 0) := (KB.out _ HBX.out).2.cell 1
  have b12 : w2.cell? ⟨w.heap.size + 1, 2, none⟩ = some (.slice none 0 0) := (KB.out _ HBX.out).2.cell 2
  have hfz : ∀ o, w2.frozen? ⟨w.heap.size + 1, o, none⟩ = false := fun o => (KB.out _ HBX.out).2.cold o
  have hfz1 : ∀ o, w2.frozen? ⟨w.heap.size, o, none⟩ = false := fun o => (KB.out _ HBX.out).1.cold o
  rw [termV]
  go_wp2_with fail
  refine (CG.out _).mono ?_
  rintro e w3' ⟨v0, rfl, ho0, hbg⟩
  obtain ⟨a0, cc0, rfl⟩ := own_sliceM ho0
  obtain ⟨w3, hw3⟩ : ∃ w3, (((w2.setCell ⟨w.heap.size, 0, none⟩ (.int .i64 t.k)).setCell ⟨w.heap.size, 1, none⟩ (.int .i64 t.n)).setCell ⟨w.heap.size, 2, none⟩ (.slice A' t.l.length cap')) = w3 := ⟨_, rfl⟩
  have hz3 : w3.heap.size = w2.heap.size := by rw [← hw3, size_three]
  rw [hw3] at ho0 hbg
  have hk1 : Bk w3 w.heap.size 25 #[.int .i64 t.k, .int .i64 t.n, .slice A' t.l.length cap'] := by rw [← hw3]; exact (((KB.out _ HBX.out).1.at_ 0 (.int .i64 t.k)).at_ 1 (.int .i64 t.n)).at_ 2 (.slice A' t.l.length cap')
  have hk2 : Bk w3 (w.heap.size + 1) 25 #[.int .i64 0, .int .i64 0, .slice none 0 0] := by rw [← hw3]; exact (((KB.out _ HBX.out).2.far (by simp) _).far (by simp) _).far (by simp) _
  have hbw3 : Below w.heap.size w w3 := by rw [← hw3]; exact (((HW.out.trans (HBX.out.mono (by simp <;> omega))).setCell (by simp) _).setCell (by simp) _).setCell (by simp) _
  have hu3 : IsTerm w3 (w.heap.size + 2) w3.heap.size t A' cap' := by
    rw [hz3, ← hw3]
    exact (HN2.out.three (g := w.heap.size) (fun b hb e => by have := HP2.out b hb; omega) _ _ _).imp (fun _ _ _ => rfl) (fun b hb => by have := HP2.out b hb; exact ⟨by omega, by omega⟩)
  have hzg := hbg.size
  have HO0 := Lib.hid ho0
  have HS1 := Lib.hid (hk1.below hbg (by omega))
  have HS2 := Lib.hid (hk2.below hbg (by omega))
  have HS3 := Lib.hid (hbw3.trans (hbg.mono hbw3.size))
  have HS4 := Lib.hid (hu3.kept hbg (Nat.le_refl _))
  have HBOX : Hid (¬ (w.heap.size + 2 ≤ w.heap.size ∧ w.heap.size < w3.heap.size) ∧ ¬ (w.heap.size + 2 ≤ w.heap.size + 1 ∧ w.heap.size + 1 < w3.heap.size) ∧ w.heap.size + 2 ≤ w3.heap.size) := Lib.hid (by omega)
  clear hk1 hk2 hbw3 hu3 hbg hw3 ho0 b00 b01 b02 b10 b11 b12 hfz hfz1
  go_wp2_with fail
  go_loopw [7, 24] (SplitRel t m w (w.heap.size + 2) w3.heap.size w3.heap.size) (fun _ iv _ => m - (intOf iv).toNat)
  case atStart =>
    exact ⟨0, t, A', cap', [], Nat.zero_le _, rfl, HS3.out, HS1.out, HS2.out, ⟨HO0.out, fun b hb => ⟨by omega, fun e => by have := HO0.out.lt b e; omega⟩, fun _ h => by cases h⟩, rfl, HS4.out, HGT.out, by rw [Nat.sub_zero]; simp, hzg⟩
  case round =>
    have HB0 : Hid (w3.heap.size ≤ wr.heap.size) := Lib.hid (by obtain ⟨_, _, _, _, _, _, _, _, _, _, _, _, _, _, _, h⟩ := hrel; exact h)
    obtain ⟨i, u, A1, c1, ps, hi1, rfl, hB, b1, b2, hrow, hps, hu, hgu, htk, hHi⟩ := hrel
    have hz := hB.size
    have hlt2 := b2.lt
    obtain ⟨a1, k1, rfl⟩ := own_sliceM hrow.row
    have HB1 := Lib.hid b1
    have HB2 := Lib.hid b2
    have HU := Lib.hid hu
    have HGU := Lib.hid hgu
    have HTK := Lib.hid htk
    have HBB := Lib.hid hB
    have HROW := Lib.hid hrow
    have HPS := Lib.hid hps
    have hfz1 : ∀ q, wr.frozen? ⟨w.heap.size, q, none⟩ = false := fun q => b1.cold q
    obtain ⟨y0, y1, y2, yl⟩ := (TBox.of b1 : TBox wr w.heap.size u.k u.n (.slice A1 u.l.length c1))
    clear b1 b2 hu hgu htk hrow hps
    have hm9 : (m : Int) ≤ 24 := by have := HM24.out; omega
    by_cases hil : i < m
    · have hi1' : (i : Int) < (m : Int) := by omega
      have hi0' : (0 : Int) ≤ (i : Int) := by omega
      by_cases hk : u.k = 3
      rotate_left
      · have hno : takeT m t = none := by
          rw [HTK.out, show m - i = (m - i - 1) + 1 by omega, takeT_not hk]; rfl
        have HE := Lib.hid (HXN.out hno)
        have tk : (u.k != 3) = true := by simpa using hk
        have tk2 : (u.k == 3) = false := by simpa using hk
        have hfz : ∀ q, wr.frozen? ⟨w.heap.size + 1, q, none⟩ = false := fun q => HB2.out.cold q
        have d0 : wr.cell? ⟨w.heap.size + 1, 0, none⟩ = some (.int .i64 0) := HB2.out.cell 0
        have d1 : wr.cell? ⟨w.heap.size + 1, 1, none⟩ = some (.int .i64 0) := HB2.out.cell 1
        have d2 : wr.cell? ⟨w.heap.size + 1, 2, none⟩ = some (.slice none 0 0) := HB2.out.cell 2
        have B5 := ((HB2.out.at_ 0 (.int .i64 0)).at_ 1 (.int .i64 0)).at_ 2 (.slice none 0 0)
        have HS0 := Lib.hid (B5.cell 0)
        have HS1 := Lib.hid (B5.cell 1)
        have HS2 := Lib.hid (B5.cell 2)
        clear B5 hno hk
        go_wp2_with fail
        refine bodyPost_ret (v := .tuple #[.slice none 0 0, .agg #[.int .i64 0, .int .i64 0, .slice none 0 0], .int .i64 6]) (by simp [results, Tryz.results190, go_sem, HS0.out, HS1.out, HS2.out]) rfl ?_
        rw [HE.out]
        exact gives_zero HBB.out (by omega)
      · obtain ⟨nn, a, b, rfl, hga, hgb⟩ := pi_parts HGU.out hk
        obtain ⟨bk, o, F, C, hA, hq1, hq2, hx, hnode⟩ := HU.out.sub 0 (by simp)
        obtain ⟨bk2, o2, G, D, hA2, _, _, hy, hnode2⟩ := HU.out.sub 1 (by simp)
        subst hA
        obtain ⟨rfl, rfl⟩ : bk = bk2 ∧ o = o2 := by
          injection hA2 with q
          injection q with q1 q2
          exact ⟨q1, q2⟩
        simp only [List.getElem_cons_zero, List.getElem_cons_succ, Nat.zero_mul, Nat.add_zero, Nat.one_mul] at hx hy hnode hnode2
        have hbw : bk < wr.heap.size := by omega
        have hst : takeT m t = (takeT (m - (i + 1)) b).map (fun p => ((ps.map (·.1) ++ [a]) ++ p.1, p.2)) := by
          rw [HTK.out, show m - i = (m - (i + 1)) + 1 by omega, takeT_pi, Option.map_map]
          congr 1
          funext p
          simp
        have HST := Lib.hid hst
        have HNA := Lib.hid hnode
        have HNB := Lib.hid hnode2
        have HGB := Lib.hid hgb
        have HX := Lib.hid hx
        have HY := Lib.hid hy
        change wr.cell? ⟨w.heap.size, 0, none⟩ = some (.int .i64 3) at y0
        change wr.cell? ⟨w.heap.size, 1, none⟩ = some (.int .i64 nn) at y1
        change wr.cell? ⟨w.heap.size, 2, none⟩ = some (.slice (some ⟨bk, o, none⟩) 2 c1) at y2
        have HBQ : Hid (¬ (w.heap.size + 2 ≤ w.heap.size ∧ w.heap.size < w3.heap.size) ∧ ¬ (w.heap.size + 2 ≤ w.heap.size + 1 ∧ w.heap.size + 1 < w3.heap.size) ∧ w.heap.size + 2 ≤ w3.heap.size) := HBOX
        have HKS := Lib.hid (fun (V : World) (hV : Below wr.heap.size wr V) => (show V.cell? ⟨w.heap.size, 2, none⟩ = some (.slice (some ⟨bk, o, none⟩) 2 c1) ∧ V.cell? ⟨bk, o, none⟩ = some (.int .i64 a.k) ∧ V.cell? ⟨bk, o + 1, none⟩ = some (.int .i64 a.n) ∧ V.cell? ⟨bk, o + 2, none⟩ = some (.slice F a.l.length C) ∧ V.cell? ⟨bk, o + 3, none⟩ = some (.int .i64 b.k) ∧ V.cell? ⟨bk, o + 3 + 1, none⟩ = some (.int .i64 b.n) ∧ V.cell? ⟨bk, o + 3 + 2, none⟩ = some (.slice G b.l.length D) from by
          obtain ⟨x0, x1, x2⟩ := HX.out.kept hV hbw
          obtain ⟨z0, z1, z2⟩ := HY.out.kept hV hbw
          exact ⟨((HB1.out.below hV (by omega)).cell 2), x0, x1, x2, z0, z1, z2⟩))
        have HFIN : Hid (∀ (V0 w4 : World) (v2 : Value), Below wr.heap.size wr V0 → AppTo V0 (w3.heap.size) 25 3 (.slice a1 ps.length k1) (ps.length + 1) (flatM ps ++ cellsM (a, F, C)) v2 w4 →
            (w4.cell? ⟨w.heap.size, 2, none⟩ = some (.slice (some ⟨bk, o, none⟩) 2 c1) ∧ w4.cell? ⟨bk, o, none⟩ = some (.int .i64 a.k) ∧ w4.cell? ⟨bk, o + 1, none⟩ = some (.int .i64 a.n) ∧ w4.cell? ⟨bk, o + 2, none⟩ = some (.slice F a.l.length C) ∧ w4.cell? ⟨bk, o + 3, none⟩ = some (.int .i64 b.k) ∧ w4.cell? ⟨bk, o + 3 + 1, none⟩ = some (.int .i64 b.n) ∧ w4.cell? ⟨bk, o + 3 + 2, none⟩ = some (.slice G b.l.length D)) ∧ (∀ q, w4.frozen? ⟨w.heap.size, q, none⟩ = false) ∧ w4.cell? ⟨w.heap.size, 0, none⟩ = some (.int .i64 3) ∧ w4.cell? ⟨w.heap.size, 1, none⟩ = some (.int .i64 nn) ∧
            Hid (SplitRel t m w (w.heap.size + 2) (w3.heap.size) (w3.heap.size) v2 (.int .i64 ((i + 1 : Nat) : Int)) (((w4.setCell ⟨w.heap.size, 0, none⟩ (.int .i64 b.k)).setCell ⟨w.heap.size, 1, none⟩ (.int .i64 b.n)).setCell ⟨w.heap.size, 2, none⟩ (.slice G b.l.length D)))) := Lib.hid (by
          intro V0 w4 v2 hV ha4
          have hVz := hV.size
          obtain ⟨n1, n2, n3⟩ := HBQ.out
          have hrowV := HROW.out.below hV
          have hlt0 := hrowV.row.lt
          have hne : ∀ g, g < w3.heap.size → some g ≠ (Value.slice a1 ps.length k1).ownBlock := fun g hg e => by have := hlt0 g e.symm; omega
          have hnu : ∀ g, w.heap.size + 2 ≤ g ∧ g < w3.heap.size → some g ≠ (Value.slice a1 ps.length k1).ownBlock := fun g hg e => (hrowV.far g hg).2 e.symm
          obtain ⟨k0, x0, x1, x2, z0, z1, z2⟩ := HKS.out V0 hV
          have cu := fun z => ha4.2.1.cell_far ⟨bk, z, none⟩ (by show bk < _; omega) (hnu bk ⟨hq1, hq2⟩)
          have K1 := (HB1.out.below hV (by omega)).grown ha4.2.1 (hne _ (by omega))
          have K2 := (HB2.out.below hV (by omega)).grown ha4.2.1 (hne _ (by omega))
          refine ⟨⟨K1.cell 2, (cu _).trans x0, (cu _).trans x1, (cu _).trans x2, (cu _).trans z0, (cu _).trans z1, (cu _).trans z2⟩, fun q => K1.cold q, K1.cell 0, K1.cell 1, ?_⟩
          have hp := hrowV.push (Pn := fun b => w.heap.size + 2 ≤ b ∧ b < w3.heap.size) (p := (a, F, C)) (HNA.out.kept hV (by omega)) (fun b hb => ⟨by omega, fun e => hnu b hb e.symm⟩) ha4.1 ha4.2.1 ha4.2.2
          have hp2 : TermRow w4 (w3.heap.size) 25 v2 (ps ++ [(a, F, C)]) (fun b => w.heap.size + 2 ≤ b ∧ b < w3.heap.size) := ⟨hp.row, fun b hb => hp.far b (.inl hb), fun p hp' => (hp.node p hp').imp (fun _ _ _ => rfl) (fun b hb => hb.elim id id)⟩
          have hw4 := ha4.2.1.size
          have hBw4 : Below w.heap.size w w4 := (HBB.out.trans (hV.mono hz)).grown ha4.2.1 (by omega) (fun g e => by have := hlt0 g e; omega)
          have hub : IsTerm w4 (w.heap.size + 2) (w3.heap.size) b G D := HNB.out.imp (fun q oo h1 h2 => (ha4.2.1.cell_far ⟨q, oo, none⟩ (by show q < _; omega) (hnu q ⟨h1, h2⟩)).trans (hV.cell (p := ⟨q, oo, none⟩) (by show q < _; omega))) (Nat.le_refl _) (Nat.le_refl _)
          refine ⟨i + 1, b, G, D, ps ++ [(a, F, C)], by omega, rfl, ((hBw4.setCell (by simp) _).setCell (by simp) _).setCell (by simp) _, ((K1.at_ 0 (.int .i64 b.k)).at_ 1 (.int .i64 b.n)).at_ 2 (.slice G b.l.length D), ((K2.far (by simp) _).far (by simp) _).far (by simp) _, ?_, by have := HPS.out; simp; omega, ?_, HGB.out, by rw [List.map_append]; exact HST.out, by rw [size_three]; omega⟩
          · exact ((hp2.setCell (a := ⟨w.heap.size, 0, none⟩) (by show w.heap.size < _; omega) (fun b hb e => n1 (by have e2 : b = w.heap.size := e; have h1 := hb.1; have h2 := hb.2; omega)) _).setCell (a := ⟨w.heap.size, 1, none⟩) (by show w.heap.size < _; omega) (fun b hb e => n1 (by have e2 : b = w.heap.size := e; have h1 := hb.1; have h2 := hb.2; omega)) _).setCell (a := ⟨w.heap.size, 2, none⟩) (by show w.heap.size < _; omega) (fun b hb e => n1 (by have e2 : b = w.heap.size := e; have h1 := hb.1; have h2 := hb.2; omega)) _
          · exact TermIn.three hub (fun b hb e => n1 (by have e2 : b = w.heap.size := e; have h1 := hb.1; have h2 := hb.2; omega)) _ _ _)
        have hps9 : ps.length ≤ 24 := by have := HPS.out; have := HM24.out; omega
        have HSZ : Hid (w3.heap.size ≤ wr.heap.size) := HB0
        have HD1 := Lib.hid ((Below.refl wr.heap.size wr).drew)
        have HD2 := Lib.hid (show Below wr.heap.size wr (wr.drew.alloc (.cells #[.int .i64 a.k, .int .i64 a.n, .slice F a.l.length C] 25)) from ((Below.refl wr.heap.size wr).drew).alloc (Nat.le_refl _) _)
        obtain ⟨_, x0, x1, x2, z0, z1, z2⟩ := HKS.out _ (Below.refl _ _)
        have tk : ((3 : Int) != 3) = false := rfl
        clear hst hnode hnode2 hx hy hk hga hgb hi1 hil hA2
        go_wp2_with fail
        go_region_law
          (first
          | (refine step_app rfl (.tmp 30) (.tmp 35) 23 rfl _ 25 i0 (.agg #[.int .i64 0, .int .i64 0, .slice none 0 0]) 3 40 Tryz.underlying23 hi0 hz0 hz1 hz2 rfl (by decide) (.slice a1 ps.length k1) ps.length (flatM ps) rfl (HROW.out.below HD2.out).row (some ⟨wr.heap.size, 0, none⟩) 1 1 (cellsM (a, F, C)) rfl (src_at _ _ _ (by simp) rfl) (cellsM_one _) (by unfold maxLen; omega) (by omega) (by have := HSZ.out; simp; omega) ?_
             rintro v2 w4 ha4
             obtain ⟨a4, c4, rfl⟩ := own_sliceM ha4.1
             obtain ⟨⟨k2, f0, f1, f2, g0, g1, g2⟩, hfz, k0, k1', HR⟩ := HFIN.out _ w4 _ HD2.out ha4
             clear ha4))
        all_goals
          go_wp2_with fail
          go_roundw
          case rel => exact HR.out
          case measure => simp [intOf]; omega
    · obtain rfl : i = m := by omega
      have hfull : takeT i t = some (ps.map (·.1), u) := by
        rw [HTK.out, Nat.sub_self, takeT]
        simp
      have HE := Lib.hid (HXS.out _ _ hfull)
      have hge : ¬ (i : Int) < (i : Int) := by omega
      have hfz : ∀ q, wr.frozen? ⟨w.heap.size + 1, q, none⟩ = false := fun q => HB2.out.cold q
      have d0 : wr.cell? ⟨w.heap.size + 1, 0, none⟩ = some (.int .i64 0) := HB2.out.cell 0
      have d1 : wr.cell? ⟨w.heap.size + 1, 1, none⟩ = some (.int .i64 0) := HB2.out.cell 1
      have d2 : wr.cell? ⟨w.heap.size + 1, 2, none⟩ = some (.slice none 0 0) := HB2.out.cell 2
      have HBQ : Hid (¬ (w.heap.size + 2 ≤ w.heap.size ∧ w.heap.size < w3.heap.size) ∧ ¬ (w.heap.size + 2 ≤ w.heap.size + 1 ∧ w.heap.size + 1 < w3.heap.size) ∧ w.heap.size + 2 ≤ w3.heap.size) := HBOX
      have HFIN2 : Hid (Bk ((((wr.setCell ⟨w.heap.size + 1, 0, none⟩ (.int .i64 u.k)).setCell ⟨w.heap.size + 1, 1, none⟩ (.int .i64 u.n)).setCell ⟨w.heap.size + 1, 2, none⟩ (.slice A1 u.l.length c1)).drew) (w.heap.size + 1) 25 #[.int .i64 u.k, .int .i64 u.n, .slice A1 u.l.length c1] ∧
          Hid (GivesS (fun b => w.heap.size ≤ b) (ps.map (·.1), u, 0) w (.returned (.tuple #[.slice a1 ps.length k1, .agg #[.int .i64 u.k, .int .i64 u.n, .slice A1 u.l.length c1], .int .i64 0])) ((((wr.setCell ⟨w.heap.size + 1, 0, none⟩ (.int .i64 u.k)).setCell ⟨w.heap.size + 1, 1, none⟩ (.int .i64 u.n)).setCell ⟨w.heap.size + 1, 2, none⟩ (.slice A1 u.l.length c1)).drew))) := Lib.hid (by
        obtain ⟨n1, n2, n3⟩ := HBQ.out
        have hs := ((HROW.out.setCell (a := ⟨w.heap.size + 1, 0, none⟩) (by show w.heap.size + 1 < _; omega) (fun b hb e => n2 (by have e2 : b = w.heap.size + 1 := e; have h1 := hb.1; have h2 := hb.2; omega)) (.int .i64 u.k)).setCell (a := ⟨w.heap.size + 1, 1, none⟩) (by show w.heap.size + 1 < _; omega) (fun b hb e => n2 (by have e2 : b = w.heap.size + 1 := e; have h1 := hb.1; have h2 := hb.2; omega)) (.int .i64 u.n)).setCell (a := ⟨w.heap.size + 1, 2, none⟩) (by show w.heap.size + 1 < _; omega) (fun b hb e => n2 (by have e2 : b = w.heap.size + 1 := e; have h1 := hb.1; have h2 := hb.2; omega)) (.slice A1 u.l.length c1)
        have hbk := ((HB2.out.at_ 0 (.int .i64 u.k)).at_ 1 (.int .i64 u.n)).at_ 2 (.slice A1 u.l.length c1)
        have hu3 := TermIn.three HU.out (g := w.heap.size + 1) (fun b hb e => n2 (by have e2 : b = w.heap.size + 1 := e; have h1 := hb.1; have h2 := hb.2; omega)) (.int .i64 u.k) (.int .i64 u.n) (.slice A1 u.l.length c1)
        have hzz := size_three wr (w.heap.size + 1) (.int .i64 u.k) (.int .i64 u.n) (.slice A1 u.l.length c1)
        have hbb : Below w.heap.size w (((wr.setCell ⟨w.heap.size + 1, 0, none⟩ (.int .i64 u.k)).setCell ⟨w.heap.size + 1, 1, none⟩ (.int .i64 u.n)).setCell ⟨w.heap.size + 1, 2, none⟩ (.slice A1 u.l.length c1)) := ((HBB.out.setCell (by simp) _).setCell (by simp) _).setCell (by simp) _
        obtain ⟨W, hW⟩ : ∃ W, (((wr.setCell ⟨w.heap.size + 1, 0, none⟩ (.int .i64 u.k)).setCell ⟨w.heap.size + 1, 1, none⟩ (.int .i64 u.n)).setCell ⟨w.heap.size + 1, 2, none⟩ (.slice A1 u.l.length c1)) = W := ⟨_, rfl⟩
        rw [hW] at hs hbk hu3 hzz hbb ⊢
        have hd := Below.drew (Below.refl W.heap.size W)
        refine ⟨hbk.below hd hbk.lt, a1, k1, A1, c1, by rw [List.length_map]; rfl, TermIn.imp (fun b o hb => hd.cell (p := ⟨b, o, none⟩) hb.2) (fun b hb => hb) (hs.parentV (Q := fun b => w.heap.size ≤ b) (fun b hb => by have h1 := hb.1; have h2 := hb.2; first | exact Or.inl h2 | (show w.heap.size ≤ b; omega)) (fun b hb => by first | (show w.heap.size ≤ b; omega) | (right; omega)) 0 0), ?_, hbb.trans (hd.mono hbb.size)⟩
        exact TermIn.imp (fun b o hb => hd.cell (p := ⟨b, o, none⟩) (by have := hb.2; show b < _; omega)) (fun b hb => ⟨by have h1 := hb.1; have h2 := hb.2; first | exact Or.inl h2 | (show w.heap.size ≤ b; omega), by have h2 := hb.2; show b < W.heap.size; omega⟩) hu3)
      have HPL := Lib.hid (show ps.length = i from HPS.out)
      clear hfull hi1 hil
      go_wp2_with fail
      go_region
      all_goals
        obtain ⟨B5, HR⟩ := HFIN2.out
        have HS0 := Lib.hid (B5.cell 0)
        have HS1 := Lib.hid (B5.cell 1)
        have HS2 := Lib.hid (B5.cell 2)
        clear B5
        go_wp2_with fail
        refine bodyPost_ret (v := .tuple #[.slice a1 ps.length k1, .agg #[.int .i64 u.k, .int .i64 u.n, .slice A1 u.l.length c1], .int .i64 0]) (by simp [results, Tryz.results190, go_sem, HS0.out, HS1.out, HS2.out]) rfl ?_
        rw [HE.out]
        exact HR.out





def wholeX (t : TM) : List TM × TM × Int := if shapedB t then splitX t (pisN t) else ([], .node 0 0 [], 5)
theorem whole_no {t : TM} (h : shapedB t = false) : wholeX t = ([], .node 0 0 [], 5) := by unfold wholeX; rw [h]; rfl
theorem whole_yes {t : TM} (h : shapedB t = true) : wholeX t = splitX t (pisN t) := by unfold wholeX; rw [h, if_pos rfl]
/-- Where the count stands. -/
def WholeRel (t : TM) (Lo : Nat) (A_t : Option Addr) (c_t : Nat) (w : World) (nv bv : Value) (wr : World) : Prop :=
  ∃ (i g : Nat) (u : TM) (A : Option Addr) (c : Nat), nv = .int .i64 i ∧ bv = .pointer (some ⟨g, 0, none⟩) ∧ Below w.heap.size w wr ∧ Bk wr w.heap.size 25 #[.int .i64 t.k, .int .i64 t.n, .slice A_t t.l.length c_t] ∧
    Bk wr (w.heap.size + 1) 25 #[.int .i64 0, .int .i64 0, .slice none 0 0] ∧ Lo ≤ g ∧ Bk wr g 25 #[.int .i64 u.k, .int .i64 u.n, .slice A u.l.length c] ∧ IsTerm wr 0 w.heap.size u A c ∧ tgoodB u = true ∧ i + pisN u = pisN t
set_option maxHeartbeats 8000000 in
theorem whole_any (t : TM) (A_t : Option Addr) (c_t : Nat) (w : World) (ht : IsTerm w 0 w.heap.size t A_t c_t) (hS : ShapesM w) :
    Calls Tryz.prog 165 #[termV t A_t c_t] w (GivesS (fun b => w.heap.size ≤ b) (wholeX t) w) := by
  have HW := Lib.hid (show Below w.heap.size w ((w.alloc (.cells #[.int .i64 t.k, .int .i64 t.n, .slice A_t t.l.length c_t] 25)).alloc (.cells #[.int .i64 0, .int .i64 0, .slice none 0 0] 25)) from ((Below.refl w.heap.size w).alloc (by simp <;> omega) (.cells #[.int .i64 t.k, .int .i64 t.n, .slice A_t t.l.length c_t] 25)).alloc (by simp <;> omega) (.cells #[.int .i64 0, .int .i64 0, .slice none 0 0] 25))
  have KB := Lib.hid (fun (V : World) (hV : Below ((w.alloc (.cells #[.int .i64 t.k, .int .i64 t.n, .slice A_t t.l.length c_t] 25)).alloc (.cells #[.int .i64 0, .int .i64 0, .slice none 0 0] 25)).heap.size ((w.alloc (.cells #[.int .i64 t.k, .int .i64 t.n, .slice A_t t.l.length c_t] 25)).alloc (.cells #[.int .i64 0, .int .i64 0, .slice none 0 0] 25)) V) => (show Bk V w.heap.size 25 #[.int .i64 t.k, .int .i64 t.n, .slice A_t t.l.length c_t] ∧ Bk V (w.heap.size + 1) 25 #[.int .i64 0, .int .i64 0, .slice none 0 0] from ⟨((Bk.new w 25 _).alloc _).below hV (by simp <;> omega), (Bk.last (w.alloc (.cells #[.int .i64 t.k, .int .i64 t.n, .slice A_t t.l.length c_t] 25)) 25 #[.int .i64 0, .int .i64 0, .slice none 0 0] (g := w.heap.size + 1) (by simp)).below hV (by simp <;> omega)⟩))
  have CC0 := Lib.hid (fun (V : World) (hV : Below w.heap.size w V) => shaped_any t 0 w.heap.size A_t c_t V (ht.kept hV (Nat.le_refl _)) hV.size (hS.kept hV))
  have CSP := Lib.hid (fun (V : World) (hV : Below w.heap.size w V) => split_any t A_t c_t (pisN t) V ((ht.kept hV (Nat.le_refl _)).wide (Nat.le_refl _) hV.size) (hS.kept hV))
  have HT := Lib.hid (fun (V : World) (hV : Below w.heap.size w V) => (show IsTerm V 0 w.heap.size t A_t c_t from ht.kept hV (Nat.le_refl _)))
  obtain ⟨bt, hbt⟩ : ∃ b, shapedB t = b := ⟨_, rfl⟩
  rw [hbt] at CC0
  have HX0 := Lib.hid (fun (h : bt = false) => whole_no (hbt.trans h))
  have HX1 := Lib.hid (fun (h : bt = true) => whole_yes (hbt.trans h))
  have HG0 := Lib.hid (fun (h : bt = true) => (shapedB_true.1 (hbt.trans h)).2.2)
  have HD0 := Lib.hid (fun (h : bt = true) => (show pisN t ≤ 128 from by have h1 := pisN_depth t; have h2 := (shapedB_true.1 (hbt.trans h)).2.1; omega))
  obtain ⟨RR, hRR⟩ : ∃ RR, wholeX t = RR := ⟨_, rfl⟩
  rw [hRR] at HX0 HX1 ⊢
  clear ht hS hbt hRR
  unfold termV at CC0 CSP ⊢
  go_enter Tryz.func165, Tryz.ntmps165
  go_wp2_with fail
  refine (CC0.out _ HW.out).mono ?_
  rintro e w0 ⟨rfl, hc0⟩
  have hb0 := Lib.hid (hc0.mono (Nat.le_refl _))
  clear hc0 CC0
  have b00 : w0.cell? ⟨w.heap.size, 0, none⟩ = some (.int .i64 t.k) := (KB.out _ hb0.out).1.cell 0
  have b01 : w0.cell? ⟨w.heap.size, 1, none⟩ = some (.int .i64 t.n) := (KB.out _ hb0.out).1.cell 1
  have b02 : w0.cell? ⟨w.heap.size, 2, none⟩ = some (.slice A_t t.l.length c_t) := (KB.out _ hb0.out).1.cell 2
  have b10 : w0.cell? ⟨w.heap.size + 1, 0, none⟩ = some (.int .i64 0) := (KB.out _ hb0.out).2.cell 0
  have b11 : w0.cell? ⟨w.heap.size + 1, 1, none⟩ = some (.int .i64 0) := (KB.out _ hb0.out).2.cell 1
  have b12 : w0.cell? ⟨w.heap.size + 1, 2, none⟩ = some (.slice none 0 0) := (KB.out _ hb0.out).2.cell 2
  have hfz : ∀ o, w0.frozen? ⟨w.heap.size + 1, o, none⟩ = false := fun o => (KB.out _ hb0.out).2.cold o
  cases bt with
  | false =>
    have HE := Lib.hid (HX0.out rfl)
    clear HX0 HX1 HG0 HD0
    have B5 := (((KB.out _ hb0.out).2.at_ 0 (.int .i64 0)).at_ 1 (.int .i64 0)).at_ 2 (.slice none 0 0)
    have HS0 := Lib.hid (B5.cell 0)
    have HS1 := Lib.hid (B5.cell 1)
    have HS2 := Lib.hid (B5.cell 2)
    have HBF := Lib.hid (HW.out.trans (hb0.out.mono (by simp <;> omega)))
    clear B5
    go_wp2_with fail
    refine bodyPost_ret (v := .tuple #[.slice none 0 0, .agg #[.int .i64 0, .int .i64 0, .slice none 0 0], .int .i64 5]) (by simp [results, Tryz.results165, go_sem, HS0.out, HS1.out, HS2.out]) rfl ?_
    rw [HE.out]
    exact gives_zero HBF.out (by omega)
  | true =>
  have HE1 := Lib.hid (HX1.out rfl)
  have HGT := Lib.hid (HG0.out rfl)
  have HDT := Lib.hid (HD0.out rfl)
  have HBW := Lib.hid (HW.out.trans (hb0.out.mono (by simp <;> omega)))
  have hsz0 := hb0.out.size
  simp at hsz0
  clear HX0 HX1 HG0 HD0
  go_wp2_with fail
  go_loopw [5, 6] (WholeRel t (w.heap.size + 2) A_t c_t w) (fun nv _ _ => pisN t - (intOf nv).toNat)
  case atStart =>
    exact ⟨0, w0.heap.size, t, A_t, c_t, rfl, rfl, HBW.out.alloc HBW.out.size _, (KB.out _ hb0.out).1.alloc _, (KB.out _ hb0.out).2.alloc _, by omega, Bk.new w0 _ _, HT.out _ (HBW.out.alloc HBW.out.size _), HGT.out, by omega⟩
  case round =>
    clear b00 b01 b02 b10 b11 b12 hfz hsz0
    obtain ⟨i, g, u, A1, c1, rfl, rfl, hB, b1, b2, hg, b3, hu, hgu, hct⟩ := hrel
    have hz := hB.size
    have hlt2 := b2.lt
    have hlt3 := b3.lt
    have HB1 := Lib.hid b1
    have HB2 := Lib.hid b2
    have HB3 := Lib.hid b3
    have HU := Lib.hid hu
    have HGU := Lib.hid hgu
    have HCN := Lib.hid hct
    have HBB := Lib.hid hB
    have HG2 := Lib.hid hg
    obtain ⟨y0, y1, y2, yl⟩ := (TBox.of b3 : TBox wr g u.k u.n (.slice A1 u.l.length c1))
    clear b3 hu hgu hct hg
    by_cases hk : u.k = 3
    · obtain ⟨nn, a, b, rfl, hga, hgb⟩ := pi_parts HGU.out hk
      obtain ⟨bk, o, F, C, hA, hq1, hq2, hx, hnode⟩ := HU.out.sub 0 (by simp)
      obtain ⟨bk2, o2, G, D, hA2, _, _, hy, hnode2⟩ := HU.out.sub 1 (by simp)
      subst hA
      obtain ⟨rfl, rfl⟩ : bk = bk2 ∧ o = o2 := by
        injection hA2 with q
        injection q with q1 q2
        exact ⟨q1, q2⟩
      simp only [List.getElem_cons_zero, List.getElem_cons_succ, Nat.zero_mul, Nat.add_zero, Nat.one_mul] at hx hy hnode hnode2
      have hbw : bk < wr.heap.size := by omega
      have HNB := Lib.hid hnode2
      have HGB := Lib.hid hgb
      have HCT := Lib.hid (show (i + 1) + pisN b = pisN t by have := HCN.out; rw [pisN_pi] at this; omega)
      obtain ⟨z0, z1, z2⟩ := hy
      change wr.cell? ⟨g, 0, none⟩ = some (.int .i64 3) at y0
      change wr.cell? ⟨g, 1, none⟩ = some (.int .i64 nn) at y1
      change wr.cell? ⟨g, 2, none⟩ = some (.slice (some ⟨bk, o, none⟩) 2 c1) at y2
      have hi9 : (i : Int) < 200 := by have := HCT.out; have := HDT.out; omega
      have hi0 : (0 : Int) ≤ (i : Int) := by omega
      have w1' : IntKind.i64.wrap ((i : Int) + 1) = ((i + 1 : Nat) : Int) := by rw [IntWalk.i64_in _ (by omega)]; omega
      have hmeas : pisN t - (i + 1) < pisN t - i := by have := HCT.out; omega
      have HMS := Lib.hid hmeas
      have tk : ((3 : Int) == 3) = true := rfl
      clear hnode hnode2 hx hk hga hgb hmeas hA2
      have HBN := Lib.hid (HBB.out.alloc hz (.cells #[.int .i64 b.k, .int .i64 b.n, .slice G b.l.length D] 25))
      have HR := Lib.hid (show WholeRel t (w.heap.size + 2) A_t c_t w (.int .i64 ((i + 1 : Nat) : Int)) (.pointer (some ⟨wr.heap.size, 0, none⟩)) (wr.alloc (.cells #[.int .i64 b.k, .int .i64 b.n, .slice G b.l.length D] 25)) from
        ⟨i + 1, wr.heap.size, b, G, D, rfl, rfl, HBN.out, HB1.out.alloc _, HB2.out.alloc _, by omega, Bk.new wr _ _, HNB.out.alloc (by omega) _, HGB.out, HCT.out⟩)
      clear b1 b2
      go_wp2_with fail
      go_roundw
      case rel => exact HR.out
      case measure => have := HMS.out; simp [intOf]; omega
    · have hp0 : pisN t = i := by have := HCN.out; rw [pisN_not hk] at this; omega
      have tk : (u.k == 3) = false := by simpa using hk
      obtain ⟨x0, x1, x2, _⟩ := (TBox.of b1 : TBox wr w.heap.size t.k t.n (.slice A_t t.l.length c_t))
      have CS := Lib.hid (CSP.out wr hB)
      rw [hp0] at CS HE1
      rw [← HE1.out] at CS
      obtain ⟨ls, x, er⟩ := RR
      unfold GivesS termV at CS
      have hw1 : w.heap.size < wr.heap.size := by omega
      clear b1 b2 hp0 hk
      go_wp2_with fail
      refine CS.out.mono ?_
      rintro e wf ⟨A', k', B', d', rfl, hl', hx', hbf⟩
      have HL := Lib.hid hl'
      have HX := Lib.hid hx'
      have hzf := hbf.size
      have HBF := Lib.hid (HBB.out.trans (hbf.mono hz))
      have K2 := HB2.out.below hbf (by omega)
      have hfz : ∀ q, wf.frozen? ⟨w.heap.size + 1, q, none⟩ = false := fun q => K2.cold q
      have d0 : wf.cell? ⟨w.heap.size + 1, 0, none⟩ = some (.int .i64 0) := K2.cell 0
      have d1 : wf.cell? ⟨w.heap.size + 1, 1, none⟩ = some (.int .i64 0) := K2.cell 1
      have d2 : wf.cell? ⟨w.heap.size + 1, 2, none⟩ = some (.slice none 0 0) := K2.cell 2
      have B5 := ((K2.at_ 0 (.int .i64 x.k)).at_ 1 (.int .i64 x.n)).at_ 2 (.slice B' x.l.length d')
      have HS0 := Lib.hid (B5.cell 0)
      have HS1 := Lib.hid (B5.cell 1)
      have HS2 := Lib.hid (B5.cell 2)
      clear B5 K2 hl' hx' hbf CS
      go_wp2_with fail
      refine bodyPost_ret (v := .tuple #[.slice A' ls.length k', .agg #[.int .i64 x.k, .int .i64 x.n, .slice B' x.l.length d'], .int .i64 er]) (by simp [results, Tryz.results165, go_sem, HS0.out, HS1.out, HS2.out]) rfl ?_
      exact ⟨A', k', B', d', rfl, (HL.out.three (fun b hb e => by have h1 : wr.heap.size ≤ b := hb.1; omega) _ _ _).imp (fun _ _ _ => rfl) (fun b hb => ⟨by have h1 : wr.heap.size ≤ b := hb.1; show w.heap.size ≤ b; omega, by rw [size_three]; exact hb.2⟩), (HX.out.three (fun b hb e => by have h1 : wr.heap.size ≤ b := hb.1; omega) _ _ _).imp (fun _ _ _ => rfl) (fun b hb => ⟨by have h1 : wr.heap.size ≤ b := hb.1; show w.heap.size ≤ b; omega, by rw [size_three]; exact hb.2⟩), ((HBF.out.setCell (by simp) _).setCell (by simp) _).setCell (by simp) _⟩


end Go.Proofs.YtchllgkgjompgaaGreatDoor
