/- parse.list over nodes: one after the other, as long as there are more, but not more than there may be. The reader alone is written. -/
import Derived.Test.YteaojmcfppbgiaaGreatDoorB2
import Derived.Test.YteaojmcfppbgiaaGreatDoorB1
import Derived.ProofKit
namespace Go.Proofs.YteaojmcfppbgiaaGreatDoor
open Go.RowKit
set_option linter.unusedVariables false
set_option maxRecDepth 100000

theorem infoN : (Tryz.prog.info? 36).map (fun i => (i.zero, i.size, i.bytes)) = some (some (.agg #[.int .i64 0, .int .i64 0, .string ⟨#[]⟩, .int .i64 0, .slice none 0 0]), 5, 64) := by kernel_rfl
theorem Kp.next {r : Nat} {w w1 w2 : World} (h : Kp r w w1) (hb : Below w.heap.size w1 w2) : Kp r w w2 := ⟨hb.os.trans h.os, hb.tape.trans h.tape, hb.output.trans h.output, Nat.le_trans h.size hb.size, fun k hk hr => (hb.block k hk).trans (h.block k hk hr)⟩
theorem IsNode.kp {w w' : World} {lo hi r : Nat} {t : RT} {A : Option Addr} {c : Nat} (h : IsNode w lo hi t A c) (hk : Kp r w w') (hhi : hi ≤ w.heap.size) (hr : r < lo) : IsNode w' lo hi t A c :=
  h.imp (fun b o h1 h2 => hk.cell o (by omega) (by omega)) (Nat.le_refl _) (Nat.le_refl _)
theorem NodeRow.kp {w w' : World} {base r : Nat} {e : TypeId} {v : Value} {ps : List (RT × Option Addr × Nat)} {P : Nat → Prop} (h : NodeRow w base e v ps P) (hk : Kp r w w') (hr : r < base) (hP : ∀ b, P b → base ≤ b) : NodeRow w' base e v ps P :=
  h.kept hk.size (h.row.kept (row := some r) hk (by
    cases hv : v.ownBlock with
    | none => simp
    | some k =>
      have := (h.row.lt k hv).1
      simp
      omega)) (fun b hb => hk.block b (h.far b hb).1 (fun e => by injection e with e; have := hP b hb; omega))

/-- A node, and the reader moved. -/
def TreeR (t : RT) (r g : Nat) (L : List Tk) (cap : Nat) (s' : St) (w : World) (e : Ending) (w' : World) : Prop :=
  ∃ A c, e = .returned (nodeV t A c) ∧ IsNode w' w.heap.size w'.heap.size t A c ∧ Rd w' r g L cap s' ∧ Kp r w w'
/-- A row of nodes, and the reader moved. -/
def ListR (l : List RT) (r g : Nat) (L : List Tk) (cap : Nat) (s' : St) (w : World) (e : Ending) (w' : World) : Prop :=
  ∃ A c, e = .returned (.slice A l.length c) ∧ l.length ≤ c ∧ c ≤ maxLen ∧ NodesAt w' w.heap.size w'.heap.size A l ∧ Rd w' r g L cap s' ∧ Kp r w w'
/-- What one call of function number f does. -/
def One (f : Nat) (r g : Nat) (L : List Tk) (cap : Nat) (s : St) (t : RT) (s' : St) : Prop :=
  ∀ w, Rd w r g L cap s → Calls Tryz.prog f #[.pointer (some ⟨r, 0, none⟩)] w (TreeR t r g L cap s' w)
/-- One after the other. -/
inductive Chain (L : List Tk) (one : St → RT → St → Prop) (more : Nat → Bool) (most : Nat) : Nat → St → List RT → St → Prop
  | stop {n : Nat} {s : St} : ¬ (s.e = 0 ∧ more s.k = true) → Chain L one more most n s [] s
  | full {n : Nat} {s : St} : s.e = 0 → more s.k = true → n = most → Chain L one more most n s [] (failS L s (tk L s.k).2.2 2)
  | next {n : Nat} {s s1 s2 : St} {t : RT} {l : List RT} : s.e = 0 → more s.k = true → n ≠ most → one s t s1 → Chain L one more most (n + 1) s1 l s2 → Chain L one more most n s (t :: l) s2
theorem chain_inv {L : List Tk} {one : St → RT → St → Prop} {more : Nat → Bool} {most n : Nat} {s s' : St} {l : List RT} (h : Chain L one more most n s l s') :
    (¬ (s.e = 0 ∧ more s.k = true) ∧ l = [] ∧ s = s') ∨ (s.e = 0 ∧ more s.k = true ∧ n = most ∧ l = [] ∧ failS L s (tk L s.k).2.2 2 = s') ∨ (s.e = 0 ∧ more s.k = true ∧ n ≠ most ∧ ∃ t l' s1, l = t :: l' ∧ one s t s1 ∧ Chain L one more most (n + 1) s1 l' s') := by
  cases h with
  | stop h => exact .inl ⟨h, rfl, rfl⟩
  | full h1 h2 h3 => exact .inr (.inl ⟨h1, h2, h3, rfl, rfl⟩)
  | next h1 h2 h3 h4 h5 => exact .inr (.inr ⟨h1, h2, h3, _, _, _, rfl, h4, h5⟩)
theorem chain_most {L : List Tk} {one : St → RT → St → Prop} {more : Nat → Bool} {most n : Nat} {s s' : St} {l : List RT} (h : Chain L one more most n s l s') : n ≤ most → n + l.length ≤ most := by
  induction h with
  | stop h => intro hn; simpa using hn
  | full h1 h2 h3 => intro hn; simpa using hn
  | next h1 h2 h3 h4 h5 ih => intro hn; have := ih (by omega); simp; omega
def vlen : Value → Nat
  | .slice _ n _ => n
  | _ => 0

set_option maxHeartbeats 4000000 in
theorem list_atoms {w : World} {r g : Nat} {L : List Tk} {cap : Nat} {s s' : St} {l : List RT} (h : Rd w r g L cap s) (hc : Chain L (One 155 r g L cap) (agB L) 8192 0 s l s') :
    Calls Tryz.prog 80 #[.pointer (some ⟨r, 0, none⟩), .int .i64 8192, .func (.func 156) #[.pointer (some ⟨r, 0, none⟩)] #[], .func (.func 155) #[.pointer (some ⟨r, 0, none⟩)] #[]] w (ListR l r g L cap s' w) := by
  obtain ⟨i0, hi0, hz0, hz1, hz2⟩ := info_parts infoN
  have HR := Lib.hid h
  have HC := Lib.hid hc
  have HM := Lib.hid (chain_most hc (Nat.zero_le _))
  have hrl := h.bk.lt
  clear h hc
  go_enter Tryz.func80, Tryz.ntmps80
  go_wp2_with fail
  go_loopw [9] (fun v wr => ∃ (pre l2 : List RT) (sx : St) (ps : List (RT × Option Addr × Nat)) (P : Nat → Prop), Hid (l = pre ++ l2) ∧ Hid (Chain L (One 155 r g L cap) (agB L) 8192 ps.length sx l2 s') ∧ Hid (NodeRow wr w.heap.size 36 v ps P) ∧ Hid (∀ b, P b → w.heap.size ≤ b) ∧ Hid (ps.map (·.1) = pre) ∧ Hid (Rd wr r g L cap sx) ∧ Hid (Kp r w wr))
    (fun v _ => l.length - vlen v)
  case atStart => exact ⟨[], l, s, [], fun _ => False, Lib.hid rfl, HC, Lib.hid (NodeRow.nil _ _ _), Lib.hid (fun _ h => h.elim), Lib.hid rfl, HR, Lib.hid (Kp.refl r w)⟩
  case round =>
    clear HR HC
    obtain ⟨pre, l2, sx, ps, P, HL, HC, HROW, HPP, HPS, HRD, HKP⟩ := hrel
    obtain ⟨A, c, hv⟩ := own_shapeN HROW.out.row
    subst hv
    have hrz := HKP.out.size
    have HLN : Hid (ps.length + l2.length = l.length) := Lib.hid (by rw [HL.out, List.length_append, ← HPS.out, List.length_map])
    obtain ⟨m, cc, h0, h1, h2, h3, hm, hcc⟩ := HRD.out.sz
    obtain ⟨c0, c1, c2, t0, t1, t2⟩ := HRD.out.cells hm hcc
    have hm0 : (0 : Int) < (m : Int) := by omega
    unfold maxLen at h3
    obtain ⟨k3, hk3⟩ : ∃ x, sx.k * 3 = x := ⟨_, rfl⟩
    rw [hk3] at c0 t0 t1 t2
    clear hm hcc hk3
    have hinv := chain_inv HC.out
    have HMT := Lib.hid (atomNext_tells HRD.out)
    have HOUT : Hid (∀ (W : World) (z : St), Hid (NodeRow W w.heap.size 36 (.slice A ps.length c) ps P) → l2 = [] → Rd W r g L cap z → z = s' → Kp r w W → ListR l r g L cap s' w (.returned (.slice A ps.length c)) W) := Lib.hid (by
      rintro W z hrow rfl hrd rfl hk
      have hl : ps.map (·.1) = l := by rw [HPS.out, HL.out, List.append_nil]
      have hn : ps.length = l.length := by rw [← hl, List.length_map]
      have hpar := hrow.out.parent (lo := w.heap.size) (Nat.le_refl _) HPP.out 0 0 ⟨#[]⟩ 0 (by decide)
      rw [hl] at hpar
      exact ⟨A, c, by rw [hn], hpar.bounds.2.1, hpar.bounds.2.2, hpar.sub, hrd, hk⟩)
    have HI := Lib.hid hinv
    clear hinv
    rcases HI.out with ⟨hx, hy, hz⟩ | ⟨hx1, hx2, hx3, hy, hz⟩ | ⟨hx1, hx2, hx3, t, l', s1, hy, hone, hch⟩
    · have HF := Lib.hid (HOUT.out wr sx HROW hy HRD.out hz HKP.out)
      by_cases he : sx.e = 0
      · have hmf : agB L sx.k = false := by
          cases hq : agB L sx.k with
          | false => rfl
          | true => exact absurd ⟨he, hq⟩ hx
        rw [hmf] at HMT
        have hb : (sx.e == 0) = true := by simpa using he
        clear hx hy hz HOUT HI HC HL HROW HPP HPS HKP HRD HLN hmf he
        go_wp2_with fail
        refine HMT.out.mono ?_; rintro e w' ⟨rfl, rfl⟩
        go_wp2_with fail
        go_ret
        exact HF.out
      · have hb : (sx.e == 0) = false := by simpa using he
        clear hx hy hz HOUT HI HC HL HROW HPP HPS HKP HRD HLN he HMT
        go_wp2_with fail
        go_ret
        exact HF.out
    · have hb : (sx.e == 0) = true := by simpa using hx1
      rw [hx2] at HMT
      have hfull : ((ps.length : Int) == 8192) = true := by rw [hx3]; decide
      obtain ⟨y, hyy⟩ : ∃ x, (tk L sx.k).2.2 = x := ⟨_, rfl⟩
      have HFM := Lib.hid (fail_moves HRD.out (tk L sx.k).2.2 2)
      rw [hz, hyy] at HFM
      rw [hyy] at t2
      have HK2 := Lib.hid (fun (V : World) (hk : Kp r wr V) (hrd : Rd V r g L cap s') => HOUT.out V s' (Lib.hid (HROW.out.kp hk hrl HPP.out)) hy hrd rfl (HKP.out.trans hk))
      clear hx1 hx2 hx3 hy hz HOUT HI HC HL HROW HPP HPS HKP HRD HLN hyy
      go_wp2_with fail
      refine HMT.out.mono ?_; rintro e w' ⟨rfl, rfl⟩
      go_wp2_with fail
      refine HFM.out.mono ?_; rintro e w2 ⟨rfl, hr2, hk2⟩
      have HF := Lib.hid (HK2.out w2 hk2 hr2)
      clear hr2 hk2
      go_wp2_with fail
      go_ret
      exact HF.out
    · have hb : (sx.e == 0) = true := by simpa using hx1
      rw [hx2] at HMT
      have hmost : ps.length ≤ 8192 := by have := HLN.out; have := HM.out; omega
      have hfull : ((ps.length : Int) == 8192) = false := by simp; omega
      have HONE := Lib.hid (hone wr HRD.out)
      unfold TreeR nodeV at HONE
      have HLL : Hid (l = (pre ++ [t]) ++ l') := Lib.hid (by rw [HL.out, hy]; simp)
      have HCH := Lib.hid hch
      have HPM := Lib.hid hmost
      have HLT : Hid (ps.length < l.length) := Lib.hid (by have := HLN.out; rw [hy] at this; simp at this; omega)
      clear hx1 hx2 hx3 hy hone hch HOUT HI HC HL HLN hmost
      go_wp2_with fail
      refine HMT.out.mono ?_; rintro e w' ⟨rfl, rfl⟩
      go_wp2_with fail
      refine HONE.out.mono ?_; rintro e w1 ⟨F', C', rfl, hn1, hr1, hk1⟩
      have hsz1 := hk1.size
      have HLT0 := Lib.hid HROW.out.row.lt
      have R1 := (HROW.out.kp hk1 hrl HPP.out).alloc (.cells #[.int .i64 t.k, .int .i64 t.a, .string t.s, .int .i64 t.n, .slice F' t.l.length C'] 36)
      have HR1 := Lib.hid R1
      have HN1 := Lib.hid hn1
      have HRD1 := Lib.hid hr1
      have HK1 := Lib.hid (HKP.out.trans hk1)
      clear R1 hn1 hr1 hk1 HROW HKP HRD
      go_wp2_with (at_builtin; refine wpList_app rfl _ _ 34 rfl w.heap.size 36 i0 (.agg #[.int .i64 0, .int .i64 0, .string ⟨#[]⟩, .int .i64 0, .slice none 0 0]) 5 64 Tryz.underlying34 hi0 hz0 hz1 hz2 rfl (by decide) _ _ _ rfl HR1.out.row (some ⟨w1.heap.size, 0, none⟩) 1 1 (cellsP (t, F', C')) rfl (src_at _ _ _ rfl rfl) (cellsP_one _) ?c3 ?c4 ?c5 ?_)
      case c3 => have := HPM.out; unfold maxLen; omega
      case c4 => have := HPM.out; omega
      case c5 => simp; omega
      rintro v2 w3 ⟨hown3, hg3, ho3⟩
      have hsz3 := hg3.size
      simp at hsz3
      have hown0 := HR1.out.row.lt
      have HB3 := Lib.hid ((Below.refl w.heap.size (w1.alloc (.cells #[.int .i64 t.k, .int .i64 t.a, .string t.s, .int .i64 t.n, .slice F' t.l.length C'] 36))).grown hg3 (by simp; omega) (fun k hk => (hown0 k hk).1))
      have HRow := Lib.hid (HR1.out.push (Pn := fun b => wr.heap.size ≤ b ∧ b < w1.heap.size) (p := (t, F', C')) (HN1.out.alloc (Nat.le_refl _) _) (fun b hb => ⟨by simp; omega, fun e => by
        have := (HLT0.out b e).2
        omega⟩) hown3 hg3 ho3)
      obtain ⟨a2, c2', hv2⟩ := own_shapeN hown3
      subst hv2
      clear hown3 hg3 ho3 hown0
      go_wp2_with fail
      go_roundw
      case rel =>
        refine ⟨pre ++ [t], l', s1, ps ++ [(t, F', C')], fun b => P b ∨ (wr.heap.size ≤ b ∧ b < w1.heap.size), HLL, Lib.hid (by rw [List.length_append]; exact HCH.out), HRow, Lib.hid ?_, Lib.hid (by rw [List.map_append, HPS.out]; rfl), Lib.hid ((HRD1.out.alloc _).under HB3.out hrl), Lib.hid ((HK1.out.alloc _).next HB3.out)⟩
        intro b hb
        rcases hb with hb | hb
        · exact HPP.out b hb
        · omega
      case measure =>
        have := HLT.out
        simp [vlen]; omega

end Go.Proofs.YteaojmcfppbgiaaGreatDoor

/- A token's field, out of a call's result. -/
namespace Go.Proofs.YteaojmcfppbgiaaGreatDoor
open Go.RowKit

@[go_sem] theorem run_field_at (a : Int) (s : ByteArray) (b : Int) (w : World) : (Instr.field 143 (.agg #[.int .i64 a, .string s, .int .i64 b]) 2).run Tryz.prog w = .ok (.int .i64 b) w := by
  simp [Instr.field, run_underlying Tryz.underlying143, part, asAgg, isAgg, run_underlying Tryz.underlying3, go_sem]
@[go_sem] theorem run_field_text (a : Int) (s : ByteArray) (b : Int) (w : World) : (Instr.field 143 (.agg #[.int .i64 a, .string s, .int .i64 b]) 1).run Tryz.prog w = .ok (.string s) w := by
  simp [Instr.field, run_underlying Tryz.underlying143, part, asAgg, isAgg, run_underlying Tryz.underlying9, go_sem]

end Go.Proofs.YteaojmcfppbgiaaGreatDoor

/- parse.list over patterns: within a pattern, and as wholes. The reader alone is written. -/
namespace Go.Proofs.YteaojmcfppbgiaaGreatDoor
open Go.RowKit
set_option linter.unusedVariables false
set_option maxRecDepth 100000

set_option maxHeartbeats 4000000 in
theorem list_pats0 {w : World} {r g : Nat} {L : List Tk} {cap : Nat} {s s' : St} {l : List RT} (h : Rd w r g L cap s) (hc : Chain L (One 120 r g L cap) (ptB L) 8192 0 s l s') :
    Calls Tryz.prog 80 #[.pointer (some ⟨r, 0, none⟩), .int .i64 8192, .func (.func 81) #[.pointer (some ⟨r, 0, none⟩)] #[], .func (.func 120) #[.pointer (some ⟨r, 0, none⟩)] #[]] w (ListR l r g L cap s' w) := by
  obtain ⟨i0, hi0, hz0, hz1, hz2⟩ := info_parts infoN
  have HR := Lib.hid h
  have HC := Lib.hid hc
  have HM := Lib.hid (chain_most hc (Nat.zero_le _))
  have hrl := h.bk.lt
  clear h hc
  go_enter Tryz.func80, Tryz.ntmps80
  go_wp2_with fail
  go_loopw [9] (fun v wr => ∃ (pre l2 : List RT) (sx : St) (ps : List (RT × Option Addr × Nat)) (P : Nat → Prop), Hid (l = pre ++ l2) ∧ Hid (Chain L (One 120 r g L cap) (ptB L) 8192 ps.length sx l2 s') ∧ Hid (NodeRow wr w.heap.size 36 v ps P) ∧ Hid (∀ b, P b → w.heap.size ≤ b) ∧ Hid (ps.map (·.1) = pre) ∧ Hid (Rd wr r g L cap sx) ∧ Hid (Kp r w wr))
    (fun v _ => l.length - vlen v)
  case atStart => exact ⟨[], l, s, [], fun _ => False, Lib.hid rfl, HC, Lib.hid (NodeRow.nil _ _ _), Lib.hid (fun _ h => h.elim), Lib.hid rfl, HR, Lib.hid (Kp.refl r w)⟩
  case round =>
    clear HR HC
    obtain ⟨pre, l2, sx, ps, P, HL, HC, HROW, HPP, HPS, HRD, HKP⟩ := hrel
    obtain ⟨A, c, hv⟩ := own_shapeN HROW.out.row
    subst hv
    have hrz := HKP.out.size
    have HLN : Hid (ps.length + l2.length = l.length) := Lib.hid (by rw [HL.out, List.length_append, ← HPS.out, List.length_map])
    obtain ⟨m, cc, h0, h1, h2, h3, hm, hcc⟩ := HRD.out.sz
    obtain ⟨c0, c1, c2, t0, t1, t2⟩ := HRD.out.cells hm hcc
    have hm0 : (0 : Int) < (m : Int) := by omega
    unfold maxLen at h3
    obtain ⟨k3, hk3⟩ : ∃ x, sx.k * 3 = x := ⟨_, rfl⟩
    rw [hk3] at c0 t0 t1 t2
    clear hm hcc hk3
    have hinv := chain_inv HC.out
    have HMT := Lib.hid (patternNext_tells HRD.out)
    have HOUT : Hid (∀ (W : World) (z : St), Hid (NodeRow W w.heap.size 36 (.slice A ps.length c) ps P) → l2 = [] → Rd W r g L cap z → z = s' → Kp r w W → ListR l r g L cap s' w (.returned (.slice A ps.length c)) W) := Lib.hid (by
      rintro W z hrow rfl hrd rfl hk
      have hl : ps.map (·.1) = l := by rw [HPS.out, HL.out, List.append_nil]
      have hn : ps.length = l.length := by rw [← hl, List.length_map]
      have hpar := hrow.out.parent (lo := w.heap.size) (Nat.le_refl _) HPP.out 0 0 ⟨#[]⟩ 0 (by decide)
      rw [hl] at hpar
      exact ⟨A, c, by rw [hn], hpar.bounds.2.1, hpar.bounds.2.2, hpar.sub, hrd, hk⟩)
    have HI := Lib.hid hinv
    clear hinv
    rcases HI.out with ⟨hx, hy, hz⟩ | ⟨hx1, hx2, hx3, hy, hz⟩ | ⟨hx1, hx2, hx3, t, l', s1, hy, hone, hch⟩
    · have HF := Lib.hid (HOUT.out wr sx HROW hy HRD.out hz HKP.out)
      by_cases he : sx.e = 0
      · have hmf : ptB L sx.k = false := by
          cases hq : ptB L sx.k with
          | false => rfl
          | true => exact absurd ⟨he, hq⟩ hx
        rw [hmf] at HMT
        have hb : (sx.e == 0) = true := by simpa using he
        clear hx hy hz HOUT HI HC HL HROW HPP HPS HKP HRD HLN hmf he
        go_wp2_with fail
        refine HMT.out.mono ?_; rintro e w' ⟨rfl, rfl⟩
        go_wp2_with fail
        go_ret
        exact HF.out
      · have hb : (sx.e == 0) = false := by simpa using he
        clear hx hy hz HOUT HI HC HL HROW HPP HPS HKP HRD HLN he HMT
        go_wp2_with fail
        go_ret
        exact HF.out
    · have hb : (sx.e == 0) = true := by simpa using hx1
      rw [hx2] at HMT
      have hfull : ((ps.length : Int) == 8192) = true := by rw [hx3]; decide
      obtain ⟨y, hyy⟩ : ∃ x, (tk L sx.k).2.2 = x := ⟨_, rfl⟩
      have HFM := Lib.hid (fail_moves HRD.out (tk L sx.k).2.2 2)
      rw [hz, hyy] at HFM
      rw [hyy] at t2
      have HK2 := Lib.hid (fun (V : World) (hk : Kp r wr V) (hrd : Rd V r g L cap s') => HOUT.out V s' (Lib.hid (HROW.out.kp hk hrl HPP.out)) hy hrd rfl (HKP.out.trans hk))
      clear hx1 hx2 hx3 hy hz HOUT HI HC HL HROW HPP HPS HKP HRD HLN hyy
      go_wp2_with fail
      refine HMT.out.mono ?_; rintro e w' ⟨rfl, rfl⟩
      go_wp2_with fail
      refine HFM.out.mono ?_; rintro e w2 ⟨rfl, hr2, hk2⟩
      have HF := Lib.hid (HK2.out w2 hk2 hr2)
      clear hr2 hk2
      go_wp2_with fail
      go_ret
      exact HF.out
    · have hb : (sx.e == 0) = true := by simpa using hx1
      rw [hx2] at HMT
      have hmost : ps.length ≤ 8192 := by have := HLN.out; have := HM.out; omega
      have hfull : ((ps.length : Int) == 8192) = false := by simp; omega
      have HONE := Lib.hid (hone wr HRD.out)
      unfold TreeR nodeV at HONE
      have HLL : Hid (l = (pre ++ [t]) ++ l') := Lib.hid (by rw [HL.out, hy]; simp)
      have HCH := Lib.hid hch
      have HPM := Lib.hid hmost
      have HLT : Hid (ps.length < l.length) := Lib.hid (by have := HLN.out; rw [hy] at this; simp at this; omega)
      clear hx1 hx2 hx3 hy hone hch HOUT HI HC HL HLN hmost
      go_wp2_with fail
      refine HMT.out.mono ?_; rintro e w' ⟨rfl, rfl⟩
      go_wp2_with fail
      refine HONE.out.mono ?_; rintro e w1 ⟨F', C', rfl, hn1, hr1, hk1⟩
      have hsz1 := hk1.size
      have HLT0 := Lib.hid HROW.out.row.lt
      have R1 := (HROW.out.kp hk1 hrl HPP.out).alloc (.cells #[.int .i64 t.k, .int .i64 t.a, .string t.s, .int .i64 t.n, .slice F' t.l.length C'] 36)
      have HR1 := Lib.hid R1
      have HN1 := Lib.hid hn1
      have HRD1 := Lib.hid hr1
      have HK1 := Lib.hid (HKP.out.trans hk1)
      clear R1 hn1 hr1 hk1 HROW HKP HRD
      go_wp2_with (at_builtin; refine wpList_app rfl _ _ 34 rfl w.heap.size 36 i0 (.agg #[.int .i64 0, .int .i64 0, .string ⟨#[]⟩, .int .i64 0, .slice none 0 0]) 5 64 Tryz.underlying34 hi0 hz0 hz1 hz2 rfl (by decide) _ _ _ rfl HR1.out.row (some ⟨w1.heap.size, 0, none⟩) 1 1 (cellsP (t, F', C')) rfl (src_at _ _ _ rfl rfl) (cellsP_one _) ?c3 ?c4 ?c5 ?_)
      case c3 => have := HPM.out; unfold maxLen; omega
      case c4 => have := HPM.out; omega
      case c5 => simp; omega
      rintro v2 w3 ⟨hown3, hg3, ho3⟩
      have hsz3 := hg3.size
      simp at hsz3
      have hown0 := HR1.out.row.lt
      have HB3 := Lib.hid ((Below.refl w.heap.size (w1.alloc (.cells #[.int .i64 t.k, .int .i64 t.a, .string t.s, .int .i64 t.n, .slice F' t.l.length C'] 36))).grown hg3 (by simp; omega) (fun k hk => (hown0 k hk).1))
      have HRow := Lib.hid (HR1.out.push (Pn := fun b => wr.heap.size ≤ b ∧ b < w1.heap.size) (p := (t, F', C')) (HN1.out.alloc (Nat.le_refl _) _) (fun b hb => ⟨by simp; omega, fun e => by
        have := (HLT0.out b e).2
        omega⟩) hown3 hg3 ho3)
      obtain ⟨a2, c2', hv2⟩ := own_shapeN hown3
      subst hv2
      clear hown3 hg3 ho3 hown0
      go_wp2_with fail
      go_roundw
      case rel =>
        refine ⟨pre ++ [t], l', s1, ps ++ [(t, F', C')], fun b => P b ∨ (wr.heap.size ≤ b ∧ b < w1.heap.size), HLL, Lib.hid (by rw [List.length_append]; exact HCH.out), HRow, Lib.hid ?_, Lib.hid (by rw [List.map_append, HPS.out]; rfl), Lib.hid ((HRD1.out.alloc _).under HB3.out hrl), Lib.hid ((HK1.out.alloc _).next HB3.out)⟩
        intro b hb
        rcases hb with hb | hb
        · exact HPP.out b hb
        · omega
      case measure =>
        have := HLT.out
        simp [vlen]; omega

set_option maxHeartbeats 4000000 in
theorem list_pats {w : World} {r g : Nat} {L : List Tk} {cap : Nat} {s s' : St} {l : List RT} (h : Rd w r g L cap s) (hc : Chain L (One 82 r g L cap) (ptB L) 24 0 s l s') :
    Calls Tryz.prog 80 #[.pointer (some ⟨r, 0, none⟩), .int .i64 24, .func (.func 81) #[.pointer (some ⟨r, 0, none⟩)] #[], .func (.func 82) #[.pointer (some ⟨r, 0, none⟩)] #[]] w (ListR l r g L cap s' w) := by
  obtain ⟨i0, hi0, hz0, hz1, hz2⟩ := info_parts infoN
  have HR := Lib.hid h
  have HC := Lib.hid hc
  have HM := Lib.hid (chain_most hc (Nat.zero_le _))
  have hrl := h.bk.lt
  clear h hc
  go_enter Tryz.func80, Tryz.ntmps80
  go_wp2_with fail
  go_loopw [9] (fun v wr => ∃ (pre l2 : List RT) (sx : St) (ps : List (RT × Option Addr × Nat)) (P : Nat → Prop), Hid (l = pre ++ l2) ∧ Hid (Chain L (One 82 r g L cap) (ptB L) 24 ps.length sx l2 s') ∧ Hid (NodeRow wr w.heap.size 36 v ps P) ∧ Hid (∀ b, P b → w.heap.size ≤ b) ∧ Hid (ps.map (·.1) = pre) ∧ Hid (Rd wr r g L cap sx) ∧ Hid (Kp r w wr))
    (fun v _ => l.length - vlen v)
  case atStart => exact ⟨[], l, s, [], fun _ => False, Lib.hid rfl, HC, Lib.hid (NodeRow.nil _ _ _), Lib.hid (fun _ h => h.elim), Lib.hid rfl, HR, Lib.hid (Kp.refl r w)⟩
  case round =>
    clear HR HC
    obtain ⟨pre, l2, sx, ps, P, HL, HC, HROW, HPP, HPS, HRD, HKP⟩ := hrel
    obtain ⟨A, c, hv⟩ := own_shapeN HROW.out.row
    subst hv
    have hrz := HKP.out.size
    have HLN : Hid (ps.length + l2.length = l.length) := Lib.hid (by rw [HL.out, List.length_append, ← HPS.out, List.length_map])
    obtain ⟨m, cc, h0, h1, h2, h3, hm, hcc⟩ := HRD.out.sz
    obtain ⟨c0, c1, c2, t0, t1, t2⟩ := HRD.out.cells hm hcc
    have hm0 : (0 : Int) < (m : Int) := by omega
    unfold maxLen at h3
    obtain ⟨k3, hk3⟩ : ∃ x, sx.k * 3 = x := ⟨_, rfl⟩
    rw [hk3] at c0 t0 t1 t2
    clear hm hcc hk3
    have hinv := chain_inv HC.out
    have HMT := Lib.hid (patternNext_tells HRD.out)
    have HOUT : Hid (∀ (W : World) (z : St), Hid (NodeRow W w.heap.size 36 (.slice A ps.length c) ps P) → l2 = [] → Rd W r g L cap z → z = s' → Kp r w W → ListR l r g L cap s' w (.returned (.slice A ps.length c)) W) := Lib.hid (by
      rintro W z hrow rfl hrd rfl hk
      have hl : ps.map (·.1) = l := by rw [HPS.out, HL.out, List.append_nil]
      have hn : ps.length = l.length := by rw [← hl, List.length_map]
      have hpar := hrow.out.parent (lo := w.heap.size) (Nat.le_refl _) HPP.out 0 0 ⟨#[]⟩ 0 (by decide)
      rw [hl] at hpar
      exact ⟨A, c, by rw [hn], hpar.bounds.2.1, hpar.bounds.2.2, hpar.sub, hrd, hk⟩)
    have HI := Lib.hid hinv
    clear hinv
    rcases HI.out with ⟨hx, hy, hz⟩ | ⟨hx1, hx2, hx3, hy, hz⟩ | ⟨hx1, hx2, hx3, t, l', s1, hy, hone, hch⟩
    · have HF := Lib.hid (HOUT.out wr sx HROW hy HRD.out hz HKP.out)
      by_cases he : sx.e = 0
      · have hmf : ptB L sx.k = false := by
          cases hq : ptB L sx.k with
          | false => rfl
          | true => exact absurd ⟨he, hq⟩ hx
        rw [hmf] at HMT
        have hb : (sx.e == 0) = true := by simpa using he
        clear hx hy hz HOUT HI HC HL HROW HPP HPS HKP HRD HLN hmf he
        go_wp2_with fail
        refine HMT.out.mono ?_; rintro e w' ⟨rfl, rfl⟩
        go_wp2_with fail
        go_ret
        exact HF.out
      · have hb : (sx.e == 0) = false := by simpa using he
        clear hx hy hz HOUT HI HC HL HROW HPP HPS HKP HRD HLN he HMT
        go_wp2_with fail
        go_ret
        exact HF.out
    · have hb : (sx.e == 0) = true := by simpa using hx1
      rw [hx2] at HMT
      have hfull : ((ps.length : Int) == 24) = true := by rw [hx3]; decide
      obtain ⟨y, hyy⟩ : ∃ x, (tk L sx.k).2.2 = x := ⟨_, rfl⟩
      have HFM := Lib.hid (fail_moves HRD.out (tk L sx.k).2.2 2)
      rw [hz, hyy] at HFM
      rw [hyy] at t2
      have HK2 := Lib.hid (fun (V : World) (hk : Kp r wr V) (hrd : Rd V r g L cap s') => HOUT.out V s' (Lib.hid (HROW.out.kp hk hrl HPP.out)) hy hrd rfl (HKP.out.trans hk))
      clear hx1 hx2 hx3 hy hz HOUT HI HC HL HROW HPP HPS HKP HRD HLN hyy
      go_wp2_with fail
      refine HMT.out.mono ?_; rintro e w' ⟨rfl, rfl⟩
      go_wp2_with fail
      refine HFM.out.mono ?_; rintro e w2 ⟨rfl, hr2, hk2⟩
      have HF := Lib.hid (HK2.out w2 hk2 hr2)
      clear hr2 hk2
      go_wp2_with fail
      go_ret
      exact HF.out
    · have hb : (sx.e == 0) = true := by simpa using hx1
      rw [hx2] at HMT
      have hmost : ps.length ≤ 24 := by have := HLN.out; have := HM.out; omega
      have hfull : ((ps.length : Int) == 24) = false := by simp; omega
      have HONE := Lib.hid (hone wr HRD.out)
      unfold TreeR nodeV at HONE
      have HLL : Hid (l = (pre ++ [t]) ++ l') := Lib.hid (by rw [HL.out, hy]; simp)
      have HCH := Lib.hid hch
      have HPM := Lib.hid hmost
      have HLT : Hid (ps.length < l.length) := Lib.hid (by have := HLN.out; rw [hy] at this; simp at this; omega)
      clear hx1 hx2 hx3 hy hone hch HOUT HI HC HL HLN hmost
      go_wp2_with fail
      refine HMT.out.mono ?_; rintro e w' ⟨rfl, rfl⟩
      go_wp2_with fail
      refine HONE.out.mono ?_; rintro e w1 ⟨F', C', rfl, hn1, hr1, hk1⟩
      have hsz1 := hk1.size
      have HLT0 := Lib.hid HROW.out.row.lt
      have R1 := (HROW.out.kp hk1 hrl HPP.out).alloc (.cells #[.int .i64 t.k, .int .i64 t.a, .string t.s, .int .i64 t.n, .slice F' t.l.length C'] 36)
      have HR1 := Lib.hid R1
      have HN1 := Lib.hid hn1
      have HRD1 := Lib.hid hr1
      have HK1 := Lib.hid (HKP.out.trans hk1)
      clear R1 hn1 hr1 hk1 HROW HKP HRD
      go_wp2_with (at_builtin; refine wpList_app rfl _ _ 34 rfl w.heap.size 36 i0 (.agg #[.int .i64 0, .int .i64 0, .string ⟨#[]⟩, .int .i64 0, .slice none 0 0]) 5 64 Tryz.underlying34 hi0 hz0 hz1 hz2 rfl (by decide) _ _ _ rfl HR1.out.row (some ⟨w1.heap.size, 0, none⟩) 1 1 (cellsP (t, F', C')) rfl (src_at _ _ _ rfl rfl) (cellsP_one _) ?c3 ?c4 ?c5 ?_)
      case c3 => have := HPM.out; unfold maxLen; omega
      case c4 => have := HPM.out; omega
      case c5 => simp; omega
      rintro v2 w3 ⟨hown3, hg3, ho3⟩
      have hsz3 := hg3.size
      simp at hsz3
      have hown0 := HR1.out.row.lt
      have HB3 := Lib.hid ((Below.refl w.heap.size (w1.alloc (.cells #[.int .i64 t.k, .int .i64 t.a, .string t.s, .int .i64 t.n, .slice F' t.l.length C'] 36))).grown hg3 (by simp; omega) (fun k hk => (hown0 k hk).1))
      have HRow := Lib.hid (HR1.out.push (Pn := fun b => wr.heap.size ≤ b ∧ b < w1.heap.size) (p := (t, F', C')) (HN1.out.alloc (Nat.le_refl _) _) (fun b hb => ⟨by simp; omega, fun e => by
        have := (HLT0.out b e).2
        omega⟩) hown3 hg3 ho3)
      obtain ⟨a2, c2', hv2⟩ := own_shapeN hown3
      subst hv2
      clear hown3 hg3 ho3 hown0
      go_wp2_with fail
      go_roundw
      case rel =>
        refine ⟨pre ++ [t], l', s1, ps ++ [(t, F', C')], fun b => P b ∨ (wr.heap.size ≤ b ∧ b < w1.heap.size), HLL, Lib.hid (by rw [List.length_append]; exact HCH.out), HRow, Lib.hid ?_, Lib.hid (by rw [List.map_append, HPS.out]; rfl), Lib.hid ((HRD1.out.alloc _).under HB3.out hrl), Lib.hid ((HK1.out.alloc _).next HB3.out)⟩
        intro b hb
        rcases hb with hb | hb
        · exact HPP.out b hb
        · omega
      case measure =>
        have := HLT.out
        simp [vlen]; omega

end Go.Proofs.YteaojmcfppbgiaaGreatDoor
