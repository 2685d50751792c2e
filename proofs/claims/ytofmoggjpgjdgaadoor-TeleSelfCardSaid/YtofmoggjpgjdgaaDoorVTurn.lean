/- A list from its last to its first: slices.Clone at terms, tele.backwards, the document's Turned. -/
import Derived.Test.YtofmoggjpgjdgaaDoorVVars
import Derived.Test.YtofmoggjpgjdgaaDoorSRev
namespace Go.Proofs.YtofmoggjpgjdgaaDoor
open Go.RowKit
set_option linter.unusedVariables false
set_option maxRecDepth 100000

/-- A list of terms in memory as a row of cells. -/
theorem terms_row {w : World} {P : Nat → Prop} {k n : Int} {ts : List TM} {A : Option Addr} {cap : Nat} (h : TermIn w P (.node k n ts) A cap) : ∃ ps : List (TM × Option Addr × Nat), ps.map (·.1) = ts ∧ ps.length = ts.length ∧ (∀ p ∈ ps, TermIn w P p.1 p.2.1 p.2.2) ∧
    (0 < ts.length → ∃ b o, A = some ⟨b, o, none⟩ ∧ P b ∧ ∀ j u, (flatM ps)[j]? = some u → w.cell? ⟨b, o + j, none⟩ = some u) := by
  cases h with
  | mk k n l A cap F C hl hm hc hn =>
    have hlen : (List.ofFn fun i : Fin ts.length => (ts[i.val], F i.val, C i.val)).length = ts.length := by simp
    have hget : ∀ i (h : i < ts.length), (List.ofFn fun i : Fin ts.length => (ts[i.val], F i.val, C i.val))[i]'(by rw [hlen]; exact h) = (ts[i], F i, C i) := fun i h => by simp
    refine ⟨List.ofFn fun i : Fin ts.length => (ts[i.val], F i.val, C i.val), ?_, hlen, ?_, fun h0 => ?_⟩
    · apply List.ext_getElem
      · rw [List.length_map, hlen]
      · intro i h1 h2
        rw [List.getElem_map, hget i h2]
    · intro p hp
      rw [List.mem_ofFn] at hp
      obtain ⟨i, rfl⟩ := hp
      exact hn i.val i.isLt
    · obtain ⟨b, o, hA, hb, hx⟩ := hc h0
      refine ⟨b, o, hA, hb, fun j u hj => ?_⟩
      have hjl : j < ts.length * 3 := by
        have h1 := (List.getElem?_eq_some_iff.1 hj).1
        have h2 : (flatM (List.ofFn fun i : Fin ts.length => (ts[i.val], F i.val, C i.val))).length = ts.length * 3 := by
          have : ∀ ps : List (TM × Option Addr × Nat), (flatM ps).length = ps.length * 3 := fun ps => by
            unfold flatM
            rw [List.length_flatMap]
            induction ps with
            | nil => rfl
            | cons p ps ih => simp only [List.map_cons, List.sum_cons, ih, List.length_cons]; show 3 + _ = _; omega
          rw [this, hlen]
        omega
      have hq : j / 3 < ts.length := by omega
      have e : j = j / 3 * 3 + j % 3 := by omega
      have hf := flatM_at (List.ofFn fun i : Fin ts.length => (ts[i.val], F i.val, C i.val)) (j / 3) (j % 3) (by rw [hlen]; exact hq) (by omega)
      rw [← e, hget _ hq] at hf
      rw [hf] at hj
      obtain ⟨x0, x1, x2⟩ := hx (j / 3) hq
      have h3 : j % 3 = 0 ∨ j % 3 = 1 ∨ j % 3 = 2 := by omega
      rcases h3 with h3 | h3 | h3
      · rw [h3] at hj; rw [show o + j = o + j / 3 * 3 by omega, x0]; exact hj
      · rw [h3] at hj; rw [show o + j = o + j / 3 * 3 + 1 by omega, x1]; exact hj
      · rw [h3] at hj; rw [show o + j = o + j / 3 * 3 + 2 by omega, x2]; exact hj
theorem flatM_len (ps : List (TM × Option Addr × Nat)) : (flatM ps).length = ps.length * 3 := by
  unfold flatM
  rw [List.length_flatMap]
  induction ps with
  | nil => rfl
  | cons p ps ih => simp only [List.map_cons, List.sum_cons, ih, List.length_cons]; show 3 + _ = _; omega
theorem take_in {w : World} {P : Nat → Prop} {k n : Int} {ts : List TM} {A : Option Addr} {cap : Nat} (h : TermIn w P (.node k n ts) A cap) (i : Nat) : TermIn w P (.node k n (ts.take i)) A cap := by
  cases h with
  | mk k n l A cap F C hl hm hc hn =>
    refine .mk k n _ A cap F C (by rw [List.length_take]; omega) hm (fun h0 => ?_) (fun j hj => ?_)
    · rw [List.length_take] at h0
      obtain ⟨b, o, h1, h2, h3⟩ := hc (by omega)
      refine ⟨b, o, h1, h2, fun j hj => ?_⟩
      rw [List.length_take] at hj
      rw [List.getElem_take]
      exact h3 j (by omega)
    · rw [List.length_take] at hj
      rw [List.getElem_take]
      exact hn j (by omega)

def CloneIs (ts : List TM) (w : World) (e : Ending) (w' : World) : Prop :=
  ∃ a c ps, e = .returned (.slice a ps.length c) ∧ TermRow w' w.heap.size 24 (.slice a ps.length c) ps (fun b => b < w.heap.size) ∧ ps.map (·.1) = ts ∧ Below w.heap.size w w'
set_option maxHeartbeats 2000000 in
theorem cloneM_any (ts : List TM) (A : Option Addr) (cap : Nat) (w : World) (h : IsTerms w 0 w.heap.size ts A cap) (hlen : ts.length ≤ 8000) :
    Calls Tryd.prog 59 #[.slice A ts.length cap] w (CloneIs ts w) := by
  obtain ⟨i0, hi0, hz0, hz1, hz2⟩ := info_parts infoM
  obtain ⟨ps, hps, hpl, hpn, hpc⟩ := terms_row h
  have q22 : ∀ (w : World) (a : Option Addr) (n c n' c' : Nat), (binOp .eql 22 (.slice a n c) (.slice none n' c')).run Tryd.prog w = .ok (.bool a.isNone) w := fun w a n c n' c' => Lib.run_eql_slice_nil w _ _ a n c n' c' Tryd.underlying22
  have HPS := Lib.hid hps
  have HPL := Lib.hid hpl
  have HPN := Lib.hid hpn
  have HPC := Lib.hid hpc
  have HLN := Lib.hid hlen
  clear h hps hpl hpn hpc hlen
  cases A with
  | none =>
    have hz : ts.length = 0 := by
      cases ht : ts.length with
      | zero => rfl
      | succ m => obtain ⟨b, o, hA, _⟩ := HPC.out (by omega); cases hA
    have hnil : ts = [] := List.length_eq_zero_iff.1 hz
    subst hnil
    have hpn2 : ps = [] := List.length_eq_zero_iff.1 (by rw [HPL.out]; rfl)
    subst hpn2
    clear hz
    simp only [List.length_nil]
    go_enter Tryd.func59, Tryd.ntmps59
    go_wp2_with fail
    go_ret
    exact ⟨none, 0, [], rfl, ⟨World.ownsRow_nil _ _ _ _, fun b hb => ⟨hb, fun e => by cases e⟩, fun _ h => by cases h⟩, rfl, Below.refl _ _⟩
  | some ad =>
    have HOM := Lib.hid (show (w.alloc (.cells #[] 24)).ownsRow w.heap.size 24 3 (.slice (some ⟨w.heap.size, 0, none⟩) 0 0) 0 [] from World.ownsRow_made w #[] 0 (Nat.le_refl _) (Nat.zero_le _) rfl)
    have HB1 := Lib.hid (show Below w.heap.size w (w.alloc (.cells #[] 24)) from (Below.refl _ _).alloc (Nat.le_refl _) _)
    have HSRC : Hid (Src (w.alloc (.cells #[] 24)) 3 (some ad) ts.length (flatM ps)) := Lib.hid ⟨by rw [flatM_len, HPL.out], fun h0 => by
      obtain ⟨b, o, hA, hb, hc⟩ := HPC.out h0
      refine ⟨ad, rfl, fun j u hj => ?_⟩
      injection hA with hA
      subst hA
      rw [Addr.add_lit]
      exact (HB1.out.cell (p := ⟨b, o + j, none⟩) hb.2).trans (hc j u hj)⟩
    have hml : ts.length ≤ 8000 := HLN.out
    go_enter Tryd.func59, Tryd.ntmps59
    go_wp2_with (at_builtin; refine wpList_app rfl _ _ 22 rfl w.heap.size 24 i0 (.agg #[.int .i64 0, .int .i64 0, .slice none 0 0]) 3 40 Tryd.underlying22 hi0 hz0 hz1 hz2 rfl (by decide) _ _ _ rfl HOM.out (some ad) ts.length cap (flatM ps) rfl HSRC.out (flatM_one _) ?c3 ?c4 ?c5 ?_)
    case c3 => unfold maxLen; omega
    case c4 => omega
    case c5 => simp
    rintro v2 w4 ⟨ha1, ha2, ha3⟩
    obtain ⟨a4, c4, rfl⟩ := own_sliceM ha1
    have hlt := ha1.lt
    have HBF := Lib.hid (HB1.out.grown ha2 (by simp) (fun g e => by simp [Value.ownBlock] at e; omega))
    have HRW := Lib.hid (show TermRow w4 w.heap.size 24 (.slice a4 ps.length c4) ps (fun b => b < w.heap.size) from by
      have hs := HBF.out.size
      refine ⟨by rw [HPL.out]; exact ha1, fun b hb => ⟨by omega, fun e => by have := hlt b (by rw [HPL.out] at e; exact e); omega⟩, fun p hp => (HPN.out p hp).imp (fun b o hb => HBF.out.cell (p := ⟨b, o, none⟩) hb.2) (fun b hb => hb.2)⟩)
    clear ha1 ha2 ha3 hlt
    go_wp2_with fail
    go_ret
    exact ⟨a4, c4, ps, by rw [HPL.out]; rfl, HRW.out, HPS.out, HBF.out⟩

theorem backwards_any (ts : List TM) (A : Option Addr) (cap : Nat) (w : World) (h : IsTerms w 0 w.heap.size ts A cap) (hlen : ts.length ≤ 8000) :
    Calls Tryd.prog 39 #[.slice A ts.length cap] w (GivesR ts.reverse w) := by
  have CC := Lib.hid (cloneM_any ts A cap w h hlen)
  have HLN := Lib.hid hlen
  clear h hlen
  go_enter Tryd.func39, Tryd.ntmps39
  go_wp2_with fail
  refine CC.out.mono ?_
  rintro e w1 ⟨a, c, ps, rfl, hrow, hps, hb⟩
  have hpl : ps.length = ts.length := by rw [← hps, List.length_map]
  have CR := Lib.hid (rev_any hrow hb.size (by have := HLN.out; omega))
  have HB := Lib.hid hb
  have HPS := Lib.hid hps
  have HPL := Lib.hid hpl
  clear hrow hps hb hpl CC
  go_wp2_with fail
  refine CR.out.mono ?_
  rintro e w2 ⟨rfl, ht, hb2⟩
  have HT := Lib.hid ht
  have HB2 := Lib.hid (HB.out.trans hb2)
  clear ht hb2 CR
  go_wp2_with fail
  go_ret
  refine ⟨a, c, by rw [List.length_reverse, ← HPL.out]; rfl, ?_, HB2.out⟩
  have := HT.out.imp (P' := fun b => 0 ≤ b ∧ b < w2.heap.size) (fun _ _ _ => rfl) (fun b hb => ⟨Nat.zero_le _, hb.2⟩)
  rw [HPS.out] at this
  exact this

def TurnRel (ts : List TM) (w : World) (nv iv : Value) (wr : World) : Prop :=
  ∃ (i : Nat) (ps : List (TM × Option Addr × Nat)), i ≤ ts.length ∧ iv = .int .i64 ((i : Int) - 1) ∧ Below w.heap.size w wr ∧
    TermRow wr w.heap.size 24 nv ps (fun b => b < w.heap.size) ∧ ps.length = ts.length - i ∧ ps.map (·.1) = (ts.drop i).reverse
set_option maxHeartbeats 4000000 in
theorem rturned_any (ts : List TM) (A : Option Addr) (cap : Nat) (w : World) (h : IsTerms w 0 w.heap.size ts A cap) (hlen : ts.length ≤ 8000) :
    Calls Tryd.prog 41 #[.slice A ts.length cap] w (GivesR ts.reverse w) := by
  obtain ⟨i0, hi0, hz0, hz1, hz2⟩ := info_parts infoM
  have HN := Lib.hid h.sub
  have HLN := Lib.hid hlen
  have w1' : IntKind.i64.wrap ((ts.length : Int) - 1) = (ts.length : Int) - 1 := IntWalk.i64_in _ (by omega)
  have HOM := Lib.hid (show (w.alloc (.cells #[] 24)).ownsRow w.heap.size 24 3 (.slice (some ⟨w.heap.size, 0, none⟩) 0 0) 0 [] from World.ownsRow_made w #[] 0 (Nat.le_refl _) (Nat.zero_le _) rfl)
  have HB1 := Lib.hid (show Below w.heap.size w (w.alloc (.cells #[] 24)) from (Below.refl _ _).alloc (Nat.le_refl _) _)
  clear h hlen
  go_enter Tryd.func41, Tryd.ntmps41
  go_wp2_with fail
  go_loopw [3, 4] (TurnRel ts w) (fun _ iv _ => (intOf iv + 1).toNat)
  case atStart =>
    exact ⟨ts.length, [], Nat.le_refl _, rfl, HB1.out, ⟨HOM.out, fun b hb => ⟨by simp; omega, fun e => by simp [Value.ownBlock] at e; omega⟩, fun _ h => by cases h⟩, by simp, by simp⟩
  case round =>
    obtain ⟨i, ps, hi1, rfl, hB, hrow, hps, hpl⟩ := hrel
    have hz := hB.size
    obtain ⟨a1, c1, rfl⟩ := own_sliceM hrow.row
    have HPS := Lib.hid hps
    have HROW := Lib.hid hrow
    have HPL := Lib.hid hpl
    have HBB := Lib.hid hB
    clear hrow hps hpl w1'
    match i with
    | q + 1 =>
      have hil : q < ts.length := by omega
      have e0 : (((q + 1 : Nat) : Int) - 1) = (q : Int) := by omega
      rw [e0]
      obtain ⟨bk, o, F, C, hA, hb1, hb2, hx, hnode⟩ := (HN.out q hil).kept hB (Nat.le_refl _)
      subst hA
      obtain ⟨x0', x1', x2'⟩ := hx
      have hq1 : (q : Int) < (ts.length : Int) := by omega
      have hq0 : (0 : Int) ≤ (q : Int) := by omega
      have hq9 : (q : Int) ≤ 8000 := by have := HLN.out; omega
      have hst : (ts.drop q).reverse = (ts.drop (q + 1)).reverse ++ [ts[q]] := by rw [List.drop_eq_getElem_cons hil, List.reverse_cons]
      obtain ⟨v, hv⟩ : ∃ v, ts[q] = v := ⟨_, rfl⟩
      rw [hv] at hst hnode x0' x1' x2'
      have tq : decide ((q : Int) ≥ 0) = true := decide_eq_true (by omega)
      have w2' : IntKind.i64.wrap ((q : Int) - 1) = (q : Int) - 1 := IntWalk.i64_in _ (by omega)
      have hps9 : ps.length ≤ 8000 := by have := HPS.out; have := HLN.out; omega
      have HST := Lib.hid hst
      have HNO := Lib.hid hnode
      have HA0 := Lib.hid (show Below wr.heap.size wr (wr.alloc (.cells #[.int .i64 v.k, .int .i64 v.n, .slice F v.l.length C] 24)) from (Below.refl _ _).alloc (Nat.le_refl _) _)
      have R1 := HROW.out.below HA0.out
      have HR1 := Lib.hid R1
      have HOW := Lib.hid R1.row
      have hown0 := R1.row.lt
      have HI1 := Lib.hid hi1
      clear R1 hst hnode hv hi1 hil e0
      go_wp2_with (at_builtin; refine wpList_app rfl _ _ 22 rfl w.heap.size 24 i0 (.agg #[.int .i64 0, .int .i64 0, .slice none 0 0]) 3 40 Tryd.underlying22 hi0 hz0 hz1 hz2 rfl (by decide) _ _ _ rfl HOW.out (some ⟨wr.heap.size, 0, none⟩) 1 1 (cellsM (v, F, C)) rfl (src_at _ _ _ (by simp) rfl) (cellsM_one _) ?c3 ?c4 ?c5 ?_)
      case c3 => unfold maxLen; omega
      case c4 => omega
      case c5 => simp; omega
      rintro v2' w3 ⟨hown3, hg3, ho3⟩
      have hp := HR1.out.push (Pn := fun b => b < w.heap.size) (p := (v, F, C)) (TermIn.imp (fun b o hb => HA0.out.cell (p := ⟨b, o, none⟩) (by have := hb.2; show b < _; omega)) (fun b hb => hb.2) HNO.out) (fun b hb => ⟨by simp; omega, fun e => by have := hown0 b e; omega⟩) hown3 hg3 ho3
      have HRow := Lib.hid (show TermRow w3 w.heap.size 24 v2' (ps ++ [(v, F, C)]) (fun b => b < w.heap.size) from ⟨hp.row, fun b hb => hp.far b (.inl hb), fun p hp' => (hp.node p hp').imp (fun _ _ _ => rfl) (fun b hb => hb.elim id id)⟩)
      have HB4 := Lib.hid ((HBB.out.trans (HA0.out.mono hz)).grown hg3 (by simp; omega) (fun g e => by have := hown0 g e; omega))
      clear hown3 hg3 ho3 hown0 hp
      go_wp2_with fail
      go_roundw
      case rel =>
        refine ⟨q, ps ++ [(v, F, C)], by have := HI1.out; omega, rfl, HB4.out, HRow.out, by have := HPS.out; have := HI1.out; simp; omega, ?_⟩
        rw [List.map_append, HPL.out, HST.out]; rfl
      case measure => simp [intOf]
    | 0 =>
      have e0 : (((0 : Nat) : Int) - 1) = -1 := rfl
      rw [e0]
      have HFULL : Hid (ps.map (·.1) = ts.reverse) := Lib.hid (by rw [HPL.out, List.drop_zero])
      have hpar := HROW.out.parent (lo := 0) (Nat.zero_le _) (fun b hb => Nat.zero_le _) 0 0
      rw [HFULL.out] at hpar
      have HPAR := Lib.hid hpar
      clear hpar e0 hi1
      go_wp2_with fail
      go_ret
      exact ⟨a1, c1, by rw [HPS.out, List.length_reverse]; rfl, HPAR.out, HBB.out⟩

end Go.Proofs.YtofmoggjpgjdgaaDoor
