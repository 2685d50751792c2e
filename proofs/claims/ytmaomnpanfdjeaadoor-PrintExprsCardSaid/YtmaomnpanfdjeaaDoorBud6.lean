/- scholiumlaw06.budget: a tree as the document's, in new memory. -/
import Derived.Test.YtmaomnpanfdjeaaDoorBudM
import Derived.Test.YtmaomnpanfdjeaaDoorApp
import Derived.Test.YtmaomnpanfdjeaaDoorInfoR
import Derived.LoopTactic
import Derived.LoopN
namespace Go.Proofs.YtmaomnpanfdjeaaDoor
open Go.RowKit
set_option linter.unusedVariables false
set_option maxRecDepth 100000

def BudIs (t : RT) (x : Int) (w : World) (e : Ending) (w' : World) : Prop :=
  ∃ A cap, e = .returned (.tuple #[nodeV (bud t x).1 A cap, .int .i64 (bud t x).2]) ∧ IsNode w' w.heap.size w'.heap.size (bud t x).1 A cap ∧ Below w.heap.size w w'

def BudRel (w : World) (k a : Int) (s : ByteArray) (n : Int) (l : List RT) (x0 : Int) (A : Option Addr) (cap : Nat) (xv iv : Value) (wr : World) : Prop :=
  ∃ (i : Nat) (x : Int) (ps : List (RT × Option Addr × Nat)) (v : Value) (P : Nat → Prop), i ≤ l.length ∧ iv = .int .i64 i ∧ xv = .int .i64 x ∧ Below w.heap.size w wr ∧
    Bk wr w.heap.size 24 #[.int .i64 k, .int .i64 a, .string s, .int .i64 n, .slice A l.length cap] ∧ Bk wr (w.heap.size + 1) 27 #[.int .i64 0, .int .i64 0, .string ⟨#[]⟩, .int .i64 0, .slice none 0 0] ∧
    Bk wr (w.heap.size + 2) 27 #[.int .i64 k, .int .i64 a, .string s, .int .i64 n, v] ∧ NodeRow wr (w.heap.size + 3) 27 v ps P ∧ (∀ b, P b → w.heap.size + 3 ≤ b) ∧ ps.length = i ∧
    budL l x0 = (ps.map (·.1) ++ (budL (l.drop i) x).1, (budL (l.drop i) x).2) ∧ -9000 ≤ x ∧ x + i ≤ x0

set_option maxHeartbeats 2000000 in
theorem budget_any : ∀ (t : RT) (x : Int) (lo hi : Nat) (A : Option Addr) (cap : Nat) (w : World), IsNode w lo hi t A cap → hi ≤ w.heap.size → -9000 < x → x ≤ 1000 →
    Calls Tryd.prog 15 #[nodeV t A cap, .int .i64 x] w (BudIs t x w) := by
  intro t
  induction t using RT.ind with
  | h k a s n l ih =>
    intro x0 lo hi A cap w h hhi hx1 hx2
    obtain ⟨i0, hi0, hz0, hz1, hz2⟩ := info_parts infoR
    obtain ⟨hs, hl, hm⟩ := h.bounds
    have HSS := Lib.hid hs
    have IH := Lib.hid ih
    have HN := Lib.hid h.sub
    unfold maxLen at hm hs
    clear ih h
    rw [nodeV_node]
    go_enter Tryd.func15, Tryd.ntmps15
    go_wp2_with fail
    go_loopw [1, 7] (BudRel w k a s n l (x0 - 1) A cap) (fun _ iv _ => l.length - (intOf iv).toNat)
    case atStart =>
      refine ⟨0, x0 - 1, [], .slice none 0 0, fun _ => False, Nat.zero_le _, rfl, rfl, ?_, ?_, ?_, ?_, NodeRow.nil _ _ _, fun _ h => h.elim, rfl, by rw [List.drop_zero]; simp, by omega, by omega⟩
      · exact (((Below.refl _ _).alloc (Nat.le_refl _) _).alloc (by simp) _).alloc (by simp; omega) _
      · exact ((Bk.new w 24 _).alloc _).alloc _
      · have := (Bk.new (w.alloc (.cells #[.int .i64 k, .int .i64 a, .string s, .int .i64 n, .slice A l.length cap] 24)) 27 #[.int .i64 0, .int .i64 0, .string ⟨#[]⟩, .int .i64 0, .slice none 0 0]).alloc (.cells #[.int .i64 k, .int .i64 a, .string s, .int .i64 n, .slice none 0 0] 27)
        simpa using this
      · have := Bk.new ((w.alloc (.cells #[.int .i64 k, .int .i64 a, .string s, .int .i64 n, .slice A l.length cap] 24)).alloc (.cells #[.int .i64 0, .int .i64 0, .string ⟨#[]⟩, .int .i64 0, .slice none 0 0] 27)) 27 #[.int .i64 k, .int .i64 a, .string s, .int .i64 n, .slice none 0 0]
        simpa using this
    case round =>
      obtain ⟨i, x, ps, v, P, hi1, rfl, rfl, hB, b1, b2, b3, hrow, hP, hpl, hbud, hx3, hx4⟩ := hrel
      have hz := hB.size
      have hlt3 := b3.lt
      have y4 : wr.cell? ⟨w.heap.size, 4, none⟩ = some (.slice A l.length cap) := b1.cell 4
      obtain ⟨a1, c1, rfl⟩ := own_slice hrow.row
      have HB1 := Lib.hid b1
      have HB2 := Lib.hid b2
      have HB3 := Lib.hid b3
      have HROW := Lib.hid hrow
      have HPP := Lib.hid hP
      have HBUD := Lib.hid hbud
      have HPL := Lib.hid hpl
      clear b1 b2 b3 hrow hP hbud hpl
      have hfz : ∀ o, wr.frozen? ⟨w.heap.size + 1, o, none⟩ = false := fun o => HB2.out.cold o
      have d0 : wr.cell? ⟨w.heap.size + 1, 0, none⟩ = some (.int .i64 0) := HB2.out.cell 0
      have d1 : wr.cell? ⟨w.heap.size + 1, 1, none⟩ = some (.int .i64 0) := HB2.out.cell 1
      have d2 : wr.cell? ⟨w.heap.size + 1, 2, none⟩ = some (.string ⟨#[]⟩) := HB2.out.cell 2
      have d3 : wr.cell? ⟨w.heap.size + 1, 3, none⟩ = some (.int .i64 0) := HB2.out.cell 3
      have d4 : wr.cell? ⟨w.heap.size + 1, 4, none⟩ = some (.slice none 0 0) := HB2.out.cell 4
      have e0 : wr.cell? ⟨w.heap.size + 1 + 1, 0, none⟩ = some (.int .i64 k) := HB3.out.cell 0
      have e1 : wr.cell? ⟨w.heap.size + 1 + 1, 1, none⟩ = some (.int .i64 a) := HB3.out.cell 1
      have e2 : wr.cell? ⟨w.heap.size + 1 + 1, 2, none⟩ = some (.string s) := HB3.out.cell 2
      have e3 : wr.cell? ⟨w.heap.size + 1 + 1, 3, none⟩ = some (.int .i64 n) := HB3.out.cell 3
      have e4 : wr.cell? ⟨w.heap.size + 1 + 1, 4, none⟩ = some (.slice a1 ps.length c1) := HB3.out.cell 4
      have fin : (¬ i < l.length ∨ ¬ -9000 < x) → ∃ A' cap', (Value.agg #[.int .i64 k, .int .i64 a, .string s, .int .i64 n, .slice a1 ps.length c1] = nodeV (bud (.node k a s n l) x0).1 A' cap') ∧ x = (bud (.node k a s n l) x0).2 ∧ IsNode wr (w.heap.size + 3) wr.heap.size (bud (.node k a s n l) x0).1 A' cap' := fun hst => by
        have e := budL_end hst HBUD.out
        have eb : bud (.node k a s n l) x0 = (.node k a s n (ps.map (·.1)), x) := by rw [bud_node, e]
        rw [eb]
        refine ⟨a1, c1, ?_, rfl, ?_⟩
        · rw [nodeV_node, List.length_map]
        · exact (HROW.out.parent (Nat.le_refl _) HPP.out k a s n HSS.out)
      by_cases hil : i < l.length
      · by_cases hxx : -9000 < x
        · obtain ⟨b, o, F, C, hA, hb1, hb2, hx, hnode⟩ := (HN.out i hil).kept hB hhi
          subst hA
          obtain ⟨x0', x1', x2', x3', x4'⟩ := hx
          have hmem : l[i] ∈ l := List.getElem_mem hil
          have HIH := Lib.hid (IH.out l[i] hmem x lo hi F C wr hnode (by omega) hxx (by omega))
          have hi1' : (i : Int) < (l.length : Int) := by omega
          have HST := Lib.hid (budL_step hil hxx HBUD.out)
          clear fin hfz d0 d1 d2 d3 d4 e0 e1 e2 e3 e4
          have hrg := bud_range l[i] hxx
          obtain ⟨u, hu⟩ : ∃ u, (bud l[i] x).1 = u := ⟨_, rfl⟩
          obtain ⟨y, hy⟩ : ∃ y, (bud l[i] x).2 = y := ⟨_, rfl⟩
          unfold BudIs at HIH
          rw [hu, hy] at HIH HST
          rw [hy] at hrg
          clear hu hy
          go_wp2_with fail
          refine HIH.out.mono ?_
          rintro e w1 ⟨F', C', rfl, hn1, hb1⟩
          rw [nodeV]
          have hsz1 := hb1.size
          have B1 := HB1.out.below hb1 (by omega)
          have B2 := HB2.out.below hb1 (by omega)
          have B3 := HB3.out.below hb1 (by omega)
          have R1 := ((HROW.out.below hb1).alloc (.cells #[.int .i64 u.k, .int .i64 u.a, .string u.s, .int .i64 u.n, .slice F' u.l.length C'] 27)).alloc (.cells #[.int .i64 u.k, .int .i64 u.a, .string u.s, .int .i64 u.n, .slice F' u.l.length C'] 27)
          have hown := R1.row
          have c6 : w1.cell? ⟨w.heap.size + 1 + 1, 4, none⟩ = some (.slice a1 ps.length c1) := B3.cell 4
          have hlt6 : w.heap.size + 1 + 1 < w1.heap.size := by omega
          have HR1 := Lib.hid R1
          have HBB1 := Lib.hid B1
          have HBB2 := Lib.hid B2
          have HBB3 := Lib.hid B3
          have HN1 := Lib.hid hn1
          have HOW := Lib.hid hown
          have hpn : ps.length ≤ 10000 := by have := HPL.out; omega
          have HPN := Lib.hid hpn
          clear R1 B1 B2 B3 hn1 hown hpn
          go_wp2_with (at_builtin; refine wpList_app rfl _ _ 25 rfl (w.heap.size + 3) 27 i0 (.agg #[.int .i64 0, .int .i64 0, .string ⟨#[]⟩, .int .i64 0, .slice none 0 0]) 5 64 Tryd.underlying25 hi0 hz0 hz1 hz2 rfl (by decide) _ _ _ rfl HOW.out (some ⟨w1.heap.size + 1, 0, none⟩) 1 1 (cellsP (u, F', C')) rfl (src_at _ _ _ (by simp) rfl) (cellsP_one _) ?c3 ?c4 ?c5 ?_)
          case c3 => have := HPN.out; unfold maxLen; omega
          case c4 => have := HPN.out; omega
          case c5 => simp; omega
          rintro v2 w3 ⟨hown3, hg3, ho3⟩
          have hsz3 := hg3.size
          simp at hsz3
          have hown0 := HR1.out.row.lt
          have HRow := Lib.hid (HR1.out.push (Pn := fun b => wr.heap.size ≤ b ∧ b < w1.heap.size) (p := (u, F', C')) (((HN1.out.alloc (Nat.le_refl _) _).alloc (by simp) _)) (fun b hb => ⟨by simp; omega, fun e => by
            have := HROW.out.row.lt b e
            omega⟩) hown3 hg3 ho3)
          have hne : ∀ g, g < w.heap.size + 3 → some g ≠ (Value.slice a1 ps.length c1).ownBlock := fun g hg e => by
            have := hown0 g e.symm
            omega
          have B1 := Lib.hid (((HBB1.out.alloc _).alloc _).grown hg3 (hne _ (by omega)))
          have B2 := Lib.hid (((HBB2.out.alloc _).alloc _).grown hg3 (hne _ (by omega)))
          have B3 := Lib.hid (((HBB3.out.alloc _).alloc _).grown hg3 (hne _ (by omega)))
          have hbb := ((hB.trans (hb1.mono hz)).alloc (by omega) (.cells #[.int .i64 u.k, .int .i64 u.a, .string u.s, .int .i64 u.n, .slice F' u.l.length C'] 27)).alloc (by simp; omega) (.cells #[.int .i64 u.k, .int .i64 u.a, .string u.s, .int .i64 u.n, .slice F' u.l.length C'] 27)
          have HB4 := Lib.hid (hbb.grown hg3 (by simp; omega) (fun g e => by have := hown0 g e; omega))
          obtain ⟨a2, c2, rfl⟩ := own_slice hown3
          have e6 : w3.cell? ⟨w.heap.size + 1 + 1, 4, none⟩ = some (.slice a1 ps.length c1) := B3.out.cell 4
          have f6 : w3.frozen? ⟨w.heap.size + 1 + 1, 4, none⟩ = false := B3.out.cold 4
          clear hown3 hg3 ho3 hown0 hne hbb
          go_wp2_with fail
          go_roundw
          case rel =>
            refine ⟨i + 1, y, ps ++ [(u, F', C')], .slice a2 (ps.length + 1) c2, fun b => P b ∨ (wr.heap.size ≤ b ∧ b < w1.heap.size), by omega, rfl, rfl, HB4.out.setCell (by simp; omega) _, ?_, ?_, ?_, ?_, ?_, ?_, ?_, by omega, by omega⟩
            · exact B1.out.far (by simp; omega) _
            · exact B2.out.far (by simp) _
            · exact B3.out.at_ 4 _
            · exact HRow.out.setCell (by simp) (fun b hb => by
                rcases hb with hb | hb
                · have := HPP.out b hb; simp; omega
                · simp; omega) _
            · intro b hb
              rcases hb with hb | hb
              · exact HPP.out b hb
              · omega
            · rw [List.length_append]; simp; exact HPL.out
            · rw [HST.out]; simp
          case measure => simp [intOf]; omega
        · have HF := Lib.hid (fin (.inr hxx))
          clear fin
          obtain ⟨A', cap', q1, q2, q3⟩ := HF.out
          obtain ⟨s0, s1, s2, s3, s4⟩ := HB2.out.five (.int .i64 k) (.int .i64 a) (.string s) (.int .i64 n) (.slice a1 ps.length c1)
          have HQ1 := Lib.hid q1
          have HQ2 := Lib.hid q2
          have HS0 := Lib.hid s0
          have HS1 := Lib.hid s1
          have HS2 := Lib.hid s2
          have HS3 := Lib.hid s3
          have HS4 := Lib.hid s4
          clear q1 q2 s0 s1 s2 s3 s4
          go_wp2_with fail
          refine bodyPost_ret (v := .tuple #[.agg #[.int .i64 k, .int .i64 a, .string s, .int .i64 n, .slice a1 ps.length c1], .int .i64 x]) (by simp [results, Tryd.results15, go_sem, HS0.out, HS1.out, HS2.out, HS3.out, HS4.out]) rfl ?_
          refine ⟨A', cap', by rw [HQ1.out, HQ2.out], ?_, ?_⟩
          · rw [size_five]; exact (q3.five (by omega) _ _ _ _ _).wide (by omega) (Nat.le_refl _)
          · exact ((((hB.setCell (by simp) _).setCell (by simp) _).setCell (by simp) _).setCell (by simp) _).setCell (by simp) _
      · have HF := Lib.hid (fin (.inl hil))
        clear fin
        obtain ⟨A', cap', q1, q2, q3⟩ := HF.out
        obtain ⟨s0, s1, s2, s3, s4⟩ := HB2.out.five (.int .i64 k) (.int .i64 a) (.string s) (.int .i64 n) (.slice a1 ps.length c1)
        have HQ1 := Lib.hid q1
        have HQ2 := Lib.hid q2
        have HS0 := Lib.hid s0
        have HS1 := Lib.hid s1
        have HS2 := Lib.hid s2
        have HS3 := Lib.hid s3
        have HS4 := Lib.hid s4
        clear q1 q2 s0 s1 s2 s3 s4
        go_wp2_with fail
        refine bodyPost_ret (v := .tuple #[.agg #[.int .i64 k, .int .i64 a, .string s, .int .i64 n, .slice a1 ps.length c1], .int .i64 x]) (by simp [results, Tryd.results15, go_sem, HS0.out, HS1.out, HS2.out, HS3.out, HS4.out]) rfl ?_
        refine ⟨A', cap', by rw [HQ1.out, HQ2.out], ?_, ?_⟩
        · rw [size_five]; exact (q3.five (by omega) _ _ _ _ _).wide (by omega) (Nat.le_refl _)
        · exact ((((hB.setCell (by simp) _).setCell (by simp) _).setCell (by simp) _).setCell (by simp) _).setCell (by simp) _

end Go.Proofs.YtmaomnpanfdjeaaDoor
