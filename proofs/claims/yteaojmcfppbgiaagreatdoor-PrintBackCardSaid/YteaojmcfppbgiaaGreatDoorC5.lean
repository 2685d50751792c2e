/- How much of a tree scholiumlaw04.budget copies: all of it, unless it is very great. No program. -/
import Derived.Test.YteaojmcfppbgiaaGreatDoorB1
import Derived.LoopTactic
import Derived.LoopN
import Derived.Deep.RegionHeld3
import Derived.IntWalk
import Derived.Test.YteaojmcfppbgiaaGreatDoorC8
namespace Go.Proofs.YteaojmcfppbgiaaGreatDoor
open Go.RowKit
set_option linter.unusedVariables false

mutual
def bud : RT → Int → RT × Int
  | .node k a s n l, x => (.node k a s n (budL l (x - 1)).1, (budL l (x - 1)).2)
def budL : List RT → Int → List RT × Int
  | [], x => ([], x)
  | t :: r, x => if -9000 < x then ((bud t x).1 :: (budL r (bud t x).2).1, (budL r (bud t x).2).2) else ([], x)
end
theorem bud_node (k a : Int) (s : ByteArray) (n : Int) (l : List RT) (x : Int) : bud (.node k a s n l) x = (.node k a s n (budL l (x - 1)).1, (budL l (x - 1)).2) := by rw [bud]
theorem budL_nil (x : Int) : budL [] x = ([], x) := by rw [budL]
theorem budL_go {t : RT} {r : List RT} {x : Int} (h : -9000 < x) : budL (t :: r) x = ((bud t x).1 :: (budL r (bud t x).2).1, (budL r (bud t x).2).2) := by rw [budL, if_pos h]
theorem budL_stop {l : List RT} {x : Int} (h : ¬ -9000 < x) : budL l x = ([], x) := by
  cases l with
  | nil => rw [budL]
  | cons t r => rw [budL, if_neg h]

/-- Either all was copied, or no more were left. -/
def BudOk (t : RT) : Prop := ∀ x : Int, -9000 < x → ((bud t x).1 = t ∧ x - (bud t x).2 = t.size ∧ -9000 ≤ (bud t x).2) ∨ ((bud t x).2 = -9000 ∧ x + 9000 ≤ t.size)
theorem budL_ok : ∀ (l : List RT), (∀ t ∈ l, BudOk t) → ∀ x : Int, -9000 ≤ x → ((budL l x).1 = l ∧ x - (budL l x).2 = sizeL l ∧ -9000 ≤ (budL l x).2) ∨ ((budL l x).2 = -9000 ∧ x + 9000 ≤ sizeL l)
  | [], _, x, hx => by rw [budL_nil, sizeL_nil]; left; exact ⟨rfl, by simp, hx⟩
  | t :: r, h, x, hx => by
    by_cases hx' : -9000 < x
    · rw [budL_go hx', sizeL_cons]
      rcases h t (List.mem_cons_self) x hx' with ⟨h1, h2, h3⟩ | ⟨h1, h2⟩
      · rcases budL_ok r (fun u hu => h u (List.mem_cons_of_mem _ hu)) (bud t x).2 h3 with ⟨g1, g2, g3⟩ | ⟨g1, g2⟩
        · left; exact ⟨by rw [h1, g1], by omega, g3⟩
        · right; exact ⟨g1, by omega⟩
      · right
        have e : budL r (bud t x).2 = ([], (bud t x).2) := budL_stop (by omega)
        rw [e]
        exact ⟨h1, by omega⟩
    · rw [budL_stop hx']
      right; exact ⟨by show x = -9000; omega, by omega⟩
theorem bud_ok : ∀ t, BudOk t := by
  intro t
  induction t using RT.ind with
  | h k a s n l ih =>
    intro x hx
    rw [bud_node, size_node]
    rcases budL_ok l ih (x - 1) (by omega) with ⟨h1, h2, h3⟩ | ⟨h1, h2⟩
    · left; exact ⟨by rw [h1], by show x - (budL l (x - 1)).2 = _; omega, h3⟩
    · right; exact ⟨h1, by omega⟩
theorem bud_range (t : RT) {x : Int} (hx : -9000 < x) : -9000 ≤ (bud t x).2 ∧ (bud t x).2 + 1 ≤ x := by
  have := size_pos t
  rcases bud_ok t x hx with ⟨_, h2, h3⟩ | ⟨h1, _⟩ <;> omega
theorem budL_step {l : List RT} {x0 x : Int} {O : List RT} {i : Nat} (hi : i < l.length) (hx : -9000 < x) (h : budL l x0 = (O ++ (budL (l.drop i) x).1, (budL (l.drop i) x).2)) :
    budL l x0 = ((O ++ [(bud l[i] x).1]) ++ (budL (l.drop (i + 1)) (bud l[i] x).2).1, (budL (l.drop (i + 1)) (bud l[i] x).2).2) := by
  rw [List.drop_eq_getElem_cons hi, budL_go hx] at h
  rw [h]; simp
theorem budL_end {l : List RT} {x0 x : Int} {O : List RT} {i : Nat} (hi : ¬ i < l.length ∨ ¬ -9000 < x) (h : budL l x0 = (O ++ (budL (l.drop i) x).1, (budL (l.drop i) x).2)) : budL l x0 = (O, x) := by
  have e : budL (l.drop i) x = ([], x) := by
    rcases hi with hi | hx
    · rw [List.drop_eq_nil_of_le (by omega), budL_nil]
    · exact budL_stop hx
  rw [h, e]; simp

end Go.Proofs.YteaojmcfppbgiaaGreatDoor

/- scholiumlaw06.budget: a tree as the document's, in new memory. -/
namespace Go.Proofs.YteaojmcfppbgiaaGreatDoor
open Go.RowKit
set_option linter.unusedVariables false
set_option maxRecDepth 100000

def BudIs (t : RT) (x : Int) (w : World) (e : Ending) (w' : World) : Prop :=
  ∃ A cap, e = .returned (.tuple #[nodeV (bud t x).1 A cap, .int .i64 (bud t x).2]) ∧ IsNode w' w.heap.size w'.heap.size (bud t x).1 A cap ∧ Below w.heap.size w w'

def BudRel (w : World) (k a : Int) (s : ByteArray) (n : Int) (l : List RT) (x0 : Int) (A : Option Addr) (cap : Nat) (xv iv : Value) (wr : World) : Prop :=
  ∃ (i : Nat) (x : Int) (ps : List (RT × Option Addr × Nat)) (v : Value) (P : Nat → Prop), i ≤ l.length ∧ iv = .int .i64 i ∧ xv = .int .i64 x ∧ Below w.heap.size w wr ∧
    Bk wr w.heap.size 36 #[.int .i64 k, .int .i64 a, .string s, .int .i64 n, .slice A l.length cap] ∧ Bk wr (w.heap.size + 1) 27 #[.int .i64 0, .int .i64 0, .string ⟨#[]⟩, .int .i64 0, .slice none 0 0] ∧
    Bk wr (w.heap.size + 2) 27 #[.int .i64 k, .int .i64 a, .string s, .int .i64 n, v] ∧ NodeRow wr (w.heap.size + 3) 27 v ps P ∧ (∀ b, P b → w.heap.size + 3 ≤ b) ∧ ps.length = i ∧
    budL l x0 = (ps.map (·.1) ++ (budL (l.drop i) x).1, (budL (l.drop i) x).2) ∧ -9000 ≤ x ∧ x + i ≤ x0

set_option maxHeartbeats 2000000 in
theorem budget_any : ∀ (t : RT) (x : Int) (lo hi : Nat) (A : Option Addr) (cap : Nat) (w : World), IsNode w lo hi t A cap → hi ≤ w.heap.size → -9000 < x → x ≤ 1000 →
    Calls Tryz.prog 33 #[nodeV t A cap, .int .i64 x] w (BudIs t x w) := by
  intro t
  induction t using RT.ind with
  | h k a s n l ih =>
    intro x0 lo hi A cap w h hhi hx1 hx2
    obtain ⟨i0, hi0, hz0, hz1, hz2⟩ := info_parts infoR
    obtain ⟨hs, hl, hm⟩ := h.bounds
    have HSS := Lib.hid hs
    have IH := Lib.hid ih
    have HN := Lib.hid h.sub
    unfold maxLen at hm hs
    clear ih h
    rw [nodeV_node]
    go_enter Tryz.func33, Tryz.ntmps33
    go_wp2_with fail
    go_loopw [1, 7] (BudRel w k a s n l (x0 - 1) A cap) (fun _ iv _ => l.length - (intOf iv).toNat)
    case atStart =>
      refine ⟨0, x0 - 1, [], .slice none 0 0, fun _ => False, Nat.zero_le _, rfl, rfl, ?_, ?_, ?_, ?_, NodeRow.nil _ _ _, fun _ h => h.elim, rfl, by rw [List.drop_zero]; simp, by omega, by omega⟩
      · exact (((Below.refl _ _).alloc (Nat.le_refl _) _).alloc (by simp) _).alloc (by simp; omega) _
      · exact ((Bk.new w 36 _).alloc _).alloc _
      · have := (Bk.new (w.alloc (.cells #[.int .i64 k, .int .i64 a, .string s, .int .i64 n, .slice A l.length cap] 36)) 27 #[.int .i64 0, .int .i64 0, .string ⟨#[]⟩, .int .i64 0, .slice none 0 0]).alloc (.cells #[.int .i64 k, .int .i64 a, .string s, .int .i64 n, .slice none 0 0] 27)
        simpa using this
      · have := Bk.new ((w.alloc (.cells #[.int .i64 k, .int .i64 a, .string s, .int .i64 n, .slice A l.length cap] 36)).alloc (.cells #[.int .i64 0, .int .i64 0, .string ⟨#[]⟩, .int .i64 0, .slice none 0 0] 27)) 27 #[.int .i64 k, .int .i64 a, .string s, .int .i64 n, .slice none 0 0]
        simpa using this
    case round =>
      obtain ⟨i, x, ps, v, P, hi1, rfl, rfl, hB, b1, b2, b3, hrow, hP, hpl, hbud, hx3, hx4⟩ := hrel
      have hz := hB.size
      have hlt3 := b3.lt
      have y4 : wr.cell? ⟨w.heap.size, 4, none⟩ = some (.slice A l.length cap) := b1.cell 4
      obtain ⟨a1, c1, rfl⟩ := own_slice hrow.row
      have HB1 := Lib.hid b1
      have HB2 := Lib.hid b2
      have HB3 := Lib.hid b3
      have HROW := Lib.hid hrow
      have HPP := Lib.hid hP
      have HBUD := Lib.hid hbud
      have HPL := Lib.hid hpl
      clear b1 b2 b3 hrow hP hbud hpl
      have hfz : ∀ o, wr.frozen? ⟨w.heap.size + 1, o, none⟩ = false := fun o => HB2.out.cold o
      have d0 : wr.cell? ⟨w.heap.size + 1, 0, none⟩ = some (.int .i64 0) := HB2.out.cell 0
      have d1 : wr.cell? ⟨w.heap.size + 1, 1, none⟩ = some (.int .i64 0) := HB2.out.cell 1
      have d2 : wr.cell? ⟨w.heap.size + 1, 2, none⟩ = some (.string ⟨#[]⟩) := HB2.out.cell 2
      have d3 : wr.cell? ⟨w.heap.size + 1, 3, none⟩ = some (.int .i64 0) := HB2.out.cell 3
      have d4 : wr.cell? ⟨w.heap.size + 1, 4, none⟩ = some (.slice none 0 0) := HB2.out.cell 4
      have e0 : wr.cell? ⟨w.heap.size + 1 + 1, 0, none⟩ = some (.int .i64 k) := HB3.out.cell 0
      have e1 : wr.cell? ⟨w.heap.size + 1 + 1, 1, none⟩ = some (.int .i64 a) := HB3.out.cell 1
      have e2 : wr.cell? ⟨w.heap.size + 1 + 1, 2, none⟩ = some (.string s) := HB3.out.cell 2
      have e3 : wr.cell? ⟨w.heap.size + 1 + 1, 3, none⟩ = some (.int .i64 n) := HB3.out.cell 3
      have e4 : wr.cell? ⟨w.heap.size + 1 + 1, 4, none⟩ = some (.slice a1 ps.length c1) := HB3.out.cell 4
      have fin : (¬ i < l.length ∨ ¬ -9000 < x) → ∃ A' cap', (Value.agg #[.int .i64 k, .int .i64 a, .string s, .int .i64 n, .slice a1 ps.length c1] = nodeV (bud (.node k a s n l) x0).1 A' cap') ∧ x = (bud (.node k a s n l) x0).2 ∧ IsNode wr (w.heap.size + 3) wr.heap.size (bud (.node k a s n l) x0).1 A' cap' := fun hst => by
        have e := budL_end hst HBUD.out
        have eb : bud (.node k a s n l) x0 = (.node k a s n (ps.map (·.1)), x) := by rw [bud_node, e]
        rw [eb]
        refine ⟨a1, c1, ?_, rfl, ?_⟩
        · rw [nodeV_node, List.length_map]
        · exact (HROW.out.parent (Nat.le_refl _) HPP.out k a s n HSS.out)
      by_cases hil : i < l.length
      · by_cases hxx : -9000 < x
        · obtain ⟨b, o, F, C, hA, hb1, hb2, hx, hnode⟩ := (HN.out i hil).kept hB hhi
          subst hA
          obtain ⟨x0', x1', x2', x3', x4'⟩ := hx
          have hmem : l[i] ∈ l := List.getElem_mem hil
          have HIH := Lib.hid (IH.out l[i] hmem x lo hi F C wr hnode (by omega) hxx (by omega))
          have hi1' : (i : Int) < (l.length : Int) := by omega
          have HST := Lib.hid (budL_step hil hxx HBUD.out)
          clear fin hfz d0 d1 d2 d3 d4 e0 e1 e2 e3 e4
          have hrg := bud_range l[i] hxx
          obtain ⟨u, hu⟩ : ∃ u, (bud l[i] x).1 = u := ⟨_, rfl⟩
          obtain ⟨y, hy⟩ : ∃ y, (bud l[i] x).2 = y := ⟨_, rfl⟩
          unfold BudIs at HIH
          rw [hu, hy] at HIH HST
          rw [hy] at hrg
          clear hu hy
          go_wp2_with fail
          refine HIH.out.mono ?_
          rintro e w1 ⟨F', C', rfl, hn1, hb1⟩
          rw [nodeV]
          have hsz1 := hb1.size
          have B1 := HB1.out.below hb1 (by omega)
          have B2 := HB2.out.below hb1 (by omega)
          have B3 := HB3.out.below hb1 (by omega)
          have R1 := ((HROW.out.below hb1).alloc (.cells #[.int .i64 u.k, .int .i64 u.a, .string u.s, .int .i64 u.n, .slice F' u.l.length C'] 27)).alloc (.cells #[.int .i64 u.k, .int .i64 u.a, .string u.s, .int .i64 u.n, .slice F' u.l.length C'] 27)
          have hown := R1.row
          have c6 : w1.cell? ⟨w.heap.size + 1 + 1, 4, none⟩ = some (.slice a1 ps.length c1) := B3.cell 4
          have hlt6 : w.heap.size + 1 + 1 < w1.heap.size := by omega
          have HR1 := Lib.hid R1
          have HBB1 := Lib.hid B1
          have HBB2 := Lib.hid B2
          have HBB3 := Lib.hid B3
          have HN1 := Lib.hid hn1
          have HOW := Lib.hid hown
          have hpn : ps.length ≤ 10000 := by have := HPL.out; omega
          have HPN := Lib.hid hpn
          clear R1 B1 B2 B3 hn1 hown hpn
          go_wp2_with (at_builtin; refine wpList_app rfl _ _ 25 rfl (w.heap.size + 3) 27 i0 (.agg #[.int .i64 0, .int .i64 0, .string ⟨#[]⟩, .int .i64 0, .slice none 0 0]) 5 64 Tryz.underlying25 hi0 hz0 hz1 hz2 rfl (by decide) _ _ _ rfl HOW.out (some ⟨w1.heap.size + 1, 0, none⟩) 1 1 (cellsP (u, F', C')) rfl (src_at _ _ _ (by simp) rfl) (cellsP_one _) ?c3 ?c4 ?c5 ?_)
          case c3 => have := HPN.out; unfold maxLen; omega
          case c4 => have := HPN.out; omega
          case c5 => simp; omega
          rintro v2 w3 ⟨hown3, hg3, ho3⟩
          have hsz3 := hg3.size
          simp at hsz3
          have hown0 := HR1.out.row.lt
          have HRow := Lib.hid (HR1.out.push (Pn := fun b => wr.heap.size ≤ b ∧ b < w1.heap.size) (p := (u, F', C')) (((HN1.out.alloc (Nat.le_refl _) _).alloc (by simp) _)) (fun b hb => ⟨by simp; omega, fun e => by
            have := HROW.out.row.lt b e
            omega⟩) hown3 hg3 ho3)
          have hne : ∀ g, g < w.heap.size + 3 → some g ≠ (Value.slice a1 ps.length c1).ownBlock := fun g hg e => by
            have := hown0 g e.symm
            omega
          have B1 := Lib.hid (((HBB1.out.alloc _).alloc _).grown hg3 (hne _ (by omega)))
          have B2 := Lib.hid (((HBB2.out.alloc _).alloc _).grown hg3 (hne _ (by omega)))
          have B3 := Lib.hid (((HBB3.out.alloc _).alloc _).grown hg3 (hne _ (by omega)))
          have hbb := ((hB.trans (hb1.mono hz)).alloc (by omega) (.cells #[.int .i64 u.k, .int .i64 u.a, .string u.s, .int .i64 u.n, .slice F' u.l.length C'] 27)).alloc (by simp; omega) (.cells #[.int .i64 u.k, .int .i64 u.a, .string u.s, .int .i64 u.n, .slice F' u.l.length C'] 27)
          have HB4 := Lib.hid (hbb.grown hg3 (by simp; omega) (fun g e => by have := hown0 g e; omega))
          obtain ⟨a2, c2, rfl⟩ := own_slice hown3
          have e6 : w3.cell? ⟨w.heap.size + 1 + 1, 4, none⟩ = some (.slice a1 ps.length c1) := B3.out.cell 4
          have f6 : w3.frozen? ⟨w.heap.size + 1 + 1, 4, none⟩ = false := B3.out.cold 4
          clear hown3 hg3 ho3 hown0 hne hbb
          go_wp2_with fail
          go_roundw
          case rel =>
            refine ⟨i + 1, y, ps ++ [(u, F', C')], .slice a2 (ps.length + 1) c2, fun b => P b ∨ (wr.heap.size ≤ b ∧ b < w1.heap.size), by omega, rfl, rfl, HB4.out.setCell (by simp; omega) _, ?_, ?_, ?_, ?_, ?_, ?_, ?_, by omega, by omega⟩
            · exact B1.out.far (by simp; omega) _
            · exact B2.out.far (by simp) _
            · exact B3.out.at_ 4 _
            · exact HRow.out.setCell (by simp) (fun b hb => by
                rcases hb with hb | hb
                · have := HPP.out b hb; simp; omega
                · simp; omega) _
            · intro b hb
              rcases hb with hb | hb
              · exact HPP.out b hb
              · omega
            · rw [List.length_append]; simp; exact HPL.out
            · rw [HST.out]; simp
          case measure => simp [intOf]; omega
        · have HF := Lib.hid (fin (.inr hxx))
          clear fin
          obtain ⟨A', cap', q1, q2, q3⟩ := HF.out
          obtain ⟨s0, s1, s2, s3, s4⟩ := HB2.out.five (.int .i64 k) (.int .i64 a) (.string s) (.int .i64 n) (.slice a1 ps.length c1)
          have HQ1 := Lib.hid q1
          have HQ2 := Lib.hid q2
          have HS0 := Lib.hid s0
          have HS1 := Lib.hid s1
          have HS2 := Lib.hid s2
          have HS3 := Lib.hid s3
          have HS4 := Lib.hid s4
          clear q1 q2 s0 s1 s2 s3 s4
          go_wp2_with fail
          refine bodyPost_ret (v := .tuple #[.agg #[.int .i64 k, .int .i64 a, .string s, .int .i64 n, .slice a1 ps.length c1], .int .i64 x]) (by simp [results, Tryz.results33, go_sem, HS0.out, HS1.out, HS2.out, HS3.out, HS4.out]) rfl ?_
          refine ⟨A', cap', by rw [HQ1.out, HQ2.out], ?_, ?_⟩
          · rw [size_five]; exact (q3.five (by omega) _ _ _ _ _).wide (by omega) (Nat.le_refl _)
          · exact ((((hB.setCell (by simp) _).setCell (by simp) _).setCell (by simp) _).setCell (by simp) _).setCell (by simp) _
      · have HF := Lib.hid (fin (.inl hil))
        clear fin
        obtain ⟨A', cap', q1, q2, q3⟩ := HF.out
        obtain ⟨s0, s1, s2, s3, s4⟩ := HB2.out.five (.int .i64 k) (.int .i64 a) (.string s) (.int .i64 n) (.slice a1 ps.length c1)
        have HQ1 := Lib.hid q1
        have HQ2 := Lib.hid q2
        have HS0 := Lib.hid s0
        have HS1 := Lib.hid s1
        have HS2 := Lib.hid s2
        have HS3 := Lib.hid s3
        have HS4 := Lib.hid s4
        clear q1 q2 s0 s1 s2 s3 s4
        go_wp2_with fail
        refine bodyPost_ret (v := .tuple #[.agg #[.int .i64 k, .int .i64 a, .string s, .int .i64 n, .slice a1 ps.length c1], .int .i64 x]) (by simp [results, Tryz.results33, go_sem, HS0.out, HS1.out, HS2.out, HS3.out, HS4.out]) rfl ?_
        refine ⟨A', cap', by rw [HQ1.out, HQ2.out], ?_, ?_⟩
        · rw [size_five]; exact (q3.five (by omega) _ _ _ _ _).wide (by omega) (Nat.le_refl _)
        · exact ((((hB.setCell (by simp) _).setCell (by simp) _).setCell (by simp) _).setCell (by simp) _).setCell (by simp) _

end Go.Proofs.YteaojmcfppbgiaaGreatDoor

/- scholiumref04.Size: how many nodes, by a list of what is to be done. -/
namespace Go.Proofs.YteaojmcfppbgiaaGreatDoor
open Go.RowKit
set_option linter.unusedVariables false
set_option maxRecDepth 100000

/-- The first Subs of a node, as a source. -/
theorem NodeIn.first {w : World} {P : Nat → Prop} {t : RT} {A : Option Addr} {cap : Nat} (h : NodeIn w P t A cap) (m : Nat) (hm : m ≤ t.l.length) :
    ∃ ps : List (RT × Option Addr × Nat), ps.map (·.1) = t.l.take m ∧ ps.length = m ∧ (∀ W : World, (∀ b o, P b → W.cell? ⟨b, o, none⟩ = w.cell? ⟨b, o, none⟩) → Src W 5 A m (flatP ps)) ∧ ∀ p ∈ ps, NodeIn w P p.1 p.2.1 p.2.2 := by
  cases h with
  | mk k a s n l A cap F C hs hl hmx hc hn =>
    have hm' : m ≤ l.length := hm
    have hlt : ∀ i : Fin m, i.val < l.length := fun i => by have := i.isLt; omega
    refine ⟨List.ofFn fun i : Fin m => (l[i.val]'(hlt i), F i.val, C i.val), ?_, by simp, ?_, ?_⟩
    · apply List.ext_getElem
      · simp [RT.l]; omega
      · intro i h1 h2
        simp [RT.l]
    · have hlen : ∀ ps : List (RT × Option Addr × Nat), (flatP ps).length = ps.length * 5 := by
        intro ps
        induction ps with
        | nil => rfl
        | cons p ps ih =>
          show (cellsP p ++ flatP ps).length = _
          rw [List.length_append, ih]; simp [cellsP]; omega
      refine fun W hW => ⟨by rw [hlen]; simp, fun h0 => ?_⟩
      obtain ⟨b, o, hA, hPb, hx⟩ := hc (by omega)
      refine ⟨_, hA, fun j u hu => ?_⟩
      have hj : j < m * 5 := by
        have := (List.getElem?_eq_some_iff.1 hu).1
        rw [hlen] at this
        simpa using this
      have hjm : j / 5 < m := by omega
      have e : j = j / 5 * 5 + j % 5 := by omega
      have hat := flatP_at (List.ofFn fun i : Fin m => (l[i.val]'(hlt i), F i.val, C i.val)) (j / 5) (j % 5) (by simpa using hjm) (by omega)
      rw [← e, hu] at hat
      have hcell := hx (j / 5) (by omega)
      rw [Addr.add_lit]
      have e2 : o + j = o + j / 5 * 5 + j % 5 := by omega
      rw [e2, hW b _ hPb]
      obtain ⟨y0, y1, y2, y3, y4⟩ := hcell
      have h5 : j % 5 = 0 ∨ j % 5 = 1 ∨ j % 5 = 2 ∨ j % 5 = 3 ∨ j % 5 = 4 := by omega
      simp only [List.getElem_ofFn] at hat
      rcases h5 with h5 | h5 | h5 | h5 | h5 <;> rw [h5] at hat ⊢
      · rw [Nat.add_zero, y0, hat]; rfl
      · rw [y1, hat]; rfl
      · rw [y2, hat]; rfl
      · rw [y3, hat]; rfl
      · rw [y4, hat]; rfl
    · intro p hp
      obtain ⟨i, rfl⟩ := (List.mem_ofFn).1 hp
      exact hn _ _

theorem flatP_append (ps qs : List (RT × Option Addr × Nat)) : flatP (ps ++ qs) = flatP ps ++ flatP qs := by unfold flatP; rw [List.flatMap_append]
/-- Rows that a call made: many more at once. -/
theorem NodeRow.more {w w' : World} {base : Nat} {e : TypeId} {v v' : Value} {ps qs : List (RT × Option Addr × Nat)} {P : Nat → Prop} (h : NodeRow w base e v ps P)
    (hn : ∀ p ∈ qs, NodeIn w P p.1 p.2.1 p.2.2) (ha : AppTo w base e 5 v (ps.length + qs.length) (flatP ps ++ flatP qs) v' w') : NodeRow w' base e v' (ps ++ qs) P := by
  obtain ⟨hr, hg, ho⟩ := ha
  have hcell : ∀ b o, P b → w'.cell? ⟨b, o, none⟩ = w.cell? ⟨b, o, none⟩ := fun b o hb' => World.cell?_of_block (a := ⟨b, o, none⟩) (hg.block b (h.far b hb').1 (fun e => (h.far b hb').2 e.symm))
  refine ⟨by rw [flatP_append, List.length_append]; exact hr, fun b hb' => ⟨Nat.lt_of_lt_of_le (h.far b hb').1 hg.size, fun e => ?_⟩, fun q hq => ?_⟩
  · rcases ho with ho | ho
    · exact (h.far b hb').2 (ho.symm.trans e)
    · have := (h.far b hb').1
      rw [ho] at e
      injection e with e
      omega
  · rcases List.mem_append.1 hq with hq | hq
    · exact (h.node q hq).imp hcell (fun _ h => h)
    · exact (hn q hq).imp hcell (fun _ h => h)
theorem NodeRow.app {w w' : World} {base : Nat} {e : TypeId} {v v' : Value} {ps qs : List (RT × Option Addr × Nat)} {P : Nat → Prop} {n m : Nat} (h : NodeRow w base e v ps P) (hn : ps.length = n) (hm : qs.length = m)
    (hq : ∀ p ∈ qs, NodeIn w P p.1 p.2.1 p.2.2) (ha : AppTo w base e 5 v (n + m) (flatP ps ++ flatP qs) v' w') : NodeRow w' base e v' (ps ++ qs) P := by
  subst hn; subst hm; exact h.more hq ha
end Go.Proofs.YteaojmcfppbgiaaGreatDoor

/- scholiumref04.good: the document's rule, for every tree. -/
namespace Go.Proofs.YteaojmcfppbgiaaGreatDoor
open Go.RowKit
set_option linter.unusedVariables false

end Go.Proofs.YteaojmcfppbgiaaGreatDoor

/- scholiumref04.Depth: level by level; the document's Expr, Pattern. -/
namespace Go.Proofs.YteaojmcfppbgiaaGreatDoor
open Go.RowKit
set_option linter.unusedVariables false
set_option maxRecDepth 100000

theorem NodeRow.base {w : World} {base base' : Nat} {e : TypeId} {v : Value} {ps : List (RT × Option Addr × Nat)} {P : Nat → Prop} (h : NodeRow w base e v ps P) (hb : base' ≤ base) : NodeRow w base' e v ps P := by
  refine ⟨⟨h.row.1, ?_⟩, h.far, h.node⟩
  rcases h.row.2 with h1 | ⟨g, cap, cur, h1, h2, h3⟩
  · exact .inl h1
  · exact .inr ⟨g, cap, cur, h1, by omega, h3⟩
/-- A row stays over an append to another one. -/
theorem NodeRow.over {w w' : World} {base : Nat} {e : TypeId} {v : Value} {ps : List (RT × Option Addr × Nat)} {P : Nat → Prop} {row : Option Nat} (h : NodeRow w base e v ps P) (hg : w.grownBy w' row) (h1 : v.ownBlock = none ∨ v.ownBlock ≠ row) (h2 : ∀ b, P b → some b ≠ row) : NodeRow w' base e v ps P :=
  h.kept hg.size (h.row.kept hg h1) (fun b hb => hg.block b (h.far b hb).1 (h2 b hb))
end Go.Proofs.YteaojmcfppbgiaaGreatDoor
