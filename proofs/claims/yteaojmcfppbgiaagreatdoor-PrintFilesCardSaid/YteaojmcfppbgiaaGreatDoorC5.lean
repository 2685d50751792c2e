/- How much of a tree scholiumlaw04.budget copies: all of it, unless it is very great. No program. -/
import Derived.Test.YteaojmcfppbgiaaGreatDoorB1
import Derived.LoopTactic
import Derived.LoopN
import Derived.Deep.RegionHeld3
import Derived.IntWalk
import Derived.Test.YteaojmcfppbgiaaGreatDoorC8
namespace Go.Proofs.YteaojmcfppbgiaaGreatDoor
open Go.RowKit
set_option linter.unusedVariables false

mutual
def bud : RT → Int → RT × Int
  | .node k a s n l, x => (.node k a s n (budL l (x - 1)).1, (budL l (x - 1)).2)
def budL : List RT → Int → List RT × Int
  | [], x => ([], x)
  | t :: r, x => if -9000 < x then ((bud t x).1 :: (budL r (bud t x).2).1, (budL r (bud t x).2).2) else ([], x)
end
theorem bud_node (k a : Int) (s : ByteArray) (n : Int) (l : List RT) (x : Int) : bud (.node k a s n l) x = (.node k a s n (budL l (x - 1)).1, (budL l (x - 1)).2) := by rw [bud]
theorem budL_nil (x : Int) : budL [] x = ([], x) := by rw [budL]
theorem budL_go {t : RT} {r : List RT} {x : Int} (h : -9000 < x) : budL (t :: r) x = ((bud t x).1 :: (budL r (bud t x).2).1, (budL r (bud t x).2).2) := by rw [budL, if_pos h]
theorem budL_stop {l : List RT} {x : Int} (h : ¬ -9000 < x) : budL l x = ([], x) := by
  cases l with
  | nil => rw [budL]
  | cons t r => rw [budL, if_neg h]

/-- Either all was copied, or no more were left. -/
def BudOk (t : RT) : Prop := ∀ x : Int, -9000 < x → ((bud t x).1 = t ∧ x - (bud t x).2 = t.size ∧ -9000 ≤ (bud t x).2) ∨ ((bud t x).2 = -9000 ∧ x + 9000 ≤ t.size)
theorem budL_ok : ∀ (l : List RT), (∀ t ∈ l, BudOk t) → ∀ x : Int, -9000 ≤ x → ((budL l x).1 = l ∧ x - (budL l x).2 = sizeL l ∧ -9000 ≤ (budL l x).2) ∨ ((budL l x).2 = -9000 ∧ x + 9000 ≤ sizeL l)
  | [], _, x, hx => by rw [budL_nil, sizeL_nil]; left; exact ⟨rfl, by simp, hx⟩
  | t :: r, h, x, hx => by
    by_cases hx' : -9000 < x
    · rw [budL_go hx', sizeL_cons]
      rcases h t (List.mem_cons_self) x hx' with ⟨h1, h2, h3⟩ | ⟨h1, h2⟩
      · rcases budL_ok r (fun u hu => h u (List.mem_cons_of_mem _ hu)) (bud t x).2 h3 with ⟨g1, g2, g3⟩ | ⟨g1, g2⟩
        · left; exact ⟨by rw [h1, g1], by omega, g3⟩
        · right; exact ⟨g1, by omega⟩
      · right
        have e : budL r (bud t x).2 = ([], (bud t x).2) := budL_stop (by omega)
        rw [e]
        exact ⟨h1, by omega⟩
    · rw [budL_stop hx']
      right; exact ⟨by show x = -9000; omega, by omega⟩
theorem bud_ok : ∀ t, BudOk t := by
  intro t
  induction t using RT.ind with
  | h k a s n l ih =>
    intro x hx
    rw [bud_node, size_node]
    rcases budL_ok l ih (x - 1) (by omega) with ⟨h1, h2, h3⟩ | ⟨h1, h2⟩
    · left; exact ⟨by rw [h1], by show x - (budL l (x - 1)).2 = _; omega, h3⟩
    · right; exact ⟨h1, by omega⟩
theorem bud_range (t : RT) {x : Int} (hx : -9000 < x) : -9000 ≤ (bud t x).2 ∧ (bud t x).2 + 1 ≤ x := by
  have := size_pos t
  rcases bud_ok t x hx with ⟨_, h2, h3⟩ | ⟨h1, _⟩ <;> omega
theorem budL_step {l : List RT} {x0 x : Int} {O : List RT} {i : Nat} (hi : i < l.length) (hx : -9000 < x) (h : budL l x0 = (O ++ (budL (l.drop i) x).1, (budL (l.drop i) x).2)) :
    budL l x0 = ((O ++ [(bud l[i] x).1]) ++ (budL (l.drop (i + 1)) (bud l[i] x).2).1, (budL (l.drop (i + 1)) (bud l[i] x).2).2) := by
  rw [List.drop_eq_getElem_cons hi, budL_go hx] at h
  rw [h]; simp
theorem budL_end {l : List RT} {x0 x : Int} {O : List RT} {i : Nat} (hi : ¬ i < l.length ∨ ¬ -9000 < x) (h : budL l x0 = (O ++ (budL (l.drop i) x).1, (budL (l.drop i) x).2)) : budL l x0 = (O, x) := by
  have e : budL (l.drop i) x = ([], x) := by
    rcases hi with hi | hx
    · rw [List.drop_eq_nil_of_le (by omega), budL_nil]
    · exact budL_stop hx
  rw [h, e]; simp

end Go.Proofs.YteaojmcfppbgiaaGreatDoor

/- scholiumlaw06.budget: a tree as the document's, in new memory. -/
namespace Go.Proofs.YteaojmcfppbgiaaGreatDoor
open Go.RowKit
set_option linter.unusedVariables false
set_option maxRecDepth 100000

def BudIs (t : RT) (x : Int) (w : World) (e : Ending) (w' : World) : Prop :=
  ∃ A cap, e = .returned (.tuple #[nodeV (bud t x).1 A cap, .int .i64 (bud t x).2]) ∧ IsNode w' w.heap.size w'.heap.size (bud t x).1 A cap ∧ Below w.heap.size w w'

def BudRel (w : World) (k a : Int) (s : ByteArray) (n : Int) (l : List RT) (x0 : Int) (A : Option Addr) (cap : Nat) (xv iv : Value) (wr : World) : Prop :=
  ∃ (i : Nat) (x : Int) (ps : List (RT × Option Addr × Nat)) (v : Value) (P : Nat → Prop), i ≤ l.length ∧ iv = .int .i64 i ∧ xv = .int .i64 x ∧ Below w.heap.size w wr ∧
    Bk wr w.heap.size 36 #[.int .i64 k, .int .i64 a, .string s, .int .i64 n, .slice A l.length cap] ∧ Bk wr (w.heap.size + 1) 27 #[.int .i64 0, .int .i64 0, .string ⟨#[]⟩, .int .i64 0, .slice none 0 0] ∧
    Bk wr (w.heap.size + 2) 27 #[.int .i64 k, .int .i64 a, .string s, .int .i64 n, v] ∧ NodeRow wr (w.heap.size + 3) 27 v ps P ∧ (∀ b, P b → w.heap.size + 3 ≤ b) ∧ ps.length = i ∧
    budL l x0 = (ps.map (·.1) ++ (budL (l.drop i) x).1, (budL (l.drop i) x).2) ∧ -9000 ≤ x ∧ x + i ≤ x0

set_option maxHeartbeats 2000000 in
theorem budget_any : ∀ (t : RT) (x : Int) (lo hi : Nat) (A : Option Addr) (cap : Nat) (w : World), IsNode w lo hi t A cap → hi ≤ w.heap.size → -9000 < x → x ≤ 1000 →
    Calls Tryz.prog 33 #[nodeV t A cap, .int .i64 x] w (BudIs t x w) := by
  intro t
  induction t using RT.ind with
  | h k a s n l ih =>
    intro x0 lo hi A cap w h hhi hx1 hx2
    obtain ⟨i0, hi0, hz0, hz1, hz2⟩ := info_parts infoR
    obtain ⟨hs, hl, hm⟩ := h.bounds
    have HSS := Lib.hid hs
    have IH := Lib.hid ih
    have HN := Lib.hid h.sub
    unfold maxLen at hm hs
    clear ih h
    rw [nodeV_node]
    go_enter Tryz.func33, Tryz.ntmps33
    go_wp2_with fail
    go_loopw [1, 7] (BudRel w k a s n l (x0 - 1) A cap) (fun _ iv _ => l.length - (intOf iv).toNat)
    case atStart =>
      refine ⟨0, x0 - 1, [], .slice none 0 0, fun _ => False, Nat.zero_le _, rfl, rfl, ?_, ?_, ?_, ?_, NodeRow.nil _ _ _, fun _ h => h.elim, rfl, by rw [List.drop_zero]; simp, by omega, by omega⟩
      · exact (((Below.refl _ _).alloc (Nat.le_refl _) _).alloc (by simp) _).alloc (by simp; omega) _
      · exact ((Bk.new w 36 _).alloc _).alloc _
      · have := (Bk.new (w.alloc (.cells #[.int .i64 k, .int .i64 a, .string s, .int .i64 n, .slice A l.length cap] 36)) 27 #[.int .i64 0, .int .i64 0, .string ⟨#[]⟩, .int .i64 0, .slice none 0 0]).alloc (.cells #[.int .i64 k, .int .i64 a, .string s, .int .i64 n, .slice none 0 0] 27)
        simpa using this
      · have := Bk.new ((w.alloc (.cells #[.int .i64 k, .int .i64 a, .string s, .int .i64 n, .slice A l.length cap] 36)).alloc (.cells #[.int .i64 0, .int .i64 0, .string ⟨#[]⟩, .int .i64 0, .slice none 0 0] 27)) 27 #[.int .i64 k, .int .i64 a, .string s, .int .i64 n, .slice none 0 0]
        simpa using this
    case round =>
      obtain ⟨i, x, ps, v, P, hi1, rfl, rfl, hB, b1, b2, b3, hrow, hP, hpl, hbud, hx3, hx4⟩ := hrel
      have hz := hB.size
      have hlt3 := b3.lt
      have y4 : wr.cell? ⟨w.heap.size, 4, none⟩ = some (.slice A l.length cap) := b1.cell 4
      obtain ⟨a1, c1, rfl⟩ := own_slice hrow.row
      have HB1 := Lib.hid b1
      have HB2 := Lib.hid b2
      have HB3 := Lib.hid b3
      have HROW := Lib.hid hrow
      have HPP := Lib.hid hP
      have HBUD := Lib.hid hbud
      have HPL := Lib.hid hpl
      clear b1 b2 b3 hrow hP hbud hpl
      have hfz : ∀ o, wr.frozen? ⟨w.heap.size + 1, o, none⟩ = false := fun o => HB2.out.cold o
      have d0 : wr.cell? ⟨w.heap.size + 1, 0, none⟩ = some (.int .i64 0) := HB2.out.cell 0
      have d1 : wr.cell? ⟨w.heap.size + 1, 1, none⟩ = some (.int .i64 0) := HB2.out.cell 1
      have d2 : wr.cell? ⟨w.heap.size + 1, 2, none⟩ = some (.string ⟨#[]⟩) := HB2.out.cell 2
      have d3 : wr.cell? ⟨w.heap.size + 1, 3, none⟩ = some (.int .i64 0) := HB2.out.cell 3
      have d4 : wr.cell? ⟨w.heap.size + 1, 4, none⟩ = some (.slice none 0 0) := HB2.out.cell 4
      have e0 : wr.cell? ⟨w.heap.size + 1 + 1, 0, none⟩ = some (.int .i64 k) := HB3.out.cell 0
      have e1 : wr.cell? ⟨w.heap.size + 1 + 1, 1, none⟩ = some (.int .i64 a) := HB3.out.cell 1
      have e2 : wr.cell? ⟨w.heap.size + 1 + 1, 2, none⟩ = some (.string s) := HB3.out.cell 2
      have e3 : wr.cell? ⟨w.heap.size + 1 + 1, 3, none⟩ = some (.int .i64 n) := HB3.out.cell 3
      have e4 : wr.cell? ⟨w.heap.size + 1 + 1, 4, none⟩ = some (.slice a1 ps.length c1) := HB3.out.cell 4
      have fin : (¬ i < l.length ∨ ¬ -9000 < x) → ∃ A' cap', (Value.agg #[.int .i64 k, .int .i64 a, .string s, .int .i64 n, .slice a1 ps.length c1] = nodeV (bud (.node k a s n l) x0).1 A' cap') ∧ x = (bud (.node k a s n l) x0).2 ∧ IsNode wr (w.heap.size + 3) wr.heap.size (bud (.node k a s n l) x0).1 A' cap' := fun hst => by
        have e := budL_end hst HBUD.out
        have eb : bud (.node k a s n l) x0 = (.node k a s n (ps.map (·.1)), x) := by rw [bud_node, e]
        rw [eb]
        refine ⟨a1, c1, ?_, rfl, ?_⟩
        · rw [nodeV_node, List.length_map]
        · exact (HROW.out.parent (Nat.le_refl _) HPP.out k a s n HSS.out)
      by_cases hil : i < l.length
      · by_cases hxx : -9000 < x
        · obtain ⟨b, o, F, C, hA, hb1, hb2, hx, hnode⟩ := (HN.out i hil).kept hB hhi
          subst hA
          obtain ⟨x0', x1', x2', x3', x4'⟩ := hx
          have hmem : l[i] ∈ l := List.getElem_mem hil
          have HIH := Lib.hid (IH.out l[i] hmem x lo hi F C wr hnode (by omega) hxx (by omega))
          have hi1' : (i : Int) < (l.length : Int) := by omega
          have HST := Lib.hid (budL_step hil hxx HBUD.out)
          clear fin hfz d0 d1 d2 d3 d4 e0 e1 e2 e3 e4
          have hrg := bud_range l[i] hxx
          obtain ⟨u, hu⟩ : ∃ u, (bud l[i] x).1 = u := ⟨_, rfl⟩
          obtain ⟨y, hy⟩ : ∃ y, (bud l[i] x).2 = y := ⟨_, rfl⟩
          unfold BudIs at HIH
          rw [hu, hy] at HIH HST
          rw [hy] at hrg
          clear hu hy
          go_wp2_with fail
          refine HIH.out.mono ?_
          rintro e w1 ⟨F', C', rfl, hn1, hb1⟩
          rw [nodeV]
          have hsz1 := hb1.size
          have B1 := HB1.out.below hb1 (by omega)
          have B2 := HB2.out.below hb1 (by omega)
          have B3 := HB3.out.below hb1 (by omega)
          have R1 := ((HROW.out.below hb1).alloc (.cells #[.int .i64 u.k, .int .i64 u.a, .string u.s, .int .i64 u.n, .slice F' u.l.length C'] 27)).alloc (.cells #[.int .i64 u.k, .int .i64 u.a, .string u.s, .int .i64 u.n, .slice F' u.l.length C'] 27)
          have hown := R1.row
          have c6 : w1.cell? ⟨w.heap.size + 1 + 1, 4, none⟩ = some (.slice a1 ps.length c1) := B3.cell 4
          have hlt6 : w.heap.size + 1 + 1 < w1.heap.size := by omega
          have HR1 := Lib.hid R1
          have HBB1 := Lib.hid B1
          have HBB2 := Lib.hid B2
          have HBB3 := Lib.hid B3
          have HN1 := Lib.hid hn1
          have HOW := Lib.hid hown
          have hpn : ps.length ≤ 10000 := by have := HPL.out; omega
          have HPN := Lib.hid hpn
          clear R1 B1 B2 B3 hn1 hown hpn
          go_wp2_with (at_builtin; refine wpList_app rfl _ _ 25 rfl (w.heap.size + 3) 27 i0 (.agg #[.int .i64 0, .int .i64 0, .string ⟨#[]⟩, .int .i64 0, .slice none 0 0]) 5 64 Tryz.underlying25 hi0 hz0 hz1 hz2 rfl (by decide) _ _ _ rfl HOW.out (some ⟨w1.heap.size + 1, 0, none⟩) 1 1 (cellsP (u, F', C')) rfl (src_at _ _ _ (by simp) rfl) (cellsP_one _) ?c3 ?c4 ?c5 ?_)
          case c3 => have := HPN.out; unfold maxLen; omega
          case c4 => have := HPN.out; omega
          case c5 => simp; omega
          rintro v2 w3 ⟨hown3, hg3, ho3⟩
          have hsz3 := hg3.size
          simp at hsz3
          have hown0 := HR1.out.row.lt
          have HRow := Lib.hid (HR1.out.push (Pn := fun b => wr.heap.size ≤ b ∧ b < w1.heap.size) (p := (u, F', C')) (((HN1.out.alloc (Nat.le_refl _) _).alloc (by simp) _)) (fun b hb => ⟨by simp; omega, fun e => by
            have := HROW.out.row.lt b e
            omega⟩) hown3 hg3 ho3)
          have hne : ∀ g, g < w.heap.size + 3 → some g ≠ (Value.slice a1 ps.length c1).ownBlock := fun g hg e => by
            have := hown0 g e.symm
            omega
          have B1 := Lib.hid (((HBB1.out.alloc _).alloc _).grown hg3 (hne _ (by omega)))
          have B2 := Lib.hid (((HBB2.out.alloc _).alloc _).grown hg3 (hne _ (by omega)))
          have B3 := Lib.hid (((HBB3.out.alloc _).alloc _).grown hg3 (hne _ (by omega)))
          have hbb := ((hB.trans (hb1.mono hz)).alloc (by omega) (.cells #[.int .i64 u.k, .int .i64 u.a, .string u.s, .int .i64 u.n, .slice F' u.l.length C'] 27)).alloc (by simp; omega) (.cells #[.int .i64 u.k, .int .i64 u.a, .string u.s, .int .i64 u.n, .slice F' u.l.length C'] 27)
          have HB4 := Lib.hid (hbb.grown hg3 (by simp; omega) (fun g e => by have := hown0 g e; omega))
          obtain ⟨a2, c2, rfl⟩ := own_slice hown3
          have e6 : w3.cell? ⟨w.heap.size + 1 + 1, 4, none⟩ = some (.slice a1 ps.length c1) := B3.out.cell 4
          have f6 : w3.frozen? ⟨w.heap.size + 1 + 1, 4, none⟩ = false := B3.out.cold 4
          clear hown3 hg3 ho3 hown0 hne hbb
          go_wp2_with fail
          go_roundw
          case rel =>
            refine ⟨i + 1, y, ps ++ [(u, F', C')], .slice a2 (ps.length + 1) c2, fun b => P b ∨ (wr.heap.size ≤ b ∧ b < w1.heap.size), by omega, rfl, rfl, HB4.out.setCell (by simp; omega) _, ?_, ?_, ?_, ?_, ?_, ?_, ?_, by omega, by omega⟩
            · exact B1.out.far (by simp; omega) _
            · exact B2.out.far (by simp) _
            · exact B3.out.at_ 4 _
            · exact HRow.out.setCell (by simp) (fun b hb => by
                rcases hb with hb | hb
                · have := HPP.out b hb; simp; omega
                · simp; omega) _
            · intro b hb
              rcases hb with hb | hb
              · exact HPP.out b hb
              · omega
            · rw [List.length_append]; simp; exact HPL.out
            · rw [HST.out]; simp
          case measure => simp [intOf]; omega
        · have HF := Lib.hid (fin (.inr hxx))
          clear fin
          obtain ⟨A', cap', q1, q2, q3⟩ := HF.out
          obtain ⟨s0, s1, s2, s3, s4⟩ := HB2.out.five (.int .i64 k) (.int .i64 a) (.string s) (.int .i64 n) (.slice a1 ps.length c1)
          have HQ1 := Lib.hid q1
          have HQ2 := Lib.hid q2
          have HS0 := Lib.hid s0
          have HS1 := Lib.hid s1
          have HS2 := Lib.hid s2
          have HS3 := Lib.hid s3
          have HS4 := Lib.hid s4
          clear q1 q2 s0 s1 s2 s3 s4
          go_wp2_with fail
          refine bodyPost_ret (v := .tuple #[.agg #[.int .i64 k, .int .i64 a, .string s, .int .i64 n, .slice a1 ps.length c1], .int .i64 x]) (by simp [results, Tryz.results33, go_sem, HS0.out, HS1.out, HS2.out, HS3.out, HS4.out]) rfl ?_
          refine ⟨A', cap', by rw [HQ1.out, HQ2.out], ?_, ?_⟩
          · rw [size_five]; exact (q3.five (by omega) _ _ _ _ _).wide (by omega) (Nat.le_refl _)
          · exact ((((hB.setCell (by simp) _).setCell (by simp) _).setCell (by simp) _).setCell (by simp) _).setCell (by simp) _
      · have HF := Lib.hid (fin (.inl hil))
        clear fin
        obtain ⟨A', cap', q1, q2, q3⟩ := HF.out
        obtain ⟨s0, s1, s2, s3, s4⟩ := HB2.out.five (.int .i64 k) (.int .i64 a) (.string s) (.int .i64 n) (.slice a1 ps.length c1)
        have HQ1 := Lib.hid q1
        have HQ2 := Lib.hid q2
        have HS0 := Lib.hid s0
        have HS1 := Lib.hid s1
        have HS2 := Lib.hid s2
        have HS3 := Lib.hid s3
        have HS4 := Lib.hid s4
        clear q1 q2 s0 s1 s2 s3 s4
        go_wp2_with fail
        refine bodyPost_ret (v := .tuple #[.agg #[.int .i64 k, .int .i64 a, .string s, .int .i64 n, .slice a1 ps.length c1], .int .i64 x]) (by simp [results, Tryz.results33, go_sem, HS0.out, HS1.out, HS2.out, HS3.out, HS4.out]) rfl ?_
        refine ⟨A', cap', by rw [HQ1.out, HQ2.out], ?_, ?_⟩
        · rw [size_five]; exact (q3.five (by omega) _ _ _ _ _).wide (by omega) (Nat.le_refl _)
        · exact ((((hB.setCell (by simp) _).setCell (by simp) _).setCell (by simp) _).setCell (by simp) _).setCell (by simp) _

end Go.Proofs.YteaojmcfppbgiaaGreatDoor

/- scholiumref04.Size: how many nodes, by a list of what is to be done. -/
namespace Go.Proofs.YteaojmcfppbgiaaGreatDoor
open Go.RowKit
set_option linter.unusedVariables false
set_option maxRecDepth 100000

/-- The first Subs of a node, as a source. -/
theorem NodeIn.first {w : World} {P : Nat → Prop} {t : RT} {A : Option Addr} {cap : Nat} (h : NodeIn w P t A cap) (m : Nat) (hm : m ≤ t.l.length) :
    ∃ ps : List (RT × Option Addr × Nat), ps.map (·.1) = t.l.take m ∧ ps.length = m ∧ (∀ W : World, (∀ b o, P b → W.cell? ⟨b, o, none⟩ = w.cell? ⟨b, o, none⟩) → Src W 5 A m (flatP ps)) ∧ ∀ p ∈ ps, NodeIn w P p.1 p.2.1 p.2.2 := by
  cases h with
  | mk k a s n l A cap F C hs hl hmx hc hn =>
    have hm' : m ≤ l.length := hm
    have hlt : ∀ i : Fin m, i.val < l.length := fun i => by have := i.isLt; omega
    refine ⟨List.ofFn fun i : Fin m => (l[i.val]'(hlt i), F i.val, C i.val), ?_, by simp, ?_, ?_⟩
    · apply List.ext_getElem
      · simp [RT.l]; omega
      · intro i h1 h2
        simp [RT.l]
    · have hlen : ∀ ps : List (RT × Option Addr × Nat), (flatP ps).length = ps.length * 5 := by
        intro ps
        induction ps with
        | nil => rfl
        | cons p ps ih =>
          show (cellsP p ++ flatP ps).length = _
          rw [List.length_append, ih]; simp [cellsP]; omega
      refine fun W hW => ⟨by rw [hlen]; simp, fun h0 => ?_⟩
      obtain ⟨b, o, hA, hPb, hx⟩ := hc (by omega)
      refine ⟨_, hA, fun j u hu => ?_⟩
      have hj : j < m * 5 := by
        have := (List.getElem?_eq_some_iff.1 hu).1
        rw [hlen] at this
        simpa using this
      have hjm : j / 5 < m := by omega
      have e : j = j / 5 * 5 + j % 5 := by omega
      have hat := flatP_at (List.ofFn fun i : Fin m => (l[i.val]'(hlt i), F i.val, C i.val)) (j / 5) (j % 5) (by simpa using hjm) (by omega)
      rw [← e, hu] at hat
      have hcell := hx (j / 5) (by omega)
      rw [Addr.add_lit]
      have e2 : o + j = o + j / 5 * 5 + j % 5 := by omega
      rw [e2, hW b _ hPb]
      obtain ⟨y0, y1, y2, y3, y4⟩ := hcell
      have h5 : j % 5 = 0 ∨ j % 5 = 1 ∨ j % 5 = 2 ∨ j % 5 = 3 ∨ j % 5 = 4 := by omega
      simp only [List.getElem_ofFn] at hat
      rcases h5 with h5 | h5 | h5 | h5 | h5 <;> rw [h5] at hat ⊢
      · rw [Nat.add_zero, y0, hat]; rfl
      · rw [y1, hat]; rfl
      · rw [y2, hat]; rfl
      · rw [y3, hat]; rfl
      · rw [y4, hat]; rfl
    · intro p hp
      obtain ⟨i, rfl⟩ := (List.mem_ofFn).1 hp
      exact hn _ _

theorem flatP_length (ps : List (RT × Option Addr × Nat)) : (flatP ps).length = ps.length * 5 := by
  induction ps with
  | nil => rfl
  | cons p ps ih =>
    show (cellsP p ++ flatP ps).length = _
    rw [List.length_append, ih]; simp [cellsP]; omega
theorem flatP_one (ps : List (RT × Option Addr × Nat)) : ∀ u ∈ flatP ps, u.oneCell' = true := by
  intro u hu
  obtain ⟨p, _, h⟩ := List.mem_flatMap.1 hu
  exact cellsP_one p u h
theorem flatP_append (ps qs : List (RT × Option Addr × Nat)) : flatP (ps ++ qs) = flatP ps ++ flatP qs := by unfold flatP; rw [List.flatMap_append]
/-- Rows that a call made: many more at once. -/
theorem NodeRow.more {w w' : World} {base : Nat} {e : TypeId} {v v' : Value} {ps qs : List (RT × Option Addr × Nat)} {P : Nat → Prop} (h : NodeRow w base e v ps P)
    (hn : ∀ p ∈ qs, NodeIn w P p.1 p.2.1 p.2.2) (ha : AppTo w base e 5 v (ps.length + qs.length) (flatP ps ++ flatP qs) v' w') : NodeRow w' base e v' (ps ++ qs) P := by
  obtain ⟨hr, hg, ho⟩ := ha
  have hcell : ∀ b o, P b → w'.cell? ⟨b, o, none⟩ = w.cell? ⟨b, o, none⟩ := fun b o hb' => World.cell?_of_block (a := ⟨b, o, none⟩) (hg.block b (h.far b hb').1 (fun e => (h.far b hb').2 e.symm))
  refine ⟨by rw [flatP_append, List.length_append]; exact hr, fun b hb' => ⟨Nat.lt_of_lt_of_le (h.far b hb').1 hg.size, fun e => ?_⟩, fun q hq => ?_⟩
  · rcases ho with ho | ho
    · exact (h.far b hb').2 (ho.symm.trans e)
    · have := (h.far b hb').1
      rw [ho] at e
      injection e with e
      omega
  · rcases List.mem_append.1 hq with hq | hq
    · exact (h.node q hq).imp hcell (fun _ h => h)
    · exact (hn q hq).imp hcell (fun _ h => h)
theorem NodeRow.app {w w' : World} {base : Nat} {e : TypeId} {v v' : Value} {ps qs : List (RT × Option Addr × Nat)} {P : Nat → Prop} {n m : Nat} (h : NodeRow w base e v ps P) (hn : ps.length = n) (hm : qs.length = m)
    (hq : ∀ p ∈ qs, NodeIn w P p.1 p.2.1 p.2.2) (ha : AppTo w base e 5 v (n + m) (flatP ps ++ flatP qs) v' w') : NodeRow w' base e v' (ps ++ qs) P := by
  subst hn; subst hm; exact h.more hq ha
theorem row_snoc {α : Type} {l : List α} (h : 0 < l.length) : ∃ q x, l = q ++ [x] ∧ l.length = q.length + 1 := by
  obtain ⟨q, x, rfl⟩ : ∃ q x, l = q ++ [x] := by
    rcases List.eq_nil_or_concat l with rfl | ⟨q, x, rfl⟩
    · simp at h
    · exact ⟨q, x, by simp⟩
  exact ⟨q, x, rfl, by simp⟩

def SizeRel (w : World) (k a : Int) (s : ByteArray) (n : Int) (l : List RT) (A : Option Addr) (cap lo hi : Nat) (tv hv : Value) (wr : World) : Prop :=
  ∃ (h : Nat) (ps : List (RT × Option Addr × Nat)), hv = .int .i64 h ∧ Below w.heap.size w wr ∧ NodeRow wr w.heap.size 27 tv ps (fun b => lo ≤ b ∧ b < hi) ∧
    h ≤ 8193 ∧ ps.length ≤ (h + 1) * 8193 ∧ topN (h + sizeL (ps.map (·.1))) = topN (sizeL l + 1)

set_option maxHeartbeats 2000000 in
theorem refSize_any (t : RT) (lo hi : Nat) (A : Option Addr) (cap : Nat) (w : World) (h : IsNode w lo hi t A cap) (hhi : hi ≤ w.heap.size) :
    Calls Tryz.prog 149 #[nodeV t A cap] w fun e w' => e = .returned (.int .i64 (topN t.size : Int)) ∧ Below w.heap.size w w' := by
  obtain ⟨k, a, s, n, l⟩ := t
  obtain ⟨i0, hi0, hz0, hz1, hz2⟩ := info_parts infoR
  have HH := Lib.hid h
  rw [nodeV_node, size_node]
  go_enter Tryz.func149, Tryz.ntmps149
  go_wp2_with fail
  go_loopw [3, 4] (SizeRel w k a s n l A cap lo hi) (fun _ hv _ => 8194 - (intOf hv).toNat)
  case atStart =>
    refine ⟨0, [(.node k a s n l, A, cap)], rfl, ((Below.refl _ _).alloc (Nat.le_refl _) _).alloc (by simp) _, ?_, by omega, by simp, ?_⟩
    · refine ⟨?_, fun b hb => ⟨by simp; omega, fun e => ?_⟩, fun p hp => ?_⟩
      · have := World.ownsRow_lit (base := w.heap.size) (e := 27) (size := 5) (w.alloc (.cells #[.int .i64 k, .int .i64 a, .string s, .int .i64 n, .slice A l.length cap] 27)) #[.int .i64 k, .int .i64 a, .string s, .int .i64 n, .slice A l.length cap] 1 (by simp) (by decide) rfl
        simp at this
        exact this
      · have e' : w.heap.size + 1 = b := by simpa [Value.ownBlock] using e
        omega
      · obtain rfl : p = (.node k a s n l, A, cap) := by simpa using hp
        exact ((HH.out.alloc hhi _).alloc (by simp; omega) _)
    · show topN (0 + sizeL [.node k a s n l]) = _
      rw [sizeL_cons, sizeL_nil, size_node]; congr 1; omega
  case round =>
    obtain ⟨d, ps, rfl, hB, hrow, hd, hlen, hcut⟩ := hrel
    have hz := hB.size
    obtain ⟨a1, c1, rfl⟩ := own_slice hrow.row
    by_cases h0 : 0 < ps.length
    · by_cases hd2 : d ≤ 8192
      · obtain ⟨qs, p, rfl, hq1⟩ := row_snoc h0
        obtain ⟨g, c, hv, hg1, hg2⟩ := hrow.row.form h0
        injection hv with hv _ hv2
        subst hv
        subst hv2
        obtain ⟨m, hm⟩ : ∃ m, qs.length = m := ⟨_, rfl⟩
        have hat : ∀ r, r < 5 → wr.cell? ⟨g, m * 5 + r, none⟩ = (cellsP p)[r]? := fun r hr => by
          have h1 := hrow.row.cellAt (m * 5 + r) (by rw [hq1, hm]; omega)
          have h2 := flatP_at (qs ++ [p]) m r (by rw [hq1, hm]; omega) hr
          rw [h1, h2]
          simp [← hm]
        have x0 : wr.cell? ⟨g, m * 5, none⟩ = some (.int .i64 p.1.k) := hat 0 (by omega)
        have x1 : wr.cell? ⟨g, m * 5 + 1, none⟩ = some (.int .i64 p.1.a) := hat 1 (by omega)
        have x2 : wr.cell? ⟨g, m * 5 + 2, none⟩ = some (.string p.1.s) := hat 2 (by omega)
        have x3 : wr.cell? ⟨g, m * 5 + 3, none⟩ = some (.int .i64 p.1.n) := hat 3 (by omega)
        have x4 : wr.cell? ⟨g, m * 5 + 4, none⟩ = some (.slice p.2.1 p.1.l.length p.2.2) := hat 4 (by omega)
        obtain ⟨mm, hmm⟩ : ∃ mm, min p.1.l.length 8193 = mm := ⟨_, rfl⟩
        obtain ⟨ss, hs1, hs2, hs3, hs4⟩ := (hrow.node p (by simp)).first mm (by omega)
        have hlen1 : (qs ++ [p]).length = m + 1 := by rw [hq1, hm]
        rw [hlen1] at hrow ⊢
        have HPC : Hid (p.1.l.length ≤ p.2.2) := by
          have h := hrow.node p (by simp)
          rw [p.1.eta] at h
          exact h.bounds.2.1
        have hcap1 : m + 1 ≤ c1 := by
          rcases hrow.row.2 with ⟨h1, _⟩ | ⟨_, _, _, h1, _, _, h2, _⟩
          · simp at h1
          · injection h1 with _ _ h3
            rw [h3]; rw [hlen1] at h2; exact h2
        have HROW := Lib.hid hrow
        have hrr := hrow.row
        rw [hlen1] at hrr
        have HRR := Lib.hid hrr
        clear hrr
        have hM : min (p.1.l.length : Int) 8193 = (mm : Int) := by omega
        have hmI : (m : Int) ≤ 67125249 := by rw [hq1, hm] at hlen; have : (d + 1) * 8193 ≤ 8193 * 8193 := Nat.mul_le_mul_right _ (by omega); omega
        have HLEN : Hid (m + 1 ≤ (d + 1) * 8193) := Lib.hid (by rw [hq1, hm] at hlen; exact hlen)
        clear hlen
        have HCUT := Lib.hid hcut
        clear hrow hat hcut h
        have HL := Lib.hid hlen1
        have HMM := Lib.hid hmm
        have HQ1 := Lib.hid hq1
        have HM := Lib.hid hm
        have HS1 := Lib.hid hs1
        have HS2 := Lib.hid hs2
        clear hlen1 hmm hq1 hm hs1 hs2
        have hW1 : IntKind.i64.wrap (m : Int) = (m : Int) := IntWalk.i64_in _ (by omega)
        have hc1 : m + 1 ≤ c1 := hcap1
        have hm0 : (0 : Int) ≤ (m : Int) := by omega
        have hmc : (m : Int) ≤ (c1 : Int) := by omega
        have hc0 : ¬ c1 = 0 := by omega
        have hsr1 : ∀ W, Below wr.heap.size wr W → Src W 5 (some ⟨g, 0, none⟩) m (flatP qs) := fun W hW => ⟨by rw [flatP_length, HM.out], fun _ => ⟨_, rfl, fun j u hu => by
          have hj : j < m * 5 := by
            have := (List.getElem?_eq_some_iff.1 hu).1
            rw [flatP_length, HM.out] at this
            exact this
          rw [Addr.add_lit, Nat.zero_add, hW.cell (p := ⟨g, j, none⟩) hg2, HRR.out.cellAt j (by omega), flatP_append, List.getElem?_append_left (by rw [flatP_length, HM.out]; exact hj)]
          exact hu⟩⟩
        have hsr2 : ∀ W, Below wr.heap.size wr W → Src W 5 p.2.1 mm (flatP ss) := fun W hW => hs3 W (fun b o hb => hW.cell (p := ⟨b, o, none⟩) (by show b < wr.heap.size; omega))
        have hnr0 : ∀ (W : World) (gg : Nat), w.heap.size ≤ gg → hi ≤ W.heap.size → W.ownsRow w.heap.size 27 5 (.slice (some ⟨gg, 0, none⟩) 0 0) 0 [] → NodeRow W w.heap.size 27 (.slice (some ⟨gg, 0, none⟩) 0 0) [] (fun b => lo ≤ b ∧ b < hi) := fun W gg h1 h2 h3 =>
          ⟨h3, fun b hb => ⟨by omega, fun e => by have e' : gg = b := by simpa [Value.ownBlock] using e
                                                  omega⟩, fun q hq => by cases hq⟩
        have hq3 : ∀ W, Below wr.heap.size wr W → ∀ q ∈ qs, NodeIn W (fun b => lo ≤ b ∧ b < hi) q.1 q.2.1 q.2.2 := fun W hW q hq => (HROW.out.node q (List.mem_append_left _ hq)).imp (fun b o hb => hW.cell (p := ⟨b, o, none⟩) (by show b < wr.heap.size; omega)) (fun _ h => h)
        have hs5 : ∀ W, Below wr.heap.size wr W → ∀ q ∈ ss, NodeIn W (fun b => lo ≤ b ∧ b < hi) q.1 q.2.1 q.2.2 := fun W hW q hq => (hs4 q hq).imp (fun b o hb => hW.cell (p := ⟨b, o, none⟩) (by show b < wr.heap.size; omega)) (fun _ h => h)
        have hmm2 : mm ≤ 8193 := by have := HMM.out; omega
        have hcut2 : topN (d + 1 + sizeL ((qs ++ ss).map (·.1))) = topN (sizeL l + 1) := by
          rw [← HCUT.out, List.map_append, List.map_append, sizeL_append, sizeL_append]
          show _ = topN (d + (sizeL (qs.map (·.1)) + sizeL [p.1]))
          rw [HS1.out, sizeL_cons, sizeL_nil]
          have e1 : p.1.size = sizeL p.1.l + 1 := by
            rw [p.1.eta, size_node]; rfl
          rw [e1]
          have := HMM.out
          by_cases hb : p.1.l.length ≤ 8193
          · rw [List.take_of_length_le (by omega)]
            congr 1; omega
          · have h1 := sizeL_len (p.1.l.take mm)
            have h2 := sizeL_len p.1.l
            rw [List.length_take] at h1
            unfold topN; omega
        have hB1 : ∀ o1 o2, Below wr.heap.size wr (((wr.alloc o1).alloc o2).drew) := fun o1 o2 => (((Below.refl _ _).alloc (Nat.le_refl _) _).alloc (by simp) _).drew
        have HSR1 := Lib.hid hsr1
        have HSR2 := Lib.hid hsr2
        have HNR0 := Lib.hid hnr0
        have HQ3 := Lib.hid hq3
        have HS5 := Lib.hid hs5
        have HCUT2 := Lib.hid hcut2
        have HBB1 := Lib.hid hB1
        have HS3 := Lib.hid hs3
        have HS4 := Lib.hid hs4
        clear hsr1 hsr2 hnr0 hq3 hs5 hcut2 hB1 hs3 hs4
        have HB := Lib.hid hB
        clear hB
        have hmin1 : (if (8193 : Int) < (p.1.l.length : Int) then (8193 : Int) else (p.1.l.length : Int)) = (mm : Int) := by have := HMM.out; split <;> omega
        have hmin2 : (if 8193 < p.1.l.length then (8193 : Int) else (p.1.l.length : Int)) = (mm : Int) := by have := HMM.out; split <;> omega
        have hmap1 : Option.map (fun x : Addr => x.add 0) p.2.1 = p.2.1 := by cases p.2.1 <;> rfl
        have hmap2 : Option.map (fun x : Addr => x) p.2.1 = p.2.1 := by cases p.2.1 <;> rfl
        have hmc2 : mm ≤ p.2.2 := by have := HMM.out; have := HPC.out; omega
        have hmc3 : (mm : Int) ≤ (p.2.2 : Int) := by omega
        have hmm0 : (0 : Int) ≤ (mm : Int) := by omega
        obtain ⟨W, hW⟩ : ∃ W, ((wr.alloc (.cells #[.int .i64 p.1.k, .int .i64 p.1.a, .string p.1.s, .int .i64 p.1.n, .slice p.2.1 p.1.l.length p.2.2] 27)).alloc (.cells #[] 27)).drew = W := ⟨_, rfl⟩
        have hWB : Below wr.heap.size wr W := by rw [← hW]; exact HBB1.out _ _
        have hWz : W.heap.size = wr.heap.size + 1 + 1 := by rw [← hW]; simp
        have hWc : W.cell? ⟨wr.heap.size, 4, none⟩ = some (.slice p.2.1 p.1.l.length p.2.2) := by rw [← hW]; simp
        have hWo : W.ownsRow w.heap.size 27 5 (.slice (some ⟨wr.heap.size + 1, 0, none⟩) 0 0) 0 [] := by
          rw [← hW]
          have h := World.ownsRow_lit (base := w.heap.size) (e := 27) (size := 5) (wr.alloc (.cells #[.int .i64 p.1.k, .int .i64 p.1.a, .string p.1.s, .int .i64 p.1.n, .slice p.2.1 p.1.l.length p.2.2] 27)) #[] 0 (by simp; omega) (by decide) rfl
          simp at h
          exact h.drew
        have F1 : ∀ v2 w2, AppTo W w.heap.size 27 5 (.slice (some ⟨wr.heap.size + 1, 0, none⟩) 0 0) (0 + m) ([] ++ flatP qs) v2 w2 →
            w2.cell? ⟨wr.heap.size, 4, none⟩ = some (.slice p.2.1 p.1.l.length p.2.2) ∧ wr.heap.size + 2 ≤ w2.heap.size ∧ Hid (Below wr.heap.size wr w2) ∧ Hid (NodeRow w2 w.heap.size 27 v2 qs (fun b => lo ≤ b ∧ b < hi)) ∧ Hid (∀ k, v2.ownBlock = some k → wr.heap.size + 1 ≤ k) := by
          intro v2 w2 ha
          refine ⟨(ha.2.1.cell_far ⟨wr.heap.size, 4, none⟩ (by show wr.heap.size < W.heap.size; omega) (by simp [Value.ownBlock])).trans hWc, by have := ha.2.1.size; omega, ?_, ?_, ?_⟩
          · exact hWB.grown ha.2.1 (by omega) (fun k hk => by have : wr.heap.size + 1 = k := by simpa [Value.ownBlock] using hk
                                                              omega)
          · exact (HNR0.out W (wr.heap.size + 1) (by omega) (by omega) hWo).app rfl HM.out (HQ3.out _ hWB) ha
          · show ∀ k, _
            intro k hk
            rcases ha.2.2 with h | h
            · rw [h] at hk
              have : wr.heap.size + 1 = k := by simpa [Value.ownBlock] using hk
              omega
            · rw [h] at hk; injection hk with hk; omega
        have F2 : ∀ v2 w2 v3 w3, Below wr.heap.size wr w2 → NodeRow w2 w.heap.size 27 v2 qs (fun b => lo ≤ b ∧ b < hi) → (∀ k, v2.ownBlock = some k → wr.heap.size + 1 ≤ k) → w2.cell? ⟨wr.heap.size, 4, none⟩ = some (.slice p.2.1 p.1.l.length p.2.2) → wr.heap.size + 2 ≤ w2.heap.size →
            AppTo w2 w.heap.size 27 5 v2 (m + mm) (flatP qs ++ flatP ss) v3 w3 →
            w3.cell? ⟨wr.heap.size, 4, none⟩ = some (.slice p.2.1 p.1.l.length p.2.2) ∧ Hid (Below wr.heap.size wr w3) ∧ Hid (NodeRow w3 w.heap.size 27 v3 (qs ++ ss) (fun b => lo ≤ b ∧ b < hi)) := by
          intro v2 w2 v3 w3 h1 h2 h3 h4 h5 ha
          refine ⟨(ha.2.1.cell_far ⟨wr.heap.size, 4, none⟩ (by show wr.heap.size < w2.heap.size; omega) (fun e => by have h6 := h3 wr.heap.size e.symm; omega)).trans h4, ?_, ?_⟩
          · exact h1.grown ha.2.1 (by omega) (fun k hk => by have := h3 k hk; omega)
          · exact h2.app HM.out HS2.out (HS5.out _ h1) ha
        have F3 : ∀ v2 w2, NodeRow w2 w.heap.size 27 v2 qs (fun b => lo ≤ b ∧ b < hi) → w2.ownsRow w.heap.size 27 5 v2 m (flatP qs) := fun v2 w2 h => by
          have := h.row
          rw [HM.out] at this
          exact this
        have HF1 := Lib.hid F1
        have HF2 := Lib.hid F2
        have HF3 := Lib.hid F3
        have HWB := Lib.hid hWB
        have HWZ := Lib.hid hWz
        have HWO := Lib.hid hWo
        have HW := Lib.hid hW
        clear F1 F2 F3 hWB hWz hWc hWo hW
        go_wp2_with fail
        go_region_held3 (fun w' => w'.cell? ⟨wr.heap.size, 4, none⟩ = some (.slice p.2.1 p.1.l.length p.2.2)) (first | go_keep)
          (first
            | (rw [HW.out]
               refine step_app rfl (.tmp 21) (.tmp 26) 25 rfl w.heap.size 27 i0 (.agg #[.int .i64 0, .int .i64 0, .string ⟨#[]⟩, .int .i64 0, .slice none 0 0]) 5 64 Tryz.underlying25 hi0 hz0 hz1 hz2 rfl (by decide) (.slice (some ⟨wr.heap.size + 1, 0, none⟩) 0 0) 0 [] rfl HWO.out (some ⟨g, 0, none⟩) m c1 (flatP qs) rfl (HSR1.out _ HWB.out) (flatP_one _) (by unfold maxLen; omega) (by omega) (by have := HWZ.out; omega) ?_
               rintro v2 w2 ha2
               obtain ⟨hc2, hz22, HB2, HR2, HO2⟩ := HF1.out v2 w2 ha2
               clear ha2)
            | (refine step_app rfl (.tmp 27) (.tmp 34) 25 rfl w.heap.size 27 i0 (.agg #[.int .i64 0, .int .i64 0, .string ⟨#[]⟩, .int .i64 0, .slice none 0 0]) 5 64 Tryz.underlying25 hi0 hz0 hz1 hz2 rfl (by decide) v2 m (flatP qs) rfl (HF3.out _ _ HR2.out) p.2.1 mm p.2.2 (flatP ss) rfl (HSR2.out _ HB2.out) (flatP_one _) (by unfold maxLen; omega) (by omega) (by omega) ?_
               rintro v3 w3 ha3
               obtain ⟨hc3, HB3, HR3⟩ := HF2.out v2 w2 v3 w3 HB2.out HR2.out HO2.out hc2 hz22 ha3
               clear ha3))
        all_goals
          go_wp2_with fail
          go_roundw
          case rel => exact ⟨d + 1, qs ++ ss, rfl, HB.out.trans (HB3.out.mono hz), HR3.out, by omega, by rw [List.length_append, HM.out, HS2.out]; have := HLEN.out; omega, HCUT2.out⟩
          case measure => simp [intOf]; omega

      · have e : d = 8193 := by omega
        have HR := Lib.hid (show (d : Nat) = topN (sizeL l + 1) by rw [← hcut, e]; unfold topN; omega)
        clear e hcut hrow hlen
        go_wp2_with fail
        go_ret
        exact ⟨ret_nat HR.out, hB⟩
    · have e : ps = [] := List.eq_nil_of_length_eq_zero (by omega)
      subst e
      have HR := Lib.hid (show (d : Nat) = topN (sizeL l + 1) by rw [← hcut]; unfold topN; simp [sizeL_nil]; omega)
      clear hcut hrow hlen
      go_wp2_with fail
      go_ret
      exact ⟨ret_nat HR.out, hB⟩

end Go.Proofs.YteaojmcfppbgiaaGreatDoor

/- scholiumref04.good: the document's rule, for every tree. -/
namespace Go.Proofs.YteaojmcfppbgiaaGreatDoor
open Go.RowKit
set_option linter.unusedVariables false

theorem goodL_take {l : List RT} {p : Bool} {i : Nat} (h : i < l.length) : goodL (l.take (i + 1)) p = (goodL (l.take i) p && goodB l[i] p) := by
  rw [goodL_all, goodL_all, take_snoc h, List.all_append]; simp
theorem goodL_no {l : List RT} {p : Bool} {i : Nat} (h : i < l.length) (hg : goodB l[i] p = false) : goodL l p = false := by
  cases e : goodL l p with
  | false => rfl
  | true =>
    rw [goodL_all, List.all_eq_true] at e
    have := e _ (List.getElem_mem h)
    rw [hg] at this; cases this

set_option maxHeartbeats 2000000 in
theorem good_any : ∀ (t : RT) (p : Bool) (lo hi : Nat) (A : Option Addr) (cap : Nat) (w : World), IsNode w lo hi t A cap → hi ≤ w.heap.size →
    Calls Tryz.prog 105 #[nodeV t A cap, .bool p] w fun e w' => e = .returned (.bool (goodB t p)) ∧ Below w.heap.size w w' := by
  intro t
  induction t using RT.ind with
  | h k a s n l ih =>
    intro p lo hi A cap w h hhi
    obtain ⟨hs, hl, hm⟩ := h.bounds
    have IH := Lib.hid ih
    have HN : Hid (NodesAt w lo hi A l) := Lib.hid (h.sub)
    unfold maxLen at hm hs
    clear ih h
    rw [nodeV_node]
    obtain ⟨r, hr⟩ : ∃ r, goodB (.node k a s n l) p = r := ⟨_, rfl⟩
    rw [hr]
    have HG := Lib.hid hr
    clear hr
    have topF : topB k s n l.length p = false → r = false := fun h => by rw [← HG.out, goodB_node, h]; rfl
    have TOP := Lib.hid topF
    clear topF
    by_cases hk1 : k < 1
    · have HR := Lib.hid (TOP.out (by unfold topB; rw [decide_eq_false (by omega : ¬ 1 ≤ k)]; rfl))
      go_enter Tryz.func105, Tryz.ntmps105
      go_wp2_with fail
      go_ret
      exact ⟨by rw [HR.out]; rfl, (Below.refl _ _).alloc (Nat.le_refl _) _⟩
    by_cases hk2 : 10 < k
    · have HR := Lib.hid (TOP.out (by unfold topB; rw [decide_eq_false (by omega : ¬ k ≤ 10)]; simp))
      go_enter Tryz.func105, Tryz.ntmps105
      go_wp2_with fail
      go_ret
      exact ⟨by rw [HR.out]; rfl, (Below.refl _ _).alloc (Nat.le_refl _) _⟩
    have EK : Hid (decide (1 ≤ k) = true ∧ decide (k ≤ 10) = true) := ⟨decide_eq_true (by omega), decide_eq_true (by omega)⟩
    have d1 : decide (k < 1) = false := decide_eq_false hk1
    have d2 : decide (10 < k) = false := decide_eq_false hk2
    have hka : 1 ≤ k := by omega
    have hkb : k ≤ 10 := by omega
    clear hk1 hk2
    obtain ⟨q, hq⟩ : ∃ q, decide (5 < k) = q := ⟨_, rfl⟩
    cases hpq : (q == p) with
    | false =>
      have HR := Lib.hid (TOP.out (by unfold topB; rw [EK.out.1, EK.out.2, hq, hpq]; rfl))
      go_enter Tryz.func105, Tryz.ntmps105
      go_wp2_with fail
      go_ret
      exact ⟨by rw [HR.out]; rfl, (Below.refl _ _).alloc (Nat.le_refl _) _⟩
    | true =>
    have E0 : Hid ((decide (5 < k) == p) = true) := Lib.hid (by rw [hq]; exact hpq)
    have hW1 : ∀ o1, Below w.heap.size w (w.alloc o1) := fun o1 => (Below.refl _ _).alloc (Nat.le_refl _) _
    have HW1 := Lib.hid hW1
    clear hW1
    have HMN := Lib.hid (many_any k l.length)
    cases hmn : manyB k l.length with
    | false =>
      have HR := Lib.hid (TOP.out (by unfold topB; rw [EK.out.1, EK.out.2, E0.out, hmn]; rfl))
      rw [hmn] at HMN
      clear hmn
      go_enter Tryz.func105, Tryz.ntmps105
      go_wp2_with fail
      refine (HMN.out _).mono ?_
      rintro e w1 ⟨rfl, rfl⟩
      go_wp2_with fail
      go_ret
      exact ⟨by rw [HR.out]; rfl, HW1.out _⟩
    | true =>
    rw [hmn] at HMN
    have E1 := Lib.hid hmn
    clear hmn
    have hnm := named_any k s
    cases hnb : namedB k s with
    | false =>
      have HR := Lib.hid (TOP.out (by unfold topB; rw [EK.out.1, EK.out.2, E0.out, hnb]; simp))
      rw [hnb] at hnm
      have HNM := Lib.hid hnm
      clear hnb hnm
      go_enter Tryz.func105, Tryz.ntmps105
      go_wp2_with fail
      refine (HMN.out _).mono ?_
      rintro e w1 ⟨rfl, rfl⟩
      go_wp2_with fail
      refine (HNM.out _ hs).mono ?_
      rintro e w1 ⟨rfl, hb⟩
      go_wp2_with fail
      go_ret
      exact ⟨by rw [HR.out]; rfl, (HW1.out _).trans (hb.mono (by simp))⟩
    | true =>
    rw [hnb] at hnm
    have HNM := Lib.hid hnm
    have E2 := Lib.hid hnb
    clear hnb hnm
    go_enter Tryz.func105, Tryz.ntmps105
    go_wp2_with fail
    refine (HMN.out _).mono ?_
    rintro e w1 ⟨rfl, rfl⟩
    go_wp2_with fail
    refine (HNM.out _ hs).mono ?_
    rintro e w1 ⟨rfl, hb⟩
    have hz1 := hb.size
    simp at hz1
    have hcell : ∀ p : Addr, p.block < w.heap.size + 1 → w1.cell? p = (w.alloc (.cells #[.int .i64 k, .int .i64 a, .string s, .int .i64 n, .slice A l.length cap] 27)).cell? p := fun p hp => hb.cell (p := p) (by simpa using hp)
    have hB1 := (HW1.out _).trans (hb.mono (by simp))
    have HB1 := Lib.hid hB1
    clear hB1 hb
    cases hnu : numB k n with
    | false =>
      have HR := Lib.hid (TOP.out (by unfold topB; rw [EK.out.1, EK.out.2, E0.out, E1.out, E2.out, hnu]; rfl))
      unfold numB at hnu
      by_cases h2 : k = 2
      · subst h2
        simp at hnu
        have hor : n < 0 ∨ (¬ n < 0 ∧ 7 < n) := by omega
        clear hnu
        rcases hor with h0 | ⟨h0, h7⟩
        · go_wp2_with fail
          go_ret
          exact ⟨by rw [HR.out]; rfl, HB1.out⟩
        · go_wp2_with fail
          go_ret
          exact ⟨by rw [HR.out]; rfl, HB1.out⟩
      · rw [if_neg h2] at hnu
        have t1 : (k == 2) = false := by simp; omega
        have t2 : (k != 2) = true := by simp; omega
        have t3 : (n != 0) = true := by simpa using hnu
        clear hnu h2
        go_wp2_with fail
        go_ret
        exact ⟨by rw [HR.out]; rfl, HB1.out⟩
    | true =>
      have ET : Hid (topB k s n l.length p = true) := Lib.hid (by unfold topB; rw [EK.out.1, EK.out.2, E0.out, E1.out, E2.out, hnu]; rfl)
      have HR : Hid (r = goodL l (decide (k = 8))) := Lib.hid (by rw [← HG.out, goodB_node, ET.out]; rfl)
      have hcs : Hid ((k = 2 ∧ (k == 2) = true ∧ (k != 2) = false ∧ decide (n < 0) = false ∧ decide (7 < n) = false) ∨ ((k == 2) = false ∧ (k != 2) = true ∧ (n != 0) = false)) := by
        show _ ∨ _
        unfold numB at hnu
        by_cases h2 : k = 2
        · left
          rw [if_pos h2] at hnu
          simp at hnu
          exact ⟨h2, by simpa using h2, by simpa using h2, decide_eq_false (by omega), decide_eq_false (by omega)⟩
        · right
          rw [if_neg h2] at hnu
          exact ⟨by simpa using h2, by simpa using h2, by simpa using hnu⟩
      clear hnu
      obtain ⟨g8, hg8⟩ : ∃ g, (k == 8) = g := ⟨_, rfl⟩
      have HG8 : Hid (decide (k = 8) = g8) := Lib.hid (by rw [← hg8]; by_cases h8 : k = 8 <;> simp [h8])
      rw [HG8.out] at HR
      rcases hcs.out with ⟨rfl, u1, u2, u3, u4⟩ | ⟨u1, u2, u3⟩
      · go_wp2_with fail
        go_loopw [5] (fun iv wr => ∃ i : Nat, i ≤ l.length ∧ iv = .int .i64 i ∧ Below w.heap.size w wr ∧ wr.cell? ⟨w.heap.size, 0, none⟩ = some (.int .i64 2) ∧ wr.cell? ⟨w.heap.size, 4, none⟩ = some (.slice A l.length cap) ∧ w.heap.size < wr.heap.size ∧ Hid (goodL (l.take i) g8 = true))
          (fun iv _ => l.length - (intOf iv).toNat)
        case atStart =>
          refine ⟨0, Nat.zero_le _, rfl, HB1.out, ?_, ?_, by omega, Lib.hid (by rw [List.take_zero, goodL_all]; rfl)⟩
          · rw [hcell _ (by show w.heap.size < _; omega), World.cell?_alloc_mark]; rfl
          · rw [hcell _ (by show w.heap.size < _; omega), World.cell?_alloc_mark]; rfl
        case round =>
          obtain ⟨i, hi1, rfl, hB, y0, y4, hlt, HGL⟩ := hrel
          have hz := hB.size
          clear hcell
          by_cases hil : i < l.length
          · obtain ⟨b, o, F, C, hA, hb1, hb2, hx, hnode⟩ := (HN.out i hil).kept hB hhi
            subst hA
            obtain ⟨x0, x1, x2, x3, x4⟩ := hx
            have hmem : l[i] ∈ l := List.getElem_mem hil
            have hgt := goodL_take (p := g8) hil
            have hIH := IH.out l[i] hmem g8 lo hi F C
            have hno := fun hg => goodL_no (p := g8) hil hg
            obtain ⟨v, hv⟩ : ∃ v, goodB l[i] g8 = v := ⟨_, rfl⟩
            rw [hv, HGL.out, Bool.true_and] at hgt
            rw [hv] at hIH hno
            have HGT := Lib.hid hgt
            have HIH := Lib.hid hIH
            have HNO := Lib.hid hno
            clear hgt hIH hno hv
            have hi1' : (i : Int) < (l.length : Int) := by omega
            have hi0' : (0 : Int) ≤ (i : Int) := by omega
            have hBr := fun W' (hW : Below wr.heap.size wr W') => hW
            go_wp2_with fail
            go_region_held3 (fun w' => w'.cell? ⟨w.heap.size, 0, none⟩ = some (.int .i64 2) ∧ w'.cell? ⟨w.heap.size, 4, none⟩ = some (.slice (some ⟨b, o, none⟩) l.length cap) ∧
                w'.cell? ⟨b, o + i * 5, none⟩ = some (.int .i64 l[i].k) ∧ w'.cell? ⟨b, o + i * 5 + 1, none⟩ = some (.int .i64 l[i].a) ∧ w'.cell? ⟨b, o + i * 5 + 2, none⟩ = some (.string l[i].s) ∧ w'.cell? ⟨b, o + i * 5 + 3, none⟩ = some (.int .i64 l[i].n) ∧ w'.cell? ⟨b, o + i * 5 + 4, none⟩ = some (.slice F l[i].l.length C))
              (first | go_keep | (refine ⟨?_, ?_, ?_, ?_, ?_, ?_, ?_⟩ <;> ((rw [hb3.cell (by show _ < _; simp; omega)]; assumption))))
              (first | (go_at_call 105; refine (HIH.out _ (hnode.kept ((Below.refl _ _).drew) (by omega)) (by simp; omega)).mono ?_; rintro e w3 ⟨rfl, hb3⟩))
            have hB3 := hB.drew.trans (hb3.mono hz)
            have hc3 : ∀ q, w3.cell? ⟨w.heap.size, q, none⟩ = wr.cell? ⟨w.heap.size, q, none⟩ := fun q => hb3.cell (p := ⟨w.heap.size, q, none⟩) hlt
            have HY0 := Lib.hid ((hc3 0).trans y0)
            have HY4 := Lib.hid ((hc3 4).trans y4)
            have HLT := Lib.hid (Nat.lt_of_lt_of_le hlt hb3.size)
            have HB3 := Lib.hid hB3
            clear hc3 hB3 hb3
            cases v with
            | true =>
              go_wp2_with fail
              go_roundw
              case rel => exact ⟨i + 1, by omega, rfl, HB3.out, HY0.out, HY4.out, HLT.out, HGT⟩
              case measure => simp [intOf]; omega
            | false =>
              have HN2 := Lib.hid (HR.out.trans (HNO.out rfl))
              clear HNO
              go_wp2_with fail
              go_ret
              exact ⟨by rw [HN2.out]; rfl, HB3.out⟩
          · obtain rfl : i = l.length := by omega
            rw [List.take_length] at HGL
            go_wp2_with fail
            go_ret
            exact ⟨by rw [HR.out, HGL.out]; rfl, hB⟩
      · go_wp2_with fail
        go_loopw [5] (fun iv wr => ∃ i : Nat, i ≤ l.length ∧ iv = .int .i64 i ∧ Below w.heap.size w wr ∧ wr.cell? ⟨w.heap.size, 0, none⟩ = some (.int .i64 k) ∧ wr.cell? ⟨w.heap.size, 4, none⟩ = some (.slice A l.length cap) ∧ w.heap.size < wr.heap.size ∧ Hid (goodL (l.take i) g8 = true))
          (fun iv _ => l.length - (intOf iv).toNat)
        case atStart =>
          refine ⟨0, Nat.zero_le _, rfl, HB1.out, ?_, ?_, by omega, Lib.hid (by rw [List.take_zero, goodL_all]; rfl)⟩
          · rw [hcell _ (by show w.heap.size < _; omega), World.cell?_alloc_mark]; rfl
          · rw [hcell _ (by show w.heap.size < _; omega), World.cell?_alloc_mark]; rfl
        case round =>
          obtain ⟨i, hi1, rfl, hB, y0, y4, hlt, HGL⟩ := hrel
          have hz := hB.size
          clear hcell
          by_cases hil : i < l.length
          · obtain ⟨b, o, F, C, hA, hb1, hb2, hx, hnode⟩ := (HN.out i hil).kept hB hhi
            subst hA
            obtain ⟨x0, x1, x2, x3, x4⟩ := hx
            have hmem : l[i] ∈ l := List.getElem_mem hil
            have hgt := goodL_take (p := g8) hil
            have hIH := IH.out l[i] hmem g8 lo hi F C
            have hno := fun hg => goodL_no (p := g8) hil hg
            obtain ⟨v, hv⟩ : ∃ v, goodB l[i] g8 = v := ⟨_, rfl⟩
            rw [hv, HGL.out, Bool.true_and] at hgt
            rw [hv] at hIH hno
            have HGT := Lib.hid hgt
            have HIH := Lib.hid hIH
            have HNO := Lib.hid hno
            clear hgt hIH hno hv
            have hi1' : (i : Int) < (l.length : Int) := by omega
            have hi0' : (0 : Int) ≤ (i : Int) := by omega
            have hBr := fun W' (hW : Below wr.heap.size wr W') => hW
            go_wp2_with fail
            go_region_held3 (fun w' => w'.cell? ⟨w.heap.size, 0, none⟩ = some (.int .i64 k) ∧ w'.cell? ⟨w.heap.size, 4, none⟩ = some (.slice (some ⟨b, o, none⟩) l.length cap) ∧
                w'.cell? ⟨b, o + i * 5, none⟩ = some (.int .i64 l[i].k) ∧ w'.cell? ⟨b, o + i * 5 + 1, none⟩ = some (.int .i64 l[i].a) ∧ w'.cell? ⟨b, o + i * 5 + 2, none⟩ = some (.string l[i].s) ∧ w'.cell? ⟨b, o + i * 5 + 3, none⟩ = some (.int .i64 l[i].n) ∧ w'.cell? ⟨b, o + i * 5 + 4, none⟩ = some (.slice F l[i].l.length C))
              (first | go_keep | (refine ⟨?_, ?_, ?_, ?_, ?_, ?_, ?_⟩ <;> ((rw [hb3.cell (by show _ < _; simp; omega)]; assumption))))
              (first | (go_at_call 105; refine (HIH.out _ (hnode.kept ((Below.refl _ _).drew) (by omega)) (by simp; omega)).mono ?_; rintro e w3 ⟨rfl, hb3⟩))
            have hB3 := hB.drew.trans (hb3.mono hz)
            have hc3 : ∀ q, w3.cell? ⟨w.heap.size, q, none⟩ = wr.cell? ⟨w.heap.size, q, none⟩ := fun q => hb3.cell (p := ⟨w.heap.size, q, none⟩) hlt
            have HY0 := Lib.hid ((hc3 0).trans y0)
            have HY4 := Lib.hid ((hc3 4).trans y4)
            have HLT := Lib.hid (Nat.lt_of_lt_of_le hlt hb3.size)
            have HB3 := Lib.hid hB3
            clear hc3 hB3 hb3
            cases v with
            | true =>
              go_wp2_with fail
              go_roundw
              case rel => exact ⟨i + 1, by omega, rfl, HB3.out, HY0.out, HY4.out, HLT.out, HGT⟩
              case measure => simp [intOf]; omega
            | false =>
              have HN2 := Lib.hid (HR.out.trans (HNO.out rfl))
              clear HNO
              go_wp2_with fail
              go_ret
              exact ⟨by rw [HN2.out]; rfl, HB3.out⟩
          · obtain rfl : i = l.length := by omega
            rw [List.take_length] at HGL
            go_wp2_with fail
            go_ret
            exact ⟨by rw [HR.out, HGL.out]; rfl, hB⟩

end Go.Proofs.YteaojmcfppbgiaaGreatDoor

/- scholiumref04.Depth: level by level; the document's Expr, Pattern. -/
namespace Go.Proofs.YteaojmcfppbgiaaGreatDoor
open Go.RowKit
set_option linter.unusedVariables false
set_option maxRecDepth 100000

theorem depthL_level : ∀ ts : List RT, 0 < ts.length → depthL ts = 1 + depthL (ts.flatMap RT.l)
  | [t], _ => by
    have e : t.depth = depthL t.l + 1 := by rw [t.eta, depth_node]; rfl
    rw [depthL_cons, depthL_nil, e]
    simp
    omega
  | t :: u :: r, _ => by
    have e : t.depth = depthL t.l + 1 := by rw [t.eta, depth_node]; rfl
    have e2 : (t :: u :: r).flatMap RT.l = t.l ++ (u :: r).flatMap RT.l := rfl
    rw [depthL_cons, depthL_level (u :: r) (by simp), e, e2, depthL_append]
    omega
theorem sizeL_level : ∀ ts : List RT, sizeL ts = ts.length + sizeL (ts.flatMap RT.l)
  | [] => by simp [sizeL_nil]
  | t :: r => by
    have e : t.size = sizeL t.l + 1 := by rw [t.eta, size_node]; rfl
    rw [sizeL_cons, sizeL_level r, e, List.flatMap_cons, sizeL_append, List.length_cons]
    omega
theorem sizeL_level_take (ts : List RT) (i : Nat) : sizeL ((ts.take i).flatMap RT.l) ≤ sizeL ts := by
  have h := sizeL_level (ts.take i)
  have := sizeL_take_le ts i
  omega

theorem NodeRow.base {w : World} {base base' : Nat} {e : TypeId} {v : Value} {ps : List (RT × Option Addr × Nat)} {P : Nat → Prop} (h : NodeRow w base e v ps P) (hb : base' ≤ base) : NodeRow w base' e v ps P := by
  refine ⟨⟨h.row.1, ?_⟩, h.far, h.node⟩
  rcases h.row.2 with h1 | ⟨g, cap, cur, h1, h2, h3⟩
  · exact .inl h1
  · exact .inr ⟨g, cap, cur, h1, by omega, h3⟩
/-- A row stays over an append to another one. -/
theorem NodeRow.over {w w' : World} {base : Nat} {e : TypeId} {v : Value} {ps : List (RT × Option Addr × Nat)} {P : Nat → Prop} {row : Option Nat} (h : NodeRow w base e v ps P) (hg : w.grownBy w' row) (h1 : v.ownBlock = none ∨ v.ownBlock ≠ row) (h2 : ∀ b, P b → some b ≠ row) : NodeRow w' base e v ps P :=
  h.kept hg.size (h.row.kept hg h1) (fun b hb => hg.block b (h.far b hb).1 (h2 b hb))
def DepRel (w : World) (t : RT) (lo hi : Nat) (lv dv : Value) (wr : World) : Prop :=
  ∃ (d : Nat) (ps : List (RT × Option Addr × Nat)), dv = .int .i64 d ∧ Below w.heap.size w wr ∧ NodeRow wr w.heap.size 27 lv ps (fun b => lo ≤ b ∧ b < hi) ∧
    d ≤ 129 ∧ d + depthL (ps.map (·.1)) = t.depth ∧ sizeL (ps.map (·.1)) ≤ 8192
def DepIn (w wq : World) (lv : Value) (ps : List (RT × Option Addr × Nat)) (lo hi : Nat) (nv iv : Value) (wr : World) : Prop :=
  ∃ (i : Nat) (qs : List (RT × Option Addr × Nat)), iv = .int .i64 i ∧ i ≤ ps.length ∧ Below w.heap.size w wr ∧ wq.heap.size ≤ wr.heap.size ∧ NodeRow wr w.heap.size 27 lv ps (fun b => lo ≤ b ∧ b < hi) ∧
    NodeRow wr wq.heap.size 27 nv qs (fun b => lo ≤ b ∧ b < hi) ∧ qs.map (·.1) = ((ps.map (·.1)).take i).flatMap RT.l

set_option maxHeartbeats 2000000 in
theorem refDepth_any (t : RT) (lo hi : Nat) (A : Option Addr) (cap : Nat) (w : World) (h : IsNode w lo hi t A cap) (hhi : hi ≤ w.heap.size) :
    Calls Tryz.prog 104 #[nodeV t A cap] w fun e w' => e = .returned (.int .i64 (deepN t : Int)) ∧ Below w.heap.size w w' := by
  obtain ⟨i0, hi0, hz0, hz1, hz2⟩ := info_parts infoR
  have HS := Lib.hid (refSize_any t lo hi A cap)
  have HH := Lib.hid h
  unfold deepN
  by_cases hs : 8192 < t.size
  · rw [if_pos hs]
    have hq := topN_hi hs
    rw [hq] at HS
    unfold nodeV at HS ⊢
    clear hs hq
    go_enter Tryz.func104, Tryz.ntmps104
    go_wp2_with fail
    refine (HS.out _ (h.alloc hhi _) (by simp; omega)).mono ?_
    rintro e w1 ⟨rfl, hb1⟩
    go_wp2_with fail
    go_ret
    exact ⟨rfl, ((Below.refl _ _).alloc (Nat.le_refl _) _).trans (hb1.mono (by simp))⟩
  · rw [if_neg hs]
    have hq := topN_lo (n := t.size) (by omega)
    rw [hq] at HS
    have hs' : t.size ≤ 8192 := by omega
    unfold nodeV at HS ⊢
    have HZ := Lib.hid hs'
    clear hs hq
    go_enter Tryz.func104, Tryz.ntmps104
    go_wp2_with fail
    refine (HS.out _ (h.alloc hhi _) (by simp; omega)).mono ?_
    rintro e w1 ⟨rfl, hb1⟩
    have hsz1 := hb1.size
    simp at hsz1
    have HB1 := Lib.hid (((Below.refl _ _).alloc (Nat.le_refl _) _).trans (hb1.mono (by simp)))
    have HN1 := Lib.hid ((h.alloc hhi _).kept hb1 (by simp; omega))
    have hcell := fun p hp => hb1.cell (p := p) hp
    go_wp2_with fail
    clear hs'
    go_loopw [3, 4] (DepRel w t lo hi) (fun _ dv _ => 130 - (intOf dv).toNat)
    case atStart =>
      refine ⟨0, [(t, A, cap)], rfl, HB1.out.alloc (by omega) _, ?_, by omega, ?_, ?_⟩
      · refine ⟨?_, fun b hb => ⟨by simp; omega, fun e => ?_⟩, fun p hp => ?_⟩
        · have := World.ownsRow_lit (base := w.heap.size) (e := 27) (size := 5) w1 #[.int .i64 t.k, .int .i64 t.a, .string t.s, .int .i64 t.n, .slice A t.l.length cap] 1 (by omega) (by decide) rfl
          simp at this
          exact this
        · have e' : w1.heap.size = b := by simpa [Value.ownBlock] using e
          omega
        · obtain rfl : p = (t, A, cap) := by simpa using hp
          exact HN1.out.alloc (by omega) _
      · show 0 + depthL [t] = _
        rw [depthL_cons, depthL_nil]; omega
      · show sizeL [t] ≤ _
        rw [sizeL_cons, sizeL_nil]; have := HZ.out; omega
    case round =>
      obtain ⟨d, ps, rfl, hB, hrow, hd, hdep, hsz⟩ := hrel
      have hz := hB.size
      obtain ⟨a1, c1, rfl⟩ := own_slice hrow.row
      clear hcell hb1
      by_cases h0 : 0 < ps.length
      · by_cases hd2 : d < 129
        · obtain ⟨g, c, hv, hg1, hg2⟩ := hrow.row.form h0
          injection hv with hv _ hv2
          subst hv
          subst hv2
          have HROW := Lib.hid hrow
          have HDEP := Lib.hid hdep
          have HSZ := Lib.hid hsz
          have HB := Lib.hid hB
          clear hrow hdep hsz hB
          go_wp2_with fail
          rename World => wq
          go_loopw [5, 6] (DepIn w wq (.slice (some ⟨g, 0, none⟩) ps.length c1) ps lo hi) (fun _ iv _ => ps.length - (intOf iv).toNat)
          case atStart =>
            refine ⟨0, [], rfl, Nat.zero_le _, HB.out.alloc hz _, by simp, HROW.out.alloc _, ?_, by rw [List.take_zero]; rfl⟩
            refine ⟨?_, fun b hb => ⟨by simp; omega, fun e => ?_⟩, fun p hp => by cases hp⟩
            · have := World.ownsRow_lit (base := wq.heap.size) (e := 27) (size := 5) wq #[] 0 (Nat.le_refl _) (by decide) rfl
              simp at this
              exact this
            · have e' : wq.heap.size = b := by simpa [Value.ownBlock] using e
              omega
          case round =>
            obtain ⟨i, qs, rfl, hi1, hB2, hwz, hrow2, hnrow, hqs⟩ := hrel
            obtain ⟨a2, c2, rfl⟩ := own_slice hnrow.row
            have HROW2 := Lib.hid hrow2
            have HNROW := Lib.hid hnrow
            have HQS := Lib.hid hqs
            have HB2 := Lib.hid hB2
            by_cases hil : i < ps.length
            · have hat : ∀ r, r < 5 → wr.cell? ⟨g, i * 5 + r, none⟩ = (cellsP ps[i])[r]? := fun r hr => by
                have h1 := hrow2.row.cellAt (i * 5 + r) (by omega)
                rw [h1, flatP_at ps i r hil hr]
              have x4 : wr.cell? ⟨g, i * 5 + 4, none⟩ = some (.slice ps[i].2.1 ps[i].1.l.length ps[i].2.2) := hat 4 (by omega)
              obtain ⟨ss, hs1, hs2, hs3, hs4⟩ := (hrow2.node ps[i] (List.getElem_mem hil)).first ps[i].1.l.length (Nat.le_refl _)
              rw [List.take_length] at hs1
              have hq1 : (qs ++ ss).map (·.1) = ((ps.map (·.1)).take (i + 1)).flatMap RT.l := by
                rw [List.map_append, HQS.out, hs1, List.take_succ_eq_append_getElem (by simpa using hil), List.flatMap_append]
                simp
              have hlq : qs.length + ps[i].1.l.length ≤ 8192 := by
                have h1 := sizeL_len ((qs ++ ss).map (·.1))
                have h2 := sizeL_level_take (ps.map (·.1)) (i + 1)
                rw [← hq1] at h2
                have h3 := HSZ.out
                rw [List.length_map, List.length_append, hs2] at h1
                omega
              have hne : ∀ k, (Value.slice a2 qs.length c2).ownBlock = some k → wq.heap.size ≤ k := fun k hk => (hnrow.row.lt k hk).1
              have HNE := Lib.hid hne
              have HSR := Lib.hid (hs3 wr (fun _ _ _ => rfl))
              have HS4 := Lib.hid hs4
              have HS2 := Lib.hid hs2
              have HQ1 := Lib.hid hq1
              obtain ⟨u, hu⟩ : ∃ u, ps[i] = u := ⟨_, rfl⟩
              rw [hu] at x4 HSR HS2 hlq
              have hi0' : (i : Int) < (ps.length : Int) := by omega
              have hi9 : (i : Int) ≤ 8192 := by
                have h1 := sizeL_len (ps.map (·.1))
                have h2 := HSZ.out
                rw [List.length_map] at h1
                omega
              clear hat hs1 hs2 hs3 hs4 hq1 hne hu hrow2 hnrow hqs hB2
              have HLQ := Lib.hid hlq
              clear hlq
              go_wp2_with (at_builtin; refine wpList_app rfl _ _ 25 rfl wq.heap.size 27 i0 (.agg #[.int .i64 0, .int .i64 0, .string ⟨#[]⟩, .int .i64 0, .slice none 0 0]) 5 64 Tryz.underlying25 hi0 hz0 hz1 hz2 rfl (by decide) _ _ _ rfl HNROW.out.row u.2.1 u.1.l.length u.2.2 (flatP ss) rfl HSR.out (flatP_one _) ?c3 ?c4 ?c5 ?_)
              case c3 => have := HLQ.out; unfold maxLen; omega
              case c4 => have := HLQ.out; omega
              rintro v2 w3 ha
              have hsz3 := ha.2.1.size
              have HR1 := Lib.hid (HROW2.out.over ha.2.1 (.inr (fun e => by
                have h1 := HNE.out g (e ▸ rfl)
                omega)) (fun b hb e => by have h1 := HNE.out b e.symm; omega))
              have HR2 := Lib.hid (HNROW.out.app rfl HS2.out HS4.out ha)
              have HB3 := Lib.hid (HB2.out.grown ha.2.1 (by omega) (fun k hk => by have := HNE.out k hk; omega))
              clear ha
              go_wp2_with fail
              go_roundw
              case rel => exact ⟨i + 1, qs ++ ss, rfl, by omega, HB3.out, by omega, HR1.out, HR2.out, HQ1.out⟩
              case measure => simp [intOf]; omega
            · obtain rfl : i = ps.length := by omega
              have HEND : Hid (qs.map (·.1) = (ps.map (·.1)).flatMap RT.l) := Lib.hid (by rw [HQS.out, List.take_of_length_le (by simp)])
              clear hrow2 hnrow hqs hB2 HQS
              go_wp2_with fail
              go_roundw
              case rel =>
                refine ⟨d + 1, qs, rfl, HB2.out, HNROW.out.base hz, by omega, ?_, ?_⟩
                · have h1 := depthL_level (ps.map (·.1)) (by simpa using h0)
                  rw [HEND.out]
                  have := HDEP.out
                  omega
                · have h1 := sizeL_level (ps.map (·.1))
                  rw [HEND.out]
                  have := HSZ.out
                  omega
              case measure => simp [intOf]; omega
        · have e : d = 129 := by omega
          have HR := Lib.hid (show (d : Nat) = dpN t.depth by rw [← hdep, e]; unfold dpN; omega)
          clear e hdep hrow hsz
          go_wp2_with fail
          go_ret
          exact ⟨ret_nat HR.out, hB⟩
      · have e : ps = [] := List.eq_nil_of_length_eq_zero (by omega)
        subst e
        have HR := Lib.hid (show (d : Nat) = dpN t.depth by rw [← hdep]; unfold dpN; simp [depthL_nil]; omega)
        clear hdep hrow hsz
        go_wp2_with fail
        go_ret
        exact ⟨ret_nat HR.out, hB⟩

theorem refExpr_any (t : RT) (lo hi : Nat) (A : Option Addr) (cap : Nat) (w : World) (h : IsNode w lo hi t A cap) (hhi : hi ≤ w.heap.size) :
    Calls Tryz.prog 67 #[nodeV t A cap] w fun e w' => e = .returned (.bool (fitB t && goodB t false)) ∧ Below w.heap.size w w' := by
  have HF := Lib.hid (refDepth_any t lo hi A cap)
  have HG := Lib.hid (good_any t false lo hi A cap)
  obtain ⟨r, hr⟩ : ∃ r, goodB t false = r := ⟨_, rfl⟩
  rw [hr] at HG ⊢
  unfold fitB
  obtain ⟨d, hd⟩ : ∃ d, deepN t = d := ⟨_, rfl⟩
  rw [hd] at HF ⊢
  clear hr hd
  unfold nodeV at HF HG ⊢
  by_cases hdd : d ≤ 128
  · have e : decide (d ≤ 128) = true := decide_eq_true hdd
    have e2 : (d : Int) ≤ 128 := by omega
    rw [e, Bool.true_and]
    clear e hdd
    go_enter Tryz.func67, Tryz.ntmps67
    go_wp2_with fail
    refine (HF.out _ (h.alloc hhi _) (by simp; omega)).mono ?_
    rintro e w1 ⟨rfl, hb1⟩
    have hz1 := hb1.size
    simp at hz1
    have hB1 := ((Below.refl _ _).alloc (Nat.le_refl _) _).trans (hb1.mono (by simp))
    have hcell := fun p hp => hb1.cell (p := p) hp
    go_wp2_with fail
    refine (HG.out _ ((h.alloc hhi _).kept hb1 (by simp; omega)) (by omega)).mono ?_
    rintro e w2 ⟨rfl, hb2⟩
    go_wp2_with fail
    go_ret
    exact ⟨rfl, hB1.trans (hb2.mono (by omega))⟩
  · have e : decide (d ≤ 128) = false := decide_eq_false hdd
    have e2 : ¬ (d : Int) ≤ 128 := by omega
    rw [e, Bool.false_and]
    clear e hdd HG
    go_enter Tryz.func67, Tryz.ntmps67
    go_wp2_with fail
    refine (HF.out _ (h.alloc hhi _) (by simp; omega)).mono ?_
    rintro e w1 ⟨rfl, hb1⟩
    go_wp2_with fail
    go_ret
    exact ⟨rfl, ((Below.refl _ _).alloc (Nat.le_refl _) _).trans (hb1.mono (by simp))⟩

theorem refPattern_any (t : RT) (lo hi : Nat) (A : Option Addr) (cap : Nat) (w : World) (h : IsNode w lo hi t A cap) (hhi : hi ≤ w.heap.size) :
    Calls Tryz.prog 106 #[nodeV t A cap] w fun e w' => e = .returned (.bool (fitB t && goodB t true)) ∧ Below w.heap.size w w' := by
  have HF := Lib.hid (refDepth_any t lo hi A cap)
  have HG := Lib.hid (good_any t true lo hi A cap)
  obtain ⟨r, hr⟩ : ∃ r, goodB t true = r := ⟨_, rfl⟩
  rw [hr] at HG ⊢
  unfold fitB
  obtain ⟨d, hd⟩ : ∃ d, deepN t = d := ⟨_, rfl⟩
  rw [hd] at HF ⊢
  clear hr hd
  unfold nodeV at HF HG ⊢
  by_cases hdd : d ≤ 128
  · have e : decide (d ≤ 128) = true := decide_eq_true hdd
    have e2 : (d : Int) ≤ 128 := by omega
    rw [e, Bool.true_and]
    clear e hdd
    go_enter Tryz.func106, Tryz.ntmps106
    go_wp2_with fail
    refine (HF.out _ (h.alloc hhi _) (by simp; omega)).mono ?_
    rintro e w1 ⟨rfl, hb1⟩
    have hz1 := hb1.size
    simp at hz1
    have hB1 := ((Below.refl _ _).alloc (Nat.le_refl _) _).trans (hb1.mono (by simp))
    have hcell := fun p hp => hb1.cell (p := p) hp
    go_wp2_with fail
    refine (HG.out _ ((h.alloc hhi _).kept hb1 (by simp; omega)) (by omega)).mono ?_
    rintro e w2 ⟨rfl, hb2⟩
    go_wp2_with fail
    go_ret
    exact ⟨rfl, hB1.trans (hb2.mono (by omega))⟩
  · have e : decide (d ≤ 128) = false := decide_eq_false hdd
    have e2 : ¬ (d : Int) ≤ 128 := by omega
    rw [e, Bool.false_and]
    clear e hdd HG
    go_enter Tryz.func106, Tryz.ntmps106
    go_wp2_with fail
    refine (HF.out _ (h.alloc hhi _) (by simp; omega)).mono ?_
    rintro e w1 ⟨rfl, hb1⟩
    go_wp2_with fail
    go_ret
    exact ⟨rfl, ((Below.refl _ _).alloc (Nat.le_refl _) _).trans (hb1.mono (by simp))⟩

end Go.Proofs.YteaojmcfppbgiaaGreatDoor
