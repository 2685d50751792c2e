/- The document's at: a good term gone over, each variable as it should be. -/
import Derived.Test.YtcobionbgiaomaaDoorURcom
import Derived.Deep.RegionHeld3
namespace Go.Proofs.YtcobionbgiaomaaDoor
open Go.RowKit
set_option linter.unusedVariables false
set_option maxRecDepth 100000

def AtRel (a : TM) (N : Int) (A2 : Option Addr) (cap2 : Nat) (w : World) (k n b : Int) (l : List TM) (A : Option Addr) (cap : Nat) (pv iv : Value) (wr : World) : Prop :=
  ∃ (i : Nat) (ps : List GP) (P : Nat → Prop) (a1 : Option Addr) (c1 : Nat), i ≤ l.length ∧ iv = .int .i64 i ∧ pv = .slice a1 ps.length c1 ∧ Below w.heap.size w wr ∧
    Bk wr w.heap.size 24 #[.int .i64 k, .int .i64 n, .slice A l.length cap] ∧ Bk wr (w.heap.size + 1) 24 #[.int .i64 a.k, .int .i64 a.n, .slice A2 a.l.length cap2] ∧ Bk wr (w.heap.size + 2) 53 #[.int .i64 0, .int .i64 0, .slice none 0 0, .bool false] ∧
    GRow wr (w.heap.size + 3) (.slice a1 ps.length c1) ps P ∧ (∀ b, P b → w.heap.size + 3 ≤ b) ∧ ps.length = i ∧
    ∀ j (h1 : j < (putM (atP a N) k 0 l b).length) (h2 : j < ps.length), GotIs (putM (atP a N) k 0 l b)[j] ps[j].1 ps[j].2.2.2

set_option maxHeartbeats 4000000 in
theorem rat_any (a : TM) (N : Int) (lo2 hi2 : Nat) (A2 : Option Addr) (cap2 : Nat) (hA : shapedB a = true) (hN : 0 ≤ N ∧ N ≤ 1048576) : ∀ (t : TM) (m : Int) (b : Int) (lo hi : Nat) (A : Option Addr) (cap : Nat) (w : World), m = N + b → IsTerm w lo hi t A cap → hi ≤ w.heap.size → IsTerm w lo2 hi2 a A2 cap2 → hi2 ≤ w.heap.size → tgoodB t = true → 0 ≤ b → b + t.depth ≤ 200 →
    Calls Tryd.prog 40 #[termV t A cap, termV a A2 cap2, .int .i64 m] w (TellsGot (putT (atP a N) t b) w.heap.size w) := by
  intro t
  induction t using TM.ind with
  | h k n l ih =>
    intro m b lo hi A cap w hmN h hhi h2 hhi2 hg hb0 hb1
    obtain ⟨i0, hi0, hz0, hz1, hz2⟩ := info_parts infoG
    obtain ⟨hl, hm⟩ := h.bounds
    obtain ⟨g1, g2, g3, g4, g5, g6, g7⟩ := good_parts hg
    rw [tdepth_node] at hb1
    have HWB := Lib.hid (show Below w.heap.size w (((w.alloc (.cells #[.int .i64 k, .int .i64 n, .slice A l.length cap] 24)).alloc (.cells #[.int .i64 a.k, .int .i64 a.n, .slice A2 a.l.length cap2] 24)).alloc (.cells #[.int .i64 0, .int .i64 0, .slice none 0 0, .bool false] 53)) from (((Below.refl w.heap.size w).alloc (Nat.le_refl _) (.cells #[.int .i64 k, .int .i64 n, .slice A l.length cap] 24)).alloc (by simp <;> omega) (.cells #[.int .i64 a.k, .int .i64 a.n, .slice A2 a.l.length cap2] 24)).alloc (by simp <;> omega) (.cells #[.int .i64 0, .int .i64 0, .slice none 0 0, .bool false] 53))
    have KR := Lib.hid (fun (V : World) (hV : Below (((w.alloc (.cells #[.int .i64 k, .int .i64 n, .slice A l.length cap] 24)).alloc (.cells #[.int .i64 a.k, .int .i64 a.n, .slice A2 a.l.length cap2] 24)).alloc (.cells #[.int .i64 0, .int .i64 0, .slice none 0 0, .bool false] 53)).heap.size (((w.alloc (.cells #[.int .i64 k, .int .i64 n, .slice A l.length cap] 24)).alloc (.cells #[.int .i64 a.k, .int .i64 a.n, .slice A2 a.l.length cap2] 24)).alloc (.cells #[.int .i64 0, .int .i64 0, .slice none 0 0, .bool false] 53)) V) => (show Bk V (w.heap.size + 2) 53 #[.int .i64 0, .int .i64 0, .slice none 0 0, .bool false] from (Bk.last ((w.alloc (.cells #[.int .i64 k, .int .i64 n, .slice A l.length cap] 24)).alloc (.cells #[.int .i64 a.k, .int .i64 a.n, .slice A2 a.l.length cap2] 24)) 53 #[.int .i64 0, .int .i64 0, .slice none 0 0, .bool false] (g := w.heap.size + 2) (by simp)).below hV (by simp <;> omega)))
    have CLF := Lib.hid (fun (z : Int) (V : World) => (mk_leaf 1 z V).mono fun e w' (h : _ ∧ _) => And.intro h.1 (show Below V.heap.size V w' from by rw [h.2]; exact (Below.refl _ _).alloc (Nat.le_refl _) _))
    have HCAP := Lib.hid hm
    by_cases hk : k = 1
    · have t1 : (k == 1) = true := by simpa using hk
      obtain rfl : l = [] := var_nil hg hk
      by_cases hb : n = m
      · have t2 : (n == m) = true := by simpa using hb
        have hE : putT (atP a N) (.node k n []) b = moveT m a 0 := by
          rw [putT_node, if_pos (.inr ⟨hk, by omega⟩)]
          unfold atP
          rw [if_neg (by omega), if_pos (by omega), hmN]
        rw [hE, termV_node]
        have CR := Lib.hid (raised_any a m lo2 hi2 A2 cap2 (((w.alloc (.cells #[.int .i64 k, .int .i64 n, .slice A 0 cap] 24)).alloc (.cells #[.int .i64 a.k, .int .i64 a.n, .slice A2 a.l.length cap2] 24)).alloc (.cells #[.int .i64 0, .int .i64 0, .slice none 0 0, .bool false] 53)) (h2.kept HWB.out hhi2) (by simp; omega) hA (by omega) (by omega))
        unfold termV at CR ⊢
        clear ih h h2 hg g1 g2 g3 g4 g5 g6 g7 hb0 hb1 hhi hhi2 hl hm hmN hk hb hE
        go_enter Tryd.func40, Tryd.ntmps40
        go_wp2_with fail
        refine CR.out.mono ?_
        rintro e w1 ⟨⟨x, A3, c3, bl⟩, rfl, hx1, hb1, hgot⟩
        have hz1 := hb1.size
        simp at hz1
        have HB1 := Lib.hid (HWB.out.trans (hb1.mono (by simp <;> omega)))
        have HX1 := Lib.hid (show IsTerm w1 (w.heap.size + 3) w1.heap.size x A3 c3 from hx1.wide (by simp) (Nat.le_refl _))
        have HG1 := Lib.hid hgot
        have K := KR.out _ hb1
        have d0 : w1.cell? ⟨w.heap.size + 1 + 1, 0, none⟩ = some (.int .i64 0) := K.cell 0
        have d1 : w1.cell? ⟨w.heap.size + 1 + 1, 1, none⟩ = some (.int .i64 0) := K.cell 1
        have d2 : w1.cell? ⟨w.heap.size + 1 + 1, 2, none⟩ = some (.slice none 0 0) := K.cell 2
        have d3 : w1.cell? ⟨w.heap.size + 1 + 1, 3, none⟩ = some (.bool false) := K.cell 3
        have hfz : ∀ o, w1.frozen? ⟨w.heap.size + 1 + 1, o, none⟩ = false := fun o => K.cold o
        have B5 := (((K.at_ 0 (.int .i64 x.k)).at_ 1 (.int .i64 x.n)).at_ 2 (.slice A3 x.l.length c3)).at_ 3 (.bool bl)
        have HS0 := Lib.hid (B5.cell 0)
        have HS1 := Lib.hid (B5.cell 1)
        have HS2 := Lib.hid (B5.cell 2)
        have HS3 := Lib.hid (B5.cell 3)
        clear B5
        unfold gotV
        clear K hb1 hx1 hgot
        go_wp2_with fail
        refine bodyPost_ret (v := .agg #[.int .i64 x.k, .int .i64 x.n, .slice A3 x.l.length c3, .bool bl]) (by simp [results, Tryd.results40, go_sem, HS0.out, HS1.out, HS2.out, HS3.out]) rfl ?_
        exact tells_of HX1.out (by omega) (by omega) HB1.out HG1.out
      · have t2 : (n == m) = false := by simpa using hb
        by_cases hgt : m < n
        · have t3 : decide (m < n) = true := decide_eq_true hgt
          have hw2 : IntKind.i64.wrap (n - 1) = n - 1 := IntWalk.i64_in _ (by omega)
          have hE : putT (atP a N) (.node k n []) b = .node 1 (n - 1) [] := by
            rw [putT_node, if_pos (.inr ⟨hk, by omega⟩)]
            unfold atP
            rw [if_neg (by omega), if_neg (by omega)]
          rw [hE, termV_node]
          unfold termV
          clear ih h h2 hg g1 g2 g3 g4 g5 g6 g7 hb0 hb1 hhi hhi2 hl hm hmN hk hb hE
          go_enter Tryd.func40, Tryd.ntmps40
          go_wp2_with fail
          refine (CLF.out _ _).mono ?_
          rintro e w1 ⟨rfl, hb1⟩
          have hz1 := hb1.size
          simp at hz1
          have HB1 := Lib.hid (HWB.out.trans (hb1.mono (by simp <;> omega)))
          have K := KR.out _ hb1
          have d0 : w1.cell? ⟨w.heap.size + 1 + 1, 0, none⟩ = some (.int .i64 0) := K.cell 0
          have d1 : w1.cell? ⟨w.heap.size + 1 + 1, 1, none⟩ = some (.int .i64 0) := K.cell 1
          have d2 : w1.cell? ⟨w.heap.size + 1 + 1, 2, none⟩ = some (.slice none 0 0) := K.cell 2
          have d3 : w1.cell? ⟨w.heap.size + 1 + 1, 3, none⟩ = some (.bool false) := K.cell 3
          have hfz : ∀ o, w1.frozen? ⟨w.heap.size + 1 + 1, o, none⟩ = false := fun o => K.cold o
          have B5 := (((K.at_ 0 (.int .i64 1)).at_ 1 (.int .i64 (n - 1))).at_ 2 (.slice none 0 0)).at_ 3 (.bool false)
          have HS0 := Lib.hid (B5.cell 0)
          have HS1 := Lib.hid (B5.cell 1)
          have HS2 := Lib.hid (B5.cell 2)
          have HS3 := Lib.hid (B5.cell 3)
          clear B5
          clear K hb1
          go_wp2_with fail
          refine bodyPost_ret (v := .agg #[.int .i64 1, .int .i64 (n - 1), .slice none 0 0, .bool false]) (by simp [results, Tryd.results40, go_sem, HS0.out, HS1.out, HS2.out, HS3.out]) rfl ?_
          exact tells_of (x := .node 1 (n - 1) []) (lo := w.heap.size + 3) (leaf_in _ _ _ _) (by omega) (by omega) HB1.out (got_self _)
        · have t3 : decide (m < n) = false := decide_eq_false hgt
          have hE : putT (atP a N) (.node k n []) b = .node k n [] := by
            rw [putT_node]
            by_cases hiv : isV k n b
            · rw [if_pos hiv]
              unfold atP
              rw [if_pos (.inr (by omega))]
            · rw [if_neg hiv, putM_nil]
          rw [hE, termV_node]
          unfold termV
          clear ih h h2 hg g1 g2 g3 g4 g5 g6 g7 hb0 hb1 hhi hhi2 hl hm hmN hk hb hE
          go_enter Tryd.func40, Tryd.ntmps40
          have K := KR.out _ (Below.refl _ _)
          have B5 := (((K.at_ 0 (.int .i64 k)).at_ 1 (.int .i64 n)).at_ 2 (.slice A 0 cap)).at_ 3 (.bool false)
          have HS0 := Lib.hid (B5.cell 0)
          have HS1 := Lib.hid (B5.cell 1)
          have HS2 := Lib.hid (B5.cell 2)
          have HS3 := Lib.hid (B5.cell 3)
          clear B5
          clear K
          go_wp2_with fail
          refine bodyPost_ret (v := .agg #[.int .i64 k, .int .i64 n, .slice A 0 cap, .bool false]) (by simp [results, Tryd.results40, go_sem]) rfl ?_
          exact ⟨(.node k n [], A, cap, false), rfl, leaf_any _ _ _ _ HCAP.out, (by repeat first | exact Below.refl _ _ | refine Below.setCell ?_ (by simp) _ | refine Below.alloc ?_ (by simp <;> omega) _), got_self _⟩
    · have t1 : (k == 1) = false := by simpa using hk
      have HEQ := Lib.hid (show putT (atP a N) (.node k n l) b = .node k n (putM (atP a N) k 0 l b) from by
        rw [putT_node]
        by_cases h8 : k = 8
        · have hln : l = [] := by
            have h0 : manyM k = 0 := by unfold manyM; rw [if_neg (by omega), if_neg (by omega)]
            rw [h0] at g3
            exact List.length_eq_zero_iff.1 g3
          rw [if_pos (.inl h8), hln, putM_nil]
          unfold atP
          rw [if_pos (.inl h8)]
        · rw [if_neg (fun h => h.elim h8 (fun h => hk h.1))])
      have HFACT : Hid ((∀ u ∈ l, tgoodB u = true) ∧ b + depthM l ≤ 199 ∧ 1 ≤ k ∧ k ≤ 8 ∧ l.length = manyM k) := Lib.hid ⟨g7, by omega, g1, g2, g3⟩
      have hlen2 : l.length ≤ 2 := by have := manyM_le k; omega
      have hmx : m ≤ 2000000 ∧ 0 ≤ m := by omega
      have IH := Lib.hid ih
      have HN := Lib.hid h.sub
      have HLT := Lib.hid hhi
      have H2 := Lib.hid h2
      have HLT2 := Lib.hid hhi2
      have HA := Lib.hid hA
      have hbb0 := Lib.hid hb0
      have HMN := Lib.hid hmN
      rw [HEQ.out]
      unfold maxLen at hm
      have hcap := hm
      clear ih h h2 hg g1 g2 g3 g4 g5 g6 g7 hb1 hb0 hA hhi hhi2 hm hk hmN
      rw [termV_node]
      unfold termV
      skip
      all_goals
        go_enter Tryd.func40, Tryd.ntmps40
        go_wp2_with fail
        go_loopw [7, 8] (AtRel a N A2 cap2 w k n b l A cap) (fun _ iv _ => l.length - (intOf iv).toNat)
        case atStart =>
          have hE := World.ownsRow_lit (base := w.heap.size + 3) (e := 53) (size := 4) (((w.alloc (.cells #[.int .i64 k, .int .i64 n, .slice A l.length cap] 24)).alloc (.cells #[.int .i64 a.k, .int .i64 a.n, .slice A2 a.l.length cap2] 24)).alloc (.cells #[.int .i64 0, .int .i64 0, .slice none 0 0, .bool false] 53)) #[] 0 (by simp) (by decide) rfl
          refine ⟨0, [], fun _ => False, some ⟨w.heap.size + 3, 0, none⟩, 0, Nat.zero_le _, rfl, rfl, ?_, ?_, ?_, ?_, ⟨?_, fun _ h => h.elim, fun _ h => by cases h⟩, fun _ h => h.elim, rfl, fun j h1 h2 => by simp at h2⟩
          · exact HWB.out.alloc (by simp <;> omega) _
          · exact (((Bk.new w 24 _).alloc _).alloc _).alloc _
          · exact ((Bk.last _ _ _ (by simp)).alloc _).alloc _
          · exact (KR.out _ (Below.refl _ _)).alloc _
          · simpa [flatG] using hE
        case round =>
          obtain ⟨i, ps, P, a1, c1, hi1, rfl, rfl, hB, b1, b2, b3, hrow, hP, hps, hgots⟩ := hrel
          have hz := hB.size
          have hlt3 := b3.lt
          have HPS := Lib.hid hps
          have HB1 := Lib.hid b1
          have HB2 := Lib.hid b2
          have HB3 := Lib.hid b3
          have HROW := Lib.hid hrow
          have HPP := Lib.hid hP
          have HGS := Lib.hid hgots
          have HBB := Lib.hid hB
          have f0 : wr.cell? ⟨w.heap.size, 0, none⟩ = some (.int .i64 k) := b1.cell 0
          have f1 : wr.cell? ⟨w.heap.size, 1, none⟩ = some (.int .i64 n) := b1.cell 1
          have f2 : wr.cell? ⟨w.heap.size, 2, none⟩ = some (.slice A l.length cap) := b1.cell 2
          have e0 : wr.cell? ⟨w.heap.size + 1, 0, none⟩ = some (.int .i64 a.k) := b2.cell 0
          have e1 : wr.cell? ⟨w.heap.size + 1, 1, none⟩ = some (.int .i64 a.n) := b2.cell 1
          have e2 : wr.cell? ⟨w.heap.size + 1, 2, none⟩ = some (.slice A2 a.l.length cap2) := b2.cell 2
          clear b1 b2 b3 hrow hP hgots hps
          by_cases hil : i < l.length
          · obtain ⟨bk, o, F, C, hAA, hb1', hb2', ⟨x0, x1, x2⟩, hnode⟩ := (HN.out i hil).kept hB HLT.out
            subst hAA
            have hi1' : (i : Int) < (l.length : Int) := by omega
            have hi0' : (0 : Int) ≤ (i : Int) := by omega
            have hgood := HFACT.out.1 _ (List.getElem_mem hil)
            have hdep : l[i].depth ≤ depthM l := wit_put.depth_mem (List.getElem_mem hil)
            have hbnd : bndR k i = bnd k i := (bnd_good (m := l.length - i) HFACT.out.2.2.1 HFACT.out.2.2.2.1 (by have := HFACT.out.2.2.2.2; omega) (by omega)).symm
            have hb01 := bnd_01 k i
            have hih := fun (V : World) (hV : Below wr.heap.size wr V) => IH.out (l[i]'hil) (List.getElem_mem hil) (m + bnd k i) (b + bnd k i) lo hi F C V (by have := HMN.out; omega) (hnode.kept hV (by have := HLT.out; omega)) (by have := hV.size; have := HLT.out; omega) (H2.out.kept (HBB.out.trans (hV.mono hz)) HLT2.out) (by have := hV.size; have := HLT2.out; omega) hgood (by have := hbb0.out; omega) (by have := HFACT.out.2.1; omega)
            have hput := fun (h1 : i < (putM (atP a N) k 0 l b).length) => putM_at (atP a N) k b l 0 i h1 hil
            simp only [Nat.zero_add] at hput
            obtain ⟨u, hu⟩ : ∃ u, l[i] = u := ⟨_, rfl⟩
            rw [hu] at x0 x1 x2 hnode hih hput
            obtain ⟨bb, hbbv⟩ : ∃ bb, bnd k i = bb := ⟨_, rfl⟩
            rw [hbbv] at hbnd hb01 hih hput
            have CB := Lib.hid (fun V => beneath_any k n (some ⟨bk, o, none⟩) l.length cap i V)
            rw [hbnd] at CB
            have hw1 : IntKind.i64.wrap (m + bb) = m + bb := IntWalk.i64_in _ (by omega)
            obtain ⟨x, hx⟩ : ∃ x, putT (atP a N) u (b + bb) = x := ⟨_, rfl⟩
            rw [hx] at hih hput
            have HPUT := Lib.hid hput
            unfold TellsGot gotV termV at hih
            have HIH := Lib.hid hih
            have hbw : bk < wr.heap.size := by have := HLT.out; omega
            have HKS := Lib.hid (fun (V : World) (hV : Below wr.heap.size wr V) => (show V.cell? ⟨w.heap.size, 0, none⟩ = some (.int .i64 k) ∧ V.cell? ⟨w.heap.size, 1, none⟩ = some (.int .i64 n) ∧ V.cell? ⟨w.heap.size, 2, none⟩ = some (.slice (some ⟨bk, o, none⟩) l.length cap) ∧ V.cell? ⟨bk, o + i * 3, none⟩ = some (.int .i64 u.k) ∧ V.cell? ⟨bk, o + i * 3 + 1, none⟩ = some (.int .i64 u.n) ∧ V.cell? ⟨bk, o + i * 3 + 2, none⟩ = some (.slice F u.l.length C) ∧ V.cell? ⟨w.heap.size + 1, 0, none⟩ = some (.int .i64 a.k) ∧ V.cell? ⟨w.heap.size + 1, 1, none⟩ = some (.int .i64 a.n) ∧ V.cell? ⟨w.heap.size + 1, 2, none⟩ = some (.slice A2 a.l.length cap2) from
              ⟨(hV.cell (p := ⟨w.heap.size, 0, none⟩) (by show w.heap.size < _; omega)).trans f0, (hV.cell (p := ⟨w.heap.size, 1, none⟩) (by show w.heap.size < _; omega)).trans f1, (hV.cell (p := ⟨w.heap.size, 2, none⟩) (by show w.heap.size < _; omega)).trans f2, (hV.cell (p := ⟨bk, _, none⟩) hbw).trans x0, (hV.cell (p := ⟨bk, _, none⟩) hbw).trans x1, (hV.cell (p := ⟨bk, _, none⟩) hbw).trans x2, (hV.cell (p := ⟨w.heap.size + 1, 0, none⟩) (by show w.heap.size + 1 < _; omega)).trans e0, (hV.cell (p := ⟨w.heap.size + 1, 1, none⟩) (by show w.heap.size + 1 < _; omega)).trans e1, (hV.cell (p := ⟨w.heap.size + 1, 2, none⟩) (by show w.heap.size + 1 < _; omega)).trans e2⟩))
            have HFIN : Hid (∀ (w3 : World) (x3 : TM) (A3 : Option Addr) (c3 : Nat) (l3 : Bool) (v2 : Value) (w4 : World), Below wr.heap.size wr w3 → IsTerm w3 wr.heap.size w3.heap.size x3 A3 c3 →
                AppTo (w3.alloc (.cells #[.int .i64 x3.k, .int .i64 x3.n, .slice A3 x3.l.length c3, .bool l3] 53)) (w.heap.size + 3) 53 4 (.slice a1 ps.length c1) (ps.length + 1) (flatG ps ++ cellsG (x3, A3, c3, l3)) v2 w4 →
                (w4.cell? ⟨w.heap.size, 0, none⟩ = some (.int .i64 k) ∧ w4.cell? ⟨w.heap.size, 1, none⟩ = some (.int .i64 n) ∧ w4.cell? ⟨w.heap.size, 2, none⟩ = some (.slice (some ⟨bk, o, none⟩) l.length cap) ∧ w4.cell? ⟨bk, o + i * 3, none⟩ = some (.int .i64 u.k) ∧ w4.cell? ⟨bk, o + i * 3 + 1, none⟩ = some (.int .i64 u.n) ∧ w4.cell? ⟨bk, o + i * 3 + 2, none⟩ = some (.slice F u.l.length C) ∧ w4.cell? ⟨w.heap.size + 1, 0, none⟩ = some (.int .i64 a.k) ∧ w4.cell? ⟨w.heap.size + 1, 1, none⟩ = some (.int .i64 a.n) ∧ w4.cell? ⟨w.heap.size + 1, 2, none⟩ = some (.slice A2 a.l.length cap2)) ∧ Hid (Bk w4 w.heap.size 24 #[.int .i64 k, .int .i64 n, .slice (some ⟨bk, o, none⟩) l.length cap]) ∧ Hid (Bk w4 (w.heap.size + 1) 24 #[.int .i64 a.k, .int .i64 a.n, .slice A2 a.l.length cap2]) ∧ Hid (Bk w4 (w.heap.size + 2) 53 #[.int .i64 0, .int .i64 0, .slice none 0 0, .bool false]) ∧
                Hid (GRow w4 (w.heap.size + 3) v2 (ps ++ [(x3, A3, c3, l3)]) (fun b => P b ∨ (wr.heap.size ≤ b ∧ b < w3.heap.size))) ∧ Hid (Below w.heap.size w w4) ∧ Hid (∃ a2 c2, v2 = .slice a2 (ps.length + 1) c2)) := Lib.hid (by
              intro w3 x3 A3 c3 l3 v2 w4 hV hx3 ha
              have hVz := hV.size
              have hVa := hV.alloc hV.size (.cells #[.int .i64 x3.k, .int .i64 x3.n, .slice A3 x3.l.length c3, .bool l3] 53)
              have hR := (HROW.out.below hV).alloc (.cells #[.int .i64 x3.k, .int .i64 x3.n, .slice A3 x3.l.length c3, .bool l3] 53)
              have hlt0 := hR.row.lt
              have hlt1 := HROW.out.row.lt
              have hne : ∀ g, g < w.heap.size + 3 → some g ≠ (Value.slice a1 ps.length c1).ownBlock := fun g hg e => by
                have := hlt0 g e.symm
                omega
              have hnb : some bk ≠ (Value.slice a1 ps.length c1).ownBlock := fun e => by
                have := hlt0 bk e.symm
                have := HLT.out
                omega
              have cA := fun g (hg : g < w.heap.size + 3) q => (ha.2.1.cell_far ⟨g, q, none⟩ (by show g < _; simp; omega) (hne g hg)).trans (hVa.cell (p := ⟨g, q, none⟩) (by show g < _; omega))
              have cB := fun q => (ha.2.1.cell_far ⟨bk, q, none⟩ (by show bk < _; simp; omega) hnb).trans (hVa.cell (p := ⟨bk, q, none⟩) hbw)
              refine ⟨⟨(cA _ (by omega) 0).trans f0, (cA _ (by omega) 1).trans f1, (cA _ (by omega) 2).trans f2, (cB _).trans x0, (cB _).trans x1, (cB _).trans x2, (cA _ (by omega) 0).trans e0, (cA _ (by omega) 1).trans e1, (cA _ (by omega) 2).trans e2⟩, (HB1.out.below hVa (by omega)).grown ha.2.1 (hne _ (by omega)), (HB2.out.below hVa (by omega)).grown ha.2.1 (hne _ (by omega)), (HB3.out.below hVa (by omega)).grown ha.2.1 (hne _ (by omega)), ?_, (HBB.out.trans (hVa.mono hz)).grown ha.2.1 (by have := hVa.size; omega) (fun g e => by have := hlt0 g e; omega), own_sliceG ha.1⟩
              exact hR.push (Pn := fun b => wr.heap.size ≤ b ∧ b < w3.heap.size) (p := (x3, A3, c3, l3)) (hx3.alloc (Nat.le_refl _) _) (fun b hb => ⟨by simp; omega, fun e => by have := hlt1 b e; omega⟩) ha.1 ha.2.1 ha.2.2)
            have HOW := Lib.hid (fun (w3 : World) (x3 : TM) (A3 : Option Addr) (c3 : Nat) (l3 : Bool) (hV : Below wr.heap.size wr w3) => ((HROW.out.below hV).alloc (.cells #[.int .i64 x3.k, .int .i64 x3.n, .slice A3 x3.l.length c3, .bool l3] 53)).row)
            have HZW := Lib.hid (fun (V : World) (hV : Below wr.heap.size wr V) => hV.size)
            have hbk := Lib.hid ((Below.refl wr.heap.size wr).drew)
            have hps9 : ps.length ≤ 2 := by have := HPS.out; omega
            clear hih hput hnode hu hx hgood hdep hbnd hbbv
            go_upto_region 11 with fail
            go_region_held3 (fun w' => w'.cell? ⟨w.heap.size, 0, none⟩ = some (.int .i64 k) ∧ w'.cell? ⟨w.heap.size, 1, none⟩ = some (.int .i64 n) ∧ w'.cell? ⟨w.heap.size, 2, none⟩ = some (.slice (some ⟨bk, o, none⟩) l.length cap) ∧ w'.cell? ⟨bk, o + i * 3, none⟩ = some (.int .i64 u.k) ∧ w'.cell? ⟨bk, o + i * 3 + 1, none⟩ = some (.int .i64 u.n) ∧ w'.cell? ⟨bk, o + i * 3 + 2, none⟩ = some (.slice F u.l.length C) ∧ w'.cell? ⟨w.heap.size + 1, 0, none⟩ = some (.int .i64 a.k) ∧ w'.cell? ⟨w.heap.size + 1, 1, none⟩ = some (.int .i64 a.n) ∧ w'.cell? ⟨w.heap.size + 1, 2, none⟩ = some (.slice A2 a.l.length cap2))
              (first | exact hks | exact HKS.out _ hbk.out | exact HKS.out _ (hbk.out.alloc hbk.out.size _))
              (first
              | (go_at_call 58; refine (CB.out _).mono ?_; rintro e w2 ⟨rfl, hb2⟩; have hbk := Lib.hid (hbk.out.trans (hb2.mono hbk.out.size)); clear hb2)
              | (go_at_call 40
                 refine (HIH.out _ hbk.out).mono ?_
                 rintro e w3 ⟨⟨x3, A3, c3, l3⟩, rfl, hx3, hbn, hgot⟩
                 have HX3 := Lib.hid (hx3.wide (HZW.out _ hbk.out) (Nat.le_refl _))
                 have HGOT := Lib.hid hgot
                 have hbk := Lib.hid (hbk.out.trans (hbn.mono hbk.out.size))
                 have hz3 := HZW.out _ hbk.out
                 clear hx3 hgot hbn)
              | (refine step_app rfl (.tmp 38) (.tmp 51) 67 rfl (w.heap.size + 3) 53 i0 (.agg #[.int .i64 0, .int .i64 0, .slice none 0 0, .bool false]) 4 48 Tryd.underlying67 hi0 hz0 hz1 hz2 rfl (by decide) (.slice a1 ps.length c1) ps.length (flatG ps) rfl (HOW.out _ x3 A3 c3 l3 hbk.out) (some ⟨w3.heap.size, 0, none⟩) 1 1 (cellsG (x3, A3, c3, l3)) rfl (src_at _ _ _ (by simp) rfl) (cellsG_one _) (by unfold maxLen; omega) (by omega) (by simp; omega) ?_
                 rintro v2 w4 ha4
                 obtain ⟨hks, HT4, HA4, HR4, HROW4, HBL4, HSL4⟩ := HFIN.out _ _ _ _ _ _ w4 hbk.out HX3.out ha4
                 obtain ⟨a2, c2, hv2⟩ := HSL4.out
                 subst hv2
                 clear ha4))
            all_goals
              have HGN : Hid (∀ j (h1 : j < (putM (atP a N) k 0 l b).length) (h2 : j < (ps ++ [(x3, A3, c3, l3)]).length), GotIs (putM (atP a N) k 0 l b)[j] (ps ++ [(x3, A3, c3, l3)])[j].1 (ps ++ [(x3, A3, c3, l3)])[j].2.2.2) := Lib.hid (fun j h1 h2 => by
                by_cases hj : j < ps.length
                · rw [List.getElem_append_left hj]; exact HGS.out j h1 hj
                · have h3 := HPS.out
                  obtain rfl : j = i := by simp at h2; omega
                  have e : (ps ++ [(x3, A3, c3, l3)])[j]'h2 = (x3, A3, c3, l3) := by
                    rw [List.getElem_append_right (by omega)]; simp [h3]
                  rw [e, HPUT.out h1]
                  exact HGOT.out)
              have HLN : Hid ((ps ++ [(x3, A3, c3, l3)]).length = ps.length + 1) := Lib.hid (by simp)
              clear hbk hps9 HKS HIH CB HFIN HOW
              go_wp2_with fail
              go_roundw
              case rel =>
                refine ⟨i + 1, ps ++ [(x3, A3, c3, l3)], fun b => P b ∨ (wr.heap.size ≤ b ∧ b < w3.heap.size), a2, c2, by omega, rfl, by rw [HLN.out], HBL4.out, HT4.out, HA4.out, HR4.out, by rw [HLN.out]; exact HROW4.out, fun b hb => ?_, by have := HPS.out; have := HLN.out; omega, HGN.out⟩
                rcases hb with hb | hb
                · exact HPP.out b hb
                · omega
              case measure => simp [intOf]; omega
          · obtain rfl : i = l.length := by omega
            have CS := subs_any k n l A cap wr (w.heap.size + 3) (w.heap.size + 3) a1 c1 ps P (putM (atP a N) k 0 l b) HROW.out (by omega) (fun b hb => HPP.out b hb) (by omega) (by rw [putM_len]; exact HPS.out.symm) HGS.out (by have := HPS.out; omega)
            unfold TellsGot gotV termV at CS
            have HCS := Lib.hid CS
            clear CS HGS HROW HFACT IH HN
            go_wp2_with fail
            refine HCS.out.mono ?_
            rintro e w5 ⟨⟨x5, A5, c5, l5⟩, rfl, hx5, hb5, hg5⟩
            have hz5 := hb5.size
            have K := HB3.out.below hb5 hlt3
            have HB5 := Lib.hid (HBB.out.trans (hb5.mono hz))
            have HX5 := Lib.hid hx5
            have HG5 := Lib.hid hg5
            have d0 : w5.cell? ⟨w.heap.size + 1 + 1, 0, none⟩ = some (.int .i64 0) := K.cell 0
            have d1 : w5.cell? ⟨w.heap.size + 1 + 1, 1, none⟩ = some (.int .i64 0) := K.cell 1
            have d2 : w5.cell? ⟨w.heap.size + 1 + 1, 2, none⟩ = some (.slice none 0 0) := K.cell 2
            have d3 : w5.cell? ⟨w.heap.size + 1 + 1, 3, none⟩ = some (.bool false) := K.cell 3
            have hfz : ∀ o, w5.frozen? ⟨w.heap.size + 1 + 1, o, none⟩ = false := fun o => K.cold o
            have B5 := (((K.at_ 0 (.int .i64 x5.k)).at_ 1 (.int .i64 x5.n)).at_ 2 (.slice A5 x5.l.length c5)).at_ 3 (.bool l5)
            have HS0 := Lib.hid (B5.cell 0)
            have HS1 := Lib.hid (B5.cell 1)
            have HS2 := Lib.hid (B5.cell 2)
            have HS3 := Lib.hid (B5.cell 3)
            clear B5
            clear K hb5 hx5 hg5
            go_wp2_with fail
            refine bodyPost_ret (v := .agg #[.int .i64 x5.k, .int .i64 x5.n, .slice A5 x5.l.length c5, .bool l5]) (by simp [results, Tryd.results40, go_sem, HS0.out, HS1.out, HS2.out, HS3.out]) rfl ?_
            exact tells_of HX5.out (by omega) (by omega) HB5.out HG5.out

end Go.Proofs.YtcobionbgiaomaaDoor
