/- The document's Tele and Beneath of a good term. -/
import Derived.Test.YtcbbaognomddkaaGreatDoorS5
import Derived.Test.YtcbbaognomddkaaGreatDoorM9
import Derived.Test.YtcbbaognomddkaaGreatDoorR4
import Derived.Test.YtcbbaognomddkaaGreatDoorR3
namespace Go.Proofs.YtcbbaognomddkaaGreatDoor
open Go.RowKit
set_option linter.unusedVariables false
set_option maxRecDepth 100000

def GivesB (u : TM) (lo hi : Nat) (w : World) (e : Ending) (w' : World) : Prop := ∃ A cap, e = .returned (termV u A cap) ∧ IsTerm w' lo hi u A cap ∧ Below w.heap.size w w'
def BenRel (t : TM) (w : World) (lo hi : Nat) (sv : Value) (wr : World) : Prop :=
  ∃ (u : TM) (A : Option Addr) (c : Nat), Below w.heap.size w wr ∧ Bk wr w.heap.size 31 #[.int .i64 u.k, .int .i64 u.n, .slice A u.l.length c] ∧ Bk wr (w.heap.size + 1) 31 #[.int .i64 0, .int .i64 0, .slice none 0 0] ∧
    IsTerm wr lo hi u A c ∧ tgoodB u = true ∧ benT u = benT t
set_option maxHeartbeats 2000000 in
theorem beneath_any12 (t : TM) (lo hi : Nat) (A : Option Addr) (cap : Nat) (w : World) (h : IsTerm w lo hi t A cap) (hhi : hi ≤ w.heap.size) (hg : tgoodB t = true) :
    Calls Tryz.prog 38 #[termV t A cap] w (GivesB (benT t) lo hi w) := by
  have HT := Lib.hid h
  have HG := Lib.hid hg
  have HHI := Lib.hid hhi
  clear h hg hhi
  unfold termV
  go_enter Tryz.func38, Tryz.ntmps38
  go_wp2_with fail
  go_loopw [3] (BenRel t w lo hi) (fun _ wr => (@Classical.epsilon TM ⟨.node 0 0 []⟩ (fun u => ∃ A c, Bk wr w.heap.size 31 #[.int .i64 u.k, .int .i64 u.n, .slice A u.l.length c] ∧ IsTerm wr lo hi u A c)).depth)
  case atStart =>
    exact ⟨t, A, cap, ((Below.refl w.heap.size w).alloc (Nat.le_refl _) _).alloc (by simp) _, (Bk.new w 31 _).alloc _, Bk.last _ _ _ (by simp), (HT.out.alloc HHI.out _).alloc (by have := HHI.out; simp; omega) _, HG.out, rfl⟩
  case round =>
    obtain ⟨u, A1, c1, hB, b1, b2, hu, hgu, hhd⟩ := hrel
    have hz := hB.size
    have HB1 := Lib.hid b1
    have HB2 := Lib.hid b2
    have HU := Lib.hid hu
    have HBB := Lib.hid hB
    have HHD := Lib.hid hhd
    obtain ⟨k, n, l⟩ := u
    have hdep : ∀ (wr' : World) (v : TM) (B : Option Addr) (d : Nat), Bk wr' w.heap.size 31 #[.int .i64 v.k, .int .i64 v.n, .slice B v.l.length d] → IsTerm wr' lo hi v B d →
        (@Classical.epsilon TM ⟨.node 0 0 []⟩ (fun u => ∃ A c, Bk wr' w.heap.size 31 #[.int .i64 u.k, .int .i64 u.n, .slice A u.l.length c] ∧ IsTerm wr' lo hi u A c)) = v := fun wr' v B d h1 h2 => by
      obtain ⟨A', c', q1, q2⟩ := Classical.epsilon_spec (p := fun u => ∃ A c, Bk wr' w.heap.size 31 #[.int .i64 u.k, .int .i64 u.n, .slice A u.l.length c] ∧ IsTerm wr' lo hi u A c) ⟨v, B, d, h1, h2⟩
      exact box_term h1 h2 q1 q2
    have HDEP := Lib.hid hdep
    obtain ⟨y0, y1, y2, yl⟩ := (TBox.of b1 : TBox wr w.heap.size k n (.slice A1 l.length c1))
    clear b1 b2 hu hhd hdep
    by_cases hk : k = 3
    · obtain ⟨n', a, f, e0, ha, hf⟩ := pi_parts hgu hk
      injection e0 with e1 e2 e3
      subst e1 e2 e3
      obtain ⟨bk, o, F, C, hA, hb1, hb2, hx, hnode⟩ := HU.out.sub 1 (by simp)
      subst hA
      obtain ⟨x0', x1', x2'⟩ := hx
      simp only [List.getElem_cons_succ, List.getElem_cons_zero, Nat.one_mul] at x0' x1' x2' hnode
      have HNO := Lib.hid hnode
      have hbw : bk < wr.heap.size := by have := HHI.out; omega
      have hfz : ∀ q, wr.frozen? ⟨w.heap.size, q, none⟩ = false := fun q => HB1.out.cold q
      have hne : bk ≠ w.heap.size := by have := HHI.out; omega
      have HF := Lib.hid hf
      have HH2 := Lib.hid (show benT f = benT t by rw [← HHD.out, (tel_pi hf).2])
      have HKB := Lib.hid (show Bk (((wr.setCell ⟨w.heap.size, 0, none⟩ (.int .i64 f.k)).setCell ⟨w.heap.size, 1, none⟩ (.int .i64 f.n)).setCell ⟨w.heap.size, 2, none⟩ (.slice F f.l.length C)) w.heap.size 31 #[.int .i64 f.k, .int .i64 f.n, .slice F f.l.length C] from ((HB1.out.at_ 0 (.int .i64 f.k)).at_ 1 (.int .i64 f.n)).at_ 2 (.slice F f.l.length C))
      have HKT := Lib.hid (show IsTerm (((wr.setCell ⟨w.heap.size, 0, none⟩ (.int .i64 f.k)).setCell ⟨w.heap.size, 1, none⟩ (.int .i64 f.n)).setCell ⟨w.heap.size, 2, none⟩ (.slice F f.l.length C)) lo hi f F C from HNO.out.imp (fun b o h1 h2 => by
          have hne : ∀ o', (⟨w.heap.size, o', none⟩ : Addr) ≠ ⟨b, o, none⟩ := fun o' e => by
            have h1 := congrArg Addr.block e
            have h3 := HHI.out
            simp at h1
            omega
          rw [World.cell?_setCell_other _ _ _ _ (hne _), World.cell?_setCell_other _ _ _ _ (hne _), World.cell?_setCell_other _ _ _ _ (hne _)]) (Nat.le_refl _) (Nat.le_refl _))
      have HLESS := Lib.hid (show f.depth < (TM.node 3 n [a, f]).depth by rw [tdepth_node, depthM_cons, depthM_cons]; omega)
      have HU0 := Lib.hid (HDEP.out wr (.node 3 n [a, f]) _ c1 HB1.out HU.out)
      have HU1 := Lib.hid (HDEP.out (((wr.setCell ⟨w.heap.size, 0, none⟩ (.int .i64 f.k)).setCell ⟨w.heap.size, 1, none⟩ (.int .i64 f.n)).setCell ⟨w.heap.size, 2, none⟩ (.slice F f.l.length C)) f F C HKB.out HKT.out)
      clear hgu hf ha hnode HHD
      simp only [List.length_cons, List.length_nil] at y2
      go_wp2_with fail
      go_roundw
      case rel =>
        exact ⟨f, F, C, ((HBB.out.setCell (by simp) _).setCell (by simp) _).setCell (by simp) _, HKB.out, ((HB2.out.far (by simp) _).far (by simp) _).far (by simp) _, HKT.out, HF.out, HH2.out⟩
      case measure =>
        rw [HU0.out, HU1.out]
        exact HLESS.out
    · have e1 : (k == 3) = false := by simpa using hk
      have hfz : ∀ q, wr.frozen? ⟨w.heap.size + 1, q, none⟩ = false := fun q => HB2.out.cold q
      have d0 : wr.cell? ⟨w.heap.size + 1, 0, none⟩ = some (.int .i64 0) := HB2.out.cell 0
      have d1 : wr.cell? ⟨w.heap.size + 1, 1, none⟩ = some (.int .i64 0) := HB2.out.cell 1
      have d2 : wr.cell? ⟨w.heap.size + 1, 2, none⟩ = some (.slice none 0 0) := HB2.out.cell 2
      have B5 := ((HB2.out.at_ 0 (.int .i64 k)).at_ 1 (.int .i64 n)).at_ 2 (.slice A1 l.length c1)
      have HS0 := Lib.hid (B5.cell 0)
      have HS1 := Lib.hid (B5.cell 1)
      have HS2 := Lib.hid (B5.cell 2)
      have HEQ := Lib.hid (show benT t = .node k n l by rw [← HHD.out, (tel_not (t := .node k n l) hk).2])
      clear B5 hk hgu
      go_wp2_with fail
      refine bodyPost_ret (v := .agg #[.int .i64 k, .int .i64 n, .slice A1 l.length c1]) (by simp [results, Tryz.results38, go_sem, HS0.out, HS1.out, HS2.out]) rfl ?_
      rw [HEQ.out]
      refine ⟨A1, c1, rfl, ?_, ((HBB.out.setCell (by simp) _).setCell (by simp) _).setCell (by simp) _⟩
      exact HU.out.imp (fun b o h1 h2 => by
        have hne : ∀ o', (⟨w.heap.size + 1, o', none⟩ : Addr) ≠ ⟨b, o, none⟩ := fun o' e => by
          have h1 := congrArg Addr.block e
          have h3 := HHI.out
          simp at h1
          omega
        rw [World.cell?_setCell_other _ _ _ _ (hne _), World.cell?_setCell_other _ _ _ _ (hne _), World.cell?_setCell_other _ _ _ _ (hne _)]) (Nat.le_refl _) (Nat.le_refl _)

/-- Where Tele stands. -/
def TeleRel (t : TM) (w : World) (lo hi : Nat) (nv : Value) (wr : World) : Prop :=
  ∃ (u : TM) (A : Option Addr) (c : Nat) (a3 : Option Addr) (c3 : Nat) (ps : List (TM × Option Addr × Nat)), nv = .slice a3 ps.length c3 ∧ Below w.heap.size w wr ∧ Bk wr w.heap.size 31 #[.int .i64 u.k, .int .i64 u.n, .slice A u.l.length c] ∧
    TermRow wr (w.heap.size + 1) 31 (.slice a3 ps.length c3) ps (fun b => lo ≤ b ∧ b < hi) ∧ IsTerm wr lo hi u A c ∧ tgoodB u = true ∧ telT t = ps.map (·.1) ++ telT u
def TeleIs (t : TM) (lo hi : Nat) (w : World) (e : Ending) (w' : World) : Prop :=
  ∃ a c ps, e = .returned (.slice a ps.length c) ∧ TermRow w' w.heap.size 31 (.slice a ps.length c) ps (fun b => lo ≤ b ∧ b < hi) ∧ ps.map (·.1) = telT t ∧ Below w.heap.size w w'
theorem TermRow.baseT {w : World} {base base' : Nat} {e : TypeId} {v : Value} {ps : List (TM × Option Addr × Nat)} {lo hi : Nat} (h : TermRow w base e v ps (fun b => lo ≤ b ∧ b < hi)) (hb : base' ≤ base) : TermRow w base' e v ps (fun b => lo ≤ b ∧ b < hi) :=
  ⟨ownsRow_baseV h.row hb, h.far, h.node⟩

set_option maxHeartbeats 4000000 in
theorem tele_any (t : TM) (lo hi : Nat) (A : Option Addr) (cap : Nat) (w : World) (h : IsTerm w lo hi t A cap) (hhi : hi ≤ w.heap.size) (hs : shapedB t = true) :
    Calls Tryz.prog 34 #[termV t A cap] w (TeleIs t lo hi w) := by
  obtain ⟨i0, hi0, hz0, hz1, hz2⟩ := info_parts infoM
  have HT := Lib.hid h
  have HG := Lib.hid (shapedB_true.1 hs).2.2
  have HHI := Lib.hid hhi
  have HLN := Lib.hid (show (telT t).length ≤ 128 by rw [(tel_facts hs).1]; exact Nat.le_trans (pisN_depth t) (shapedB_true.1 hs).2.1)
  have hE := World.ownsRow_lit (base := w.heap.size + 1) (e := 31) (size := 3) (w.alloc (.cells #[.int .i64 t.k, .int .i64 t.n, .slice A t.l.length cap] 31)) #[] 0 (by simp) (by decide) rfl
  have HE := Lib.hid hE
  clear h hhi hs hE
  unfold termV
  go_enter Tryz.func34, Tryz.ntmps34
  go_wp2_with fail
  go_loopw [3] (TeleRel t w lo hi) (fun _ wr => (@Classical.epsilon TM ⟨.node 0 0 []⟩ (fun u => ∃ A c, Bk wr w.heap.size 31 #[.int .i64 u.k, .int .i64 u.n, .slice A u.l.length c] ∧ IsTerm wr lo hi u A c)).depth)
  case atStart =>
    refine ⟨t, A, cap, _, _, [], rfl, ((Below.refl w.heap.size w).alloc (Nat.le_refl _) _).alloc (by simp) _, (Bk.new w 31 _).alloc _, ⟨?_, fun b hb => ⟨by have := HHI.out; simp; omega, fun e => by have := HHI.out; simp [Value.ownBlock] at e; omega⟩, fun _ h => by cases h⟩, (HT.out.alloc HHI.out _).alloc (by have := HHI.out; simp; omega) _, HG.out, rfl⟩
    have := HE.out
    simpa [flatM] using this
  case round =>
    obtain ⟨u, A1, c1, a3, c3, ps, rfl, hB, b1, hrow, hu, hgu, htl⟩ := hrel
    have hz := hB.size
    have HB1 := Lib.hid b1
    have HU := Lib.hid hu
    have HBB := Lib.hid hB
    have HTL := Lib.hid htl
    have HROW := Lib.hid hrow
    obtain ⟨k, n, l⟩ := u
    have hdep : ∀ (wr' : World) (v : TM) (B : Option Addr) (d : Nat), Bk wr' w.heap.size 31 #[.int .i64 v.k, .int .i64 v.n, .slice B v.l.length d] → IsTerm wr' lo hi v B d →
        (@Classical.epsilon TM ⟨.node 0 0 []⟩ (fun u => ∃ A c, Bk wr' w.heap.size 31 #[.int .i64 u.k, .int .i64 u.n, .slice A u.l.length c] ∧ IsTerm wr' lo hi u A c)) = v := fun wr' v B d h1 h2 => by
      obtain ⟨A', c', q1, q2⟩ := Classical.epsilon_spec (p := fun u => ∃ A c, Bk wr' w.heap.size 31 #[.int .i64 u.k, .int .i64 u.n, .slice A u.l.length c] ∧ IsTerm wr' lo hi u A c) ⟨v, B, d, h1, h2⟩
      exact box_term h1 h2 q1 q2
    have HDEP := Lib.hid hdep
    obtain ⟨y0, y1, y2, yl⟩ := (TBox.of b1 : TBox wr w.heap.size k n (.slice A1 l.length c1))
    clear b1 hu htl hdep hrow
    by_cases hk : k = 3
    · obtain ⟨n', a, f, e0, ha, hf⟩ := pi_parts hgu hk
      injection e0 with e1 e2 e3
      subst e1 e2 e3
      obtain ⟨bk, o, G, D, hA, hb1, hb2, hy, hnode2⟩ := HU.out.sub 0 (by simp)
      obtain ⟨bk2, o2, F, C, hA2, _, _, hx, hnode⟩ := HU.out.sub 1 (by simp)
      subst hA
      obtain ⟨rfl, rfl⟩ : bk = bk2 ∧ o = o2 := by
        injection hA2 with q
        injection q with q1 q2
        exact ⟨q1, q2⟩
      simp only [List.getElem_cons_zero, List.getElem_cons_succ, Nat.zero_mul, Nat.add_zero, Nat.one_mul] at hx hy hnode hnode2
      have hbw : bk < wr.heap.size := by have := HHI.out; omega
      have HNO := Lib.hid hnode
      have HNO2 := Lib.hid hnode2
      have HF := Lib.hid hf
      have HX := Lib.hid hx
      have HBL := Lib.hid hb2
      have HTL2 := Lib.hid (show telT t = (ps ++ [(a, G, D)]).map (·.1) ++ telT f by rw [HTL.out, (tel_pi hf).1]; simp)
      have HLESS := Lib.hid (show f.depth < (TM.node 3 n [a, f]).depth by rw [tdepth_node, depthM_cons, depthM_cons]; omega)
      have HU0 := Lib.hid (HDEP.out wr (.node 3 n [a, f]) _ c1 HB1.out HU.out)
      have HPL := Lib.hid (show ps.length ≤ 1000 by
        have h1 := congrArg List.length HTL.out
        rw [List.length_append, List.length_map] at h1
        have h2 := HLN.out
        omega)
      obtain ⟨z0, z1, z2⟩ := hy
      simp only [List.length_cons, List.length_nil] at y2
      have R1 := HROW.out.alloc (.cells #[.int .i64 a.k, .int .i64 a.n, .slice G a.l.length D] 31)
      have HR1 := Lib.hid R1
      have HOW := Lib.hid R1.row
      have HLT0 := Lib.hid (fun g (e : (Value.slice a3 ps.length c3).ownBlock = some g) => R1.row.lt g e)
      have HBA := Lib.hid (HBB.out.alloc hz (.cells #[.int .i64 a.k, .int .i64 a.n, .slice G a.l.length D] 31))
      have HKA := Lib.hid (HB1.out.alloc (.cells #[.int .i64 a.k, .int .i64 a.n, .slice G a.l.length D] 31))
      have HXA := Lib.hid (HX.out.kept ((Below.refl wr.heap.size wr).alloc (Nat.le_refl _) (.cells #[.int .i64 a.k, .int .i64 a.n, .slice G a.l.length D] 31)) hbw)
      have HNA := Lib.hid (HNO.out.alloc (by have := HHI.out; omega) (.cells #[.int .i64 a.k, .int .i64 a.n, .slice G a.l.length D] 31))
      have HNA2 := Lib.hid (HNO2.out.alloc (by have := HHI.out; omega) (.cells #[.int .i64 a.k, .int .i64 a.n, .slice G a.l.length D] 31))
      have tk : ((3 : Int) == 3) = true := rfl
      clear R1 hgu hf ha hnode hnode2 hx HTL hA2 HB1 hb2
      go_wp2_with (at_builtin; refine wpList_app rfl _ _ 29 rfl (w.heap.size + 1) 31 i0 (.agg #[.int .i64 0, .int .i64 0, .slice none 0 0]) 3 40 Tryz.underlying29 hi0 hz0 hz1 hz2 rfl (by decide) _ _ _ rfl HOW.out (some ⟨wr.heap.size, 0, none⟩) 1 1 (cellsM (a, G, D)) rfl (src_at _ _ _ (by simp) rfl) (cellsM_one _) ?c3 ?c4 (by simp; omega) ?_)
      case c3 => have := HPL.out; unfold maxLen; omega
      case c4 => have := HPL.out; omega
      rintro v2' w3 ⟨hown3, hg3, ho3⟩
      obtain ⟨a4, c4, rfl⟩ := own_sliceM hown3
      have hhi := HHI.out
      have hbl := HBL.out
      have hne : ∀ g, g < w.heap.size + 1 → some g ≠ (Value.slice a3 ps.length c3).ownBlock := fun g hg e => by have := HLT0.out g e.symm; omega
      have K3 := HKA.out.grown hg3 (hne _ (by omega))
      have hcell : ∀ b o', b < w.heap.size → w3.cell? ⟨b, o', none⟩ = (wr.alloc (.cells #[.int .i64 a.k, .int .i64 a.n, .slice G a.l.length D] 31)).cell? ⟨b, o', none⟩ := fun b o' hb => hg3.cell_far ⟨b, o', none⟩ (by show b < _; simp; omega) (hne b (by omega))
      obtain ⟨x0', x1', x2'⟩ := HXA.out
      have x0 : w3.cell? ⟨bk, o + 3, none⟩ = _ := (hcell bk _ (by omega)).trans x0'
      have x1 : w3.cell? ⟨bk, o + 3 + 1, none⟩ = _ := (hcell bk _ (by omega)).trans x1'
      have x2 : w3.cell? ⟨bk, o + 3 + 2, none⟩ = _ := (hcell bk _ (by omega)).trans x2'
      have HF3 := Lib.hid (HNA.out.imp (w' := w3) (lo' := lo) (hi' := hi) (fun b o' h1 h2 => hcell b o' (by omega)) (Nat.le_refl _) (Nat.le_refl _))
      have hp := HR1.out.push (Pn := fun b => lo ≤ b ∧ b < hi) (p := (a, G, D)) HNA2.out (fun b hb => ⟨by simp; omega, fun e => hne b (by omega) e.symm⟩) hown3 hg3 ho3
      have HP3 := Lib.hid (show TermRow w3 (w.heap.size + 1) 31 (.slice a4 (ps ++ [(a, G, D)]).length c4) (ps ++ [(a, G, D)]) (fun b => lo ≤ b ∧ b < hi) from by
        rw [List.length_append]
        exact ⟨hp.row, fun b hb => hp.far b (.inl hb), fun p hp' => (hp.node p hp').imp (fun _ _ _ => rfl) (fun b hb => hb.elim id id)⟩)
      have HB3 := Lib.hid (HBA.out.grown hg3 (by simp; omega) (fun g e => by have := HLT0.out g e; omega))
      have HK3 := Lib.hid K3
      have hsz3 : w.heap.size < w3.heap.size := K3.lt
      have hbw3 : bk < w3.heap.size := by omega
      have d0 : w3.cell? ⟨w.heap.size, 0, none⟩ = some (.int .i64 3) := K3.cell 0
      have d1 : w3.cell? ⟨w.heap.size, 1, none⟩ = some (.int .i64 n) := K3.cell 1
      have d2 : w3.cell? ⟨w.heap.size, 2, none⟩ = some (.slice (some ⟨bk, o, none⟩) 2 c1) := K3.cell 2
      have hfz : ∀ q, w3.frozen? ⟨w.heap.size, q, none⟩ = false := fun q => K3.cold q
      have HREL := Lib.hid (show TeleRel t w lo hi (.slice a4 (ps ++ [(a, G, D)]).length c4) (((w3.setCell ⟨w.heap.size, 0, none⟩ (.int .i64 f.k)).setCell ⟨w.heap.size, 1, none⟩ (.int .i64 f.n)).setCell ⟨w.heap.size, 2, none⟩ (.slice F f.l.length C)) from by
        refine ⟨f, F, C, a4, c4, ps ++ [(a, G, D)], rfl, ((HB3.out.setCell (by simp) _).setCell (by simp) _).setCell (by simp) _, ((HK3.out.at_ 0 (.int .i64 f.k)).at_ 1 (.int .i64 f.n)).at_ 2 (.slice F f.l.length C), ?_, TermIn.three HF3.out (fun q hq e => by have := hq.2; omega) _ _ _, HF.out, HTL2.out⟩
        exact ((HP3.out.setCell (a := ⟨w.heap.size, 0, none⟩) (by simp) (fun b hq => by have := hq.2; simp; omega) _).setCell (a := ⟨w.heap.size, 1, none⟩) (by simp) (fun b hq => by have := hq.2; simp; omega) _).setCell (a := ⟨w.heap.size, 2, none⟩) (by simp) (fun b hq => by have := hq.2; simp; omega) _)
      have HU1 := Lib.hid (HDEP.out (((w3.setCell ⟨w.heap.size, 0, none⟩ (.int .i64 f.k)).setCell ⟨w.heap.size, 1, none⟩ (.int .i64 f.n)).setCell ⟨w.heap.size, 2, none⟩ (.slice F f.l.length C)) f F C (((HK3.out.at_ 0 (.int .i64 f.k)).at_ 1 (.int .i64 f.n)).at_ 2 (.slice F f.l.length C)) (TermIn.three HF3.out (fun q hq e => by have := hq.2; omega) _ _ _))
      have HLN4 := Lib.hid (show (ps ++ [(a, G, D)]).length = ps.length + 1 by simp)
      clear hown3 hg3 ho3 hp K3 hcell hne x0' x1' x2'
      go_wp2_with fail
      go_roundw
      case rel => first | exact HREL.out | (have := HREL.out; rw [HLN4.out] at this; exact this)
      case measure =>
        rw [HU0.out, HU1.out]
        exact HLESS.out
    · have e1 : (k == 3) = false := by simpa using hk
      have HEQ := Lib.hid (show ps.map (·.1) = telT t by rw [HTL.out, (tel_not (t := .node k n l) hk).1, List.append_nil])
      clear hk hgu
      go_wp2_with fail
      go_ret
      exact ⟨a3, c3, ps, rfl, HROW.out.baseT (by omega), HEQ.out, HBB.out⟩

end Go.Proofs.YtcbbaognomddkaaGreatDoor
