/- The document's Head of a good term. -/
import Derived.Test.YtodmnollgejgeaaDoorSPlain
import Derived.Test.YtodmnollgejgeaaDoorTRenew
namespace Go.Proofs.YtodmnollgejgeaaDoor
open Go.RowKit
set_option linter.unusedVariables false
set_option maxRecDepth 100000

theorem Bk.same {w : World} {g : Nat} {e e' : TypeId} {cs cs' : Array Value} (h : Bk w g e cs) (h' : Bk w g e' cs') : cs = cs' := by
  have h1 : w.heap[g]? = _ := h
  have h2 : w.heap[g]? = _ := h'
  rw [h1] at h2
  injection h2 with h2
  injection h2
/-- What a box says of the term that lies in it. -/
theorem box_term {w : World} {g lo hi : Nat} {u v : TM} {A B : Option Addr} {c d : Nat} (h1 : Bk w g 24 #[.int .i64 u.k, .int .i64 u.n, .slice A u.l.length c]) (h2 : IsTerm w lo hi u A c)
    (h3 : Bk w g 24 #[.int .i64 v.k, .int .i64 v.n, .slice B v.l.length d]) (h4 : IsTerm w lo hi v B d) : v = u := by
  have e := congrArg Array.toList (h1.same h3)
  simp only [List.cons.injEq, Value.int.injEq, Value.slice.injEq, true_and, and_true] at e
  obtain ⟨e1, e2, e3, e4, e5⟩ := e
  subst e3
  exact TermIn.unique h2 h4 e1.symm e2.symm e4.symm
def HeadRel (t : TM) (w : World) (lo hi : Nat) (sv : Value) (wr : World) : Prop :=
  ∃ (u : TM) (A : Option Addr) (c : Nat), Below w.heap.size w wr ∧ Bk wr w.heap.size 24 #[.int .i64 u.k, .int .i64 u.n, .slice A u.l.length c] ∧ Bk wr (w.heap.size + 1) 24 #[.int .i64 0, .int .i64 0, .slice none 0 0] ∧
    IsTerm wr lo hi u A c ∧ tgoodB u = true ∧ headT u = headT t
def GivesH (u : TM) (lo hi : Nat) (w : World) (e : Ending) (w' : World) : Prop := ∃ A cap, e = .returned (termV u A cap) ∧ IsTerm w' lo hi u A cap ∧ Below w.heap.size w w'

set_option maxHeartbeats 2000000 in
theorem head_any (t : TM) (lo hi : Nat) (A : Option Addr) (cap : Nat) (w : World) (h : IsTerm w lo hi t A cap) (hhi : hi ≤ w.heap.size) (hg : tgoodB t = true) :
    Calls Tryd.prog 24 #[termV t A cap] w (GivesH (headT t) lo hi w) := by
  have HT := Lib.hid h
  have HG := Lib.hid hg
  have HHI := Lib.hid hhi
  clear h hg hhi
  unfold termV
  go_enter Tryd.func24, Tryd.ntmps24
  go_wp2_with fail
  go_loopw [3] (HeadRel t w lo hi) (fun _ wr => (@Classical.epsilon TM ⟨.node 0 0 []⟩ (fun u => ∃ A c, Bk wr w.heap.size 24 #[.int .i64 u.k, .int .i64 u.n, .slice A u.l.length c] ∧ IsTerm wr lo hi u A c)).depth)
  case atStart =>
    exact ⟨t, A, cap, ((Below.refl w.heap.size w).alloc (Nat.le_refl _) _).alloc (by simp) _, (Bk.new w 24 _).alloc _, Bk.last _ _ _ (by simp), (HT.out.alloc HHI.out _).alloc (by have := HHI.out; simp; omega) _, HG.out, rfl⟩
  case round =>
    obtain ⟨u, A1, c1, hB, b1, b2, hu, hgu, hhd⟩ := hrel
    have hz := hB.size
    have HB1 := Lib.hid b1
    have HB2 := Lib.hid b2
    have HU := Lib.hid hu
    have HBB := Lib.hid hB
    have HHD := Lib.hid hhd
    obtain ⟨k, n, l⟩ := u
    have hdep : ∀ (wr' : World) (v : TM) (B : Option Addr) (d : Nat), Bk wr' w.heap.size 24 #[.int .i64 v.k, .int .i64 v.n, .slice B v.l.length d] → IsTerm wr' lo hi v B d →
        (@Classical.epsilon TM ⟨.node 0 0 []⟩ (fun u => ∃ A c, Bk wr' w.heap.size 24 #[.int .i64 u.k, .int .i64 u.n, .slice A u.l.length c] ∧ IsTerm wr' lo hi u A c)) = v := fun wr' v B d h1 h2 => by
      obtain ⟨A', c', q1, q2⟩ := Classical.epsilon_spec (p := fun u => ∃ A c, Bk wr' w.heap.size 24 #[.int .i64 u.k, .int .i64 u.n, .slice A u.l.length c] ∧ IsTerm wr' lo hi u A c) ⟨v, B, d, h1, h2⟩
      exact box_term h1 h2 q1 q2
    have HDEP := Lib.hid hdep
    obtain ⟨y0, y1, y2, yl⟩ := (TBox.of b1 : TBox wr w.heap.size k n (.slice A1 l.length c1))
    clear b1 b2 hu hhd hdep
    by_cases hk : k = 5
    · subst hk
      obtain ⟨f, a, rfl, rfl, hf, ha⟩ := app_parts hgu
      obtain ⟨bk, o, F, C, hA, hb1, hb2, hx, hnode⟩ := HU.out.sub 0 (by simp)
      subst hA
      obtain ⟨x0', x1', x2'⟩ := hx
      simp only [List.getElem_cons_zero, Nat.zero_mul, Nat.add_zero] at x0' x1' x2' hnode
      have HNO := Lib.hid hnode
      have hbw : bk < wr.heap.size := by have := HHI.out; omega
      have hfz : ∀ q, wr.frozen? ⟨w.heap.size, q, none⟩ = false := fun q => HB1.out.cold q
      have hne : bk ≠ w.heap.size := by have := HHI.out; omega
      have HF := Lib.hid hf
      have HH2 := Lib.hid (show headT f = headT t by rw [← HHD.out, headT_app])
      have HKB := Lib.hid (show Bk (((wr.setCell ⟨w.heap.size, 0, none⟩ (.int .i64 f.k)).setCell ⟨w.heap.size, 1, none⟩ (.int .i64 f.n)).setCell ⟨w.heap.size, 2, none⟩ (.slice F f.l.length C)) w.heap.size 24 #[.int .i64 f.k, .int .i64 f.n, .slice F f.l.length C] from ((HB1.out.at_ 0 (.int .i64 f.k)).at_ 1 (.int .i64 f.n)).at_ 2 (.slice F f.l.length C))
      have HKT := Lib.hid (show IsTerm (((wr.setCell ⟨w.heap.size, 0, none⟩ (.int .i64 f.k)).setCell ⟨w.heap.size, 1, none⟩ (.int .i64 f.n)).setCell ⟨w.heap.size, 2, none⟩ (.slice F f.l.length C)) lo hi f F C from HNO.out.imp (fun b o h1 h2 => by
          have hne : ∀ o', (⟨w.heap.size, o', none⟩ : Addr) ≠ ⟨b, o, none⟩ := fun o' e => by
            have h1 := congrArg Addr.block e
            have h3 := HHI.out
            simp at h1
            omega
          rw [World.cell?_setCell_other _ _ _ _ (hne _), World.cell?_setCell_other _ _ _ _ (hne _), World.cell?_setCell_other _ _ _ _ (hne _)]) (Nat.le_refl _) (Nat.le_refl _))
      have HLESS := Lib.hid (show f.depth < (TM.node 5 0 [f, a]).depth by rw [tdepth_node, depthM_cons]; omega)
      have HU0 := Lib.hid (HDEP.out wr (.node 5 0 [f, a]) _ c1 HB1.out HU.out)
      have HU1 := Lib.hid (HDEP.out (((wr.setCell ⟨w.heap.size, 0, none⟩ (.int .i64 f.k)).setCell ⟨w.heap.size, 1, none⟩ (.int .i64 f.n)).setCell ⟨w.heap.size, 2, none⟩ (.slice F f.l.length C)) f F C HKB.out HKT.out)
      clear hgu hf ha hnode HHD
      simp only [List.length_cons, List.length_nil] at y2
      go_wp2_with fail
      go_roundw
      case rel =>
        exact ⟨f, F, C, ((HBB.out.setCell (by simp) _).setCell (by simp) _).setCell (by simp) _, HKB.out, ((HB2.out.far (by simp) _).far (by simp) _).far (by simp) _, HKT.out, HF.out, HH2.out⟩
      case measure =>
        rw [HU0.out, HU1.out]
        exact HLESS.out
    · have e1 : (k == 5) = false := by simpa using hk
      have hfz : ∀ q, wr.frozen? ⟨w.heap.size + 1, q, none⟩ = false := fun q => HB2.out.cold q
      have d0 : wr.cell? ⟨w.heap.size + 1, 0, none⟩ = some (.int .i64 0) := HB2.out.cell 0
      have d1 : wr.cell? ⟨w.heap.size + 1, 1, none⟩ = some (.int .i64 0) := HB2.out.cell 1
      have d2 : wr.cell? ⟨w.heap.size + 1, 2, none⟩ = some (.slice none 0 0) := HB2.out.cell 2
      have B5 := ((HB2.out.at_ 0 (.int .i64 k)).at_ 1 (.int .i64 n)).at_ 2 (.slice A1 l.length c1)
      have HS0 := Lib.hid (B5.cell 0)
      have HS1 := Lib.hid (B5.cell 1)
      have HS2 := Lib.hid (B5.cell 2)
      have HEQ := Lib.hid (show headT t = .node k n l by rw [← HHD.out, headT_not n l hk])
      clear B5 hk hgu
      go_wp2_with fail
      refine bodyPost_ret (v := .agg #[.int .i64 k, .int .i64 n, .slice A1 l.length c1]) (by simp [results, Tryd.results24, go_sem, HS0.out, HS1.out, HS2.out]) rfl ?_
      rw [HEQ.out]
      refine ⟨A1, c1, rfl, ?_, ((HBB.out.setCell (by simp) _).setCell (by simp) _).setCell (by simp) _⟩
      exact HU.out.imp (fun b o h1 h2 => by
        have hne : ∀ o', (⟨w.heap.size + 1, o', none⟩ : Addr) ≠ ⟨b, o, none⟩ := fun o' e => by
          have h1 := congrArg Addr.block e
          have h3 := HHI.out
          simp at h1
          omega
        rw [World.cell?_setCell_other _ _ _ _ (hne _), World.cell?_setCell_other _ _ _ _ (hne _), World.cell?_setCell_other _ _ _ _ (hne _)]) (Nat.le_refl _) (Nat.le_refl _)

end Go.Proofs.YtodmnollgejgeaaDoor
