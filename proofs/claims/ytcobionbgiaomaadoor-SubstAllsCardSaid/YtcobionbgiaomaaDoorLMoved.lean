/- lift.moved: a term gone over, each loose variable as the closure says. -/
import Derived.Test.YtcobionbgiaomaaDoorLMovedVar
import Derived.Test.YtcobionbgiaomaaDoorTRenew
import Derived.Deep.RegionWith
import Derived.Deep.CutRange
import Derived.Deep.RegionHeld3
namespace Go.Proofs.YtcobionbgiaomaaDoor
open Go.RowKit
set_option linter.unusedVariables false
set_option maxRecDepth 100000

theorem IsTerm.late {w : World} {lo : Nat} {t : TM} {A : Option Addr} {cap : Nat} (h : IsTerm w lo w.heap.size t A cap) (o : Obj) : IsTerm (w.alloc o) lo (w.alloc o).heap.size t A cap :=
  (h.alloc (Nat.le_refl _) o).wide (Nat.le_refl _) (by simp)
theorem IsTerm.far3 {w : World} {lo hi : Nat} {t : TM} {A : Option Addr} {cap g : Nat} (h : IsTerm w lo hi t A cap) (hg : g < lo) (v0 v1 v2 : Value) :
    IsTerm (((w.setCell ⟨g, 0, none⟩ v0).setCell ⟨g, 1, none⟩ v1).setCell ⟨g, 2, none⟩ v2) lo hi t A cap := ((h.setFar hg v0).setFar hg v1).setFar hg v2

/-- What a function value does with a variable. -/
def VarCalls (fv : Value) (G : Int → Int × Int) (w0 : World) : Prop :=
  ∀ (m b : Int) (V : World), Below w0.heap.size w0 V → 0 ≤ m → m ≤ 1048576 → 0 ≤ b → b ≤ 200 → Calls Tryd.prog 67 #[.int .i64 m, .int .i64 b, fv] V (GivesT (resU (varT G m b)) V)

def MovedRel (G : Int → Int × Int) (w : World) (k n b : Int) (l : List TM) (A : Option Addr) (cap : Nat) (nv iv : Value) (wr : World) : Prop :=
  ∃ (i : Nat) (ps : List (TM × Option Addr × Nat)) (P : Nat → Prop), i ≤ l.length ∧ iv = .int .i64 i ∧ Below w.heap.size w wr ∧
    Bk wr w.heap.size 24 #[.int .i64 k, .int .i64 n, .slice A l.length cap] ∧ Bk wr (w.heap.size + 1) 24 #[.int .i64 0, .int .i64 0, .slice none 0 0] ∧
    TermRow wr (w.heap.size + 2) 24 nv ps P ∧ (∀ b, P b → w.heap.size + 2 ≤ b) ∧ ps.length = i ∧ movM G k 0 (l.take i) b = .ok (ps.map (·.1))

set_option maxHeartbeats 4000000 in
theorem moved_any (fv : Value) (G : Int → Int × Int) (w0 : World) (HV0 : VarCalls fv G w0) :
    ∀ (t : TM) (b : Int) (lo hi : Nat) (A : Option Addr) (cap : Nat) (w : World), IsTerm w lo hi t A cap → hi ≤ w.heap.size → Below w0.heap.size w0 w → tgoodB t = true → t.size ≤ 8192 → 0 ≤ b → b + t.depth ≤ 200 →
    Calls Tryd.prog 61 #[termV t A cap, .int .i64 b, fv] w (GivesT (resU (movT G t b)) w) := by
  have HV := Lib.hid HV0
  clear HV0
  intro t
  induction t using TM.ind with
  | h k n l ih =>
    intro b lo hi A cap w h hhi hw0 hg hsz hb0 hb1
    obtain ⟨i0, hi0, hz0, hz1, hz2⟩ := info_parts infoM
    obtain ⟨hl, hm⟩ := h.bounds
    obtain ⟨g1, g2, g3, g4, g5, g6, g7⟩ := good_parts hg
    rw [tsize_node] at hsz
    rw [tdepth_node] at hb1
    have hll := sizeM_len l
    have hl9 : l.length ≤ 8192 := by omega
    have hb2 : b ≤ 199 := by omega
    have HW0 := Lib.hid (fun (V : World) (hV : Below w.heap.size w V) => hw0.trans (hV.mono hw0.size))
    have HN := Lib.hid h.sub
    by_cases hvar : k = 1 ∧ b ≤ n
    · have e1 : (k == 1) = true := by rw [hvar.1]; rfl
      have e2 : decide (n ≥ b) = true := decide_eq_true hvar.2
      have hw1 : IntKind.i64.wrap (n - b) = n - b := IntWalk.i64_in _ (by omega)
      have HC := Lib.hid (fun (V : World) (hV : Below w.heap.size w V) => HV.out (n - b) b V (HW0.out V hV) (by omega) (by omega) hb0 (by omega))
      have HE := Lib.hid (show movT G (.node k n l) b = varT G (n - b) b by rw [movT_node, if_pos hvar])
      rw [HE.out]
      have HW1 := Lib.hid (fun o1 o2 => ((Below.refl w.heap.size w).alloc (Nat.le_refl _) o1).alloc (by simp) o2)
      obtain ⟨RR, hRR⟩ : ∃ RR, resU (varT G (n - b) b) = RR := ⟨_, rfl⟩
      rw [hRR] at HC ⊢
      unfold maxLen at hm
      clear ih h hvar HE hRR g1 g2 g3 g4 g5 g6 g7 hg hsz hb1 hll hl9 HN hw0 hb2
      rw [termV_node]
      go_enter Tryd.func61, Tryd.ntmps61
      go_wp2_with fail
      refine (HC.out _ (HW1.out _ _)).mono ?_
      rintro e w1 ⟨A', cap', rfl, hn1, hb1⟩
      have hz1 := hb1.size
      simp at hz1
      have BK := (Bk.last (w.alloc (.cells #[.int .i64 k, .int .i64 n, .slice A l.length cap] 24)) 24 #[.int .i64 0, .int .i64 0, .slice none 0 0] (g := w.heap.size + 1) (by simp)).below hb1 (by simp)
      have HB1 := Lib.hid ((HW1.out _ _).trans (hb1.mono (by simp; omega)))
      have hfz : ∀ o, w1.frozen? ⟨w.heap.size + 1, o, none⟩ = false := fun o => BK.cold o
      have d0 : w1.cell? ⟨w.heap.size + 1, 0, none⟩ = some (.int .i64 0) := BK.cell 0
      have d1 : w1.cell? ⟨w.heap.size + 1, 1, none⟩ = some (.int .i64 0) := BK.cell 1
      have d2 : w1.cell? ⟨w.heap.size + 1, 2, none⟩ = some (.slice none 0 0) := BK.cell 2
      rw [termV]
      have B5 := ((BK.at_ 0 (.int .i64 RR.1.k)).at_ 1 (.int .i64 RR.1.n)).at_ 2 (.slice A' RR.1.l.length cap')
      have HS0 := Lib.hid (B5.cell 0)
      have HS1 := Lib.hid (B5.cell 1)
      have HS2 := Lib.hid (B5.cell 2)
      simp at hn1
      have HN1 := Lib.hid hn1
      clear B5 BK hb1 hn1
      go_wp2_with fail
      refine bodyPost_ret (v := .tuple #[.agg #[.int .i64 RR.1.k, .int .i64 RR.1.n, .slice A' RR.1.l.length cap'], .int .i64 RR.2]) (by simp [results, Tryd.results61, go_sem, HS0.out, HS1.out, HS2.out]) rfl ?_
      refine ⟨A', cap', rfl, ((HN1.out.far3 (by omega) _ _ _).wide (by omega) (by simp [World.setCell])), ?_⟩
      exact ((HB1.out.setCell (by simp) _).setCell (by simp) _).setCell (by simp) _
    · have IH := Lib.hid ih
      have HE := Lib.hid (show movT G (.node k n l) b = (match movM G k 0 l b with | .error c => .error c | .ok r => .ok (.node k n r)) by rw [movT_node, if_neg hvar]; cases movM G k 0 l b <;> rfl)
      have HFACT : Hid ((∀ u ∈ l, tgoodB u = true) ∧ sizeM l ≤ 8192 ∧ b + depthM l ≤ 199) := Lib.hid ⟨g7, by omega, by omega⟩
      have hlen2 : l.length ≤ 2 := by have := manyM_le k; omega
      have HSKIP : Hid (((k == 1) = true ∧ decide (n ≥ b) = false) ∨ (k == 1) = false) := Lib.hid (by
        by_cases h1 : k = 1
        · exact .inl ⟨by rw [h1]; rfl, decide_eq_false (fun h2 => hvar ⟨h1, h2⟩)⟩
        · exact .inr (by simpa using h1))
      unfold maxLen at hm
      clear ih h hvar g1 g2 g3 g4 g5 g6 g7 hg hsz hb1 hll hw0
      rw [termV_node]
      go_enter Tryd.func61, Tryd.ntmps61
      rcases HSKIP.out with ⟨e1, e2⟩ | e1
      all_goals
        go_wp2_with fail
        refine ((growM_any l.length hl9 _)).mono ?_
        rintro e w1 ⟨v0, rfl, ho0, hbx⟩
        obtain ⟨a0, cc0, rfl⟩ := own_sliceM ho0
        have hz0' := hbx.size
        simp at hz0'
        have hBK1 : Bk w1 w.heap.size 24 #[.int .i64 k, .int .i64 n, .slice A l.length cap] := ((Bk.new w 24 _).alloc _).below hbx (by simp; omega)
        have hBK2 : Bk w1 (w.heap.size + 1) 24 #[.int .i64 0, .int .i64 0, .slice none 0 0] := (Bk.last (w.alloc (.cells #[.int .i64 k, .int .i64 n, .slice A l.length cap] 24)) 24 #[.int .i64 0, .int .i64 0, .slice none 0 0] (by simp)).below hbx (by simp)
        have hB0 := (((Below.refl w.heap.size w).alloc (Nat.le_refl _) (.cells #[.int .i64 k, .int .i64 n, .slice A l.length cap] 24)).alloc (by simp) (.cells #[.int .i64 0, .int .i64 0, .slice none 0 0] 24)).trans (hbx.mono (by simp; omega))
        have y0 : w1.cell? ⟨w.heap.size, 2, none⟩ = some (.slice A l.length cap) := hBK1.cell 2
        have hl0 : w.heap.size < w1.heap.size := by omega
        have HO0 := Lib.hid ho0
        have HBK1 := Lib.hid hBK1
        have HBK2 := Lib.hid hBK2
        have HB0 := Lib.hid hB0
        clear ho0 hBK1 hBK2 hB0 hbx
        go_wp2_with fail
        go_loopw [8, 38] (MovedRel G w k n b l A cap) (fun _ iv _ => l.length - (intOf iv).toNat)
        case atStart =>
          refine ⟨0, [], fun _ => False, Nat.zero_le _, rfl, HB0.out, HBK1.out, HBK2.out, ⟨?_, fun _ h => h.elim, fun _ h => by cases h⟩, fun _ h => h.elim, rfl, by rw [List.take_zero, movM_nil]; rfl⟩
          have h := HO0.out
          refine ⟨h.1, ?_⟩
          rcases h.2 with h1 | ⟨g, cp, cur, h1, h2, h3⟩
          · exact .inl h1
          · exact .inr ⟨g, cp, cur, h1, by simp at h2; omega, h3⟩
        case round =>
          obtain ⟨i, ps, P, hi1, rfl, hB, b1, b2, hrow, hP, hps, hpl⟩ := hrel
          have hz := hB.size
          have hlt2 := b2.lt
          obtain ⟨a1, c1, rfl⟩ := own_sliceM hrow.row
          have HPS := Lib.hid hps
          have HB1 := Lib.hid b1
          have HB2 := Lib.hid b2
          have HROW := Lib.hid hrow
          have HPP := Lib.hid hP
          have HPL := Lib.hid hpl
          clear b1 b2 hrow hP hpl hps
          by_cases hil : i < l.length
          · obtain ⟨bk, o, F, C, hA, hb1, hb2, hx, hnode⟩ := (HN.out i hil).kept hB hhi
            subst hA
            obtain ⟨x0', x1', x2'⟩ := hx
            have hi1' : (i : Int) < (l.length : Int) := by omega
            have hb01 := bnd_01 k i
            have hst := movM_take G k b hil HPL.out
            have hdep : l[i].depth ≤ depthM l := by
              have h1 := depthM_append (l.take (i + 1)) (l.drop (i + 1))
              rw [List.take_append_drop, depthM_snoc hil] at h1
              omega
            have hsm : l[i].size ≤ 8192 := by have h1 := tsize_mem (List.getElem_mem hil); have h2 := HFACT.out.2.1; omega
            have hih := fun (V : World) (hV : Below w.heap.size w V) h1 h2 => IH.out (l[i]'hil) (List.getElem_mem hil) (b + bnd k i) lo hi F C V h1 h2 (HW0.out V hV) (HFACT.out.1 _ (List.getElem_mem hil)) hsm (by omega) (by have := HFACT.out.2.2; omega)
            obtain ⟨bb, hbb⟩ : ∃ bb, bnd k i = bb := ⟨_, rfl⟩
            have CB := Lib.hid (fun V => binders_any k i V)
            rw [hbb] at hb01 hst hih CB
            obtain ⟨u, hu⟩ : ∃ u, l[i] = u := ⟨_, rfl⟩
            rw [hu] at hst hih hnode x0' x1' x2' hdep hsm
            have hw1 : IntKind.i64.wrap (b + bb) = b + bb := IntWalk.i64_in _ (by omega)
            obtain ⟨x, c, hxc⟩ : ∃ x c, resU (movT G u (b + bb)) = (x, c) := ⟨_, _, rfl⟩
            have HOK : Hid (c = 0 → movM G k 0 (l.take (i + 1)) b = .ok (ps.map (·.1) ++ [x])) := Lib.hid (fun h0 => by
              rw [hst]
              cases e : movT G u (b + bb) with
              | error d => rw [e, resU_error] at hxc; injection hxc with h1 h2; exact absurd (h2.trans h0) (movT_ne G u _ _ e)
              | ok y => rw [e, resU_ok] at hxc; injection hxc with h1 h2; rw [h1])
            have HERR : Hid (c ≠ 0 → resU (movT G (.node k n l) b) = (.node 0 0 [], c)) := Lib.hid (fun h0 => by
              cases e : movT G u (b + bb) with
              | error d =>
                rw [e, resU_error] at hxc
                injection hxc with h1 h2
                rw [e] at hst
                have h3 := movM_err G k b hst
                rw [HE.out, h3, ← h2]; rfl
              | ok y => rw [e, resU_ok] at hxc; injection hxc with h1 h2; exact absurd h2.symm h0)
            have HNO := Lib.hid hnode
            have HIH : Hid (∀ (V : World), Below (wr.alloc (.cells #[.int .i64 u.k, .int .i64 u.n, .slice F u.l.length C] 24)).heap.size (wr.alloc (.cells #[.int .i64 u.k, .int .i64 u.n, .slice F u.l.length C] 24)) V → Calls Tryd.prog 61 #[.agg #[.int .i64 u.k, .int .i64 u.n, .slice F u.l.length C], .int .i64 (b + bb), fv] V fun e w' =>
                ∃ A' cap', e = .returned (.tuple #[.agg #[.int .i64 x.k, .int .i64 x.n, .slice A' x.l.length cap'], .int .i64 c]) ∧ IsTerm w' V.heap.size w'.heap.size x A' cap' ∧ Below V.heap.size V w') := Lib.hid (fun V hV => by
              have hbb := (hB.alloc hz (.cells #[.int .i64 u.k, .int .i64 u.n, .slice F u.l.length C] 24)).trans (hV.mono (by simp; omega))
              have h1 := hih V hbb (HNO.out.kept (((Below.refl wr.heap.size wr).alloc (Nat.le_refl _) (.cells #[.int .i64 u.k, .int .i64 u.n, .slice F u.l.length C] 24)).trans (hV.mono (by simp))) (by omega)) (by have := hV.size; simp at this; omega)
              rw [hxc] at h1
              exact h1)
            have BX1 := (HB1.out.alloc (.cells #[.int .i64 u.k, .int .i64 u.n, .slice F u.l.length C] 24))
            have HXB := Lib.hid (show TBox (wr.alloc (.cells #[.int .i64 u.k, .int .i64 u.n, .slice F u.l.length C] 24)) wr.heap.size u.k u.n (.slice F u.l.length C) from TBox.of (Bk.new wr 24 _))
            have HXT := Lib.hid (show TBox (wr.alloc (.cells #[.int .i64 u.k, .int .i64 u.n, .slice F u.l.length C] 24)) w.heap.size k n (.slice (some ⟨bk, o, none⟩) l.length cap) from TBox.of BX1)
            have hwl : w.heap.size < wr.heap.size := by omega
            have HK := Lib.hid (fun (V : World) (hV : Below (wr.alloc (.cells #[.int .i64 u.k, .int .i64 u.n, .slice F u.l.length C] 24)).heap.size (wr.alloc (.cells #[.int .i64 u.k, .int .i64 u.n, .slice F u.l.length C] 24)) V) => (show V.cell? ⟨wr.heap.size, 0, none⟩ = some (.int .i64 u.k) ∧ V.cell? ⟨wr.heap.size, 1, none⟩ = some (.int .i64 u.n) ∧ V.cell? ⟨wr.heap.size, 2, none⟩ = some (.slice F u.l.length C) ∧ V.cell? ⟨w.heap.size, 0, none⟩ = some (.int .i64 k) from
              ⟨(HXB.out.kept hV (by simp)).c0, (HXB.out.kept hV (by simp)).c1, (HXB.out.kept hV (by simp)).c2, (HXT.out.kept hV (by simp; omega)).c0⟩))
            have HD1 := Lib.hid ((Below.refl (wr.alloc (.cells #[.int .i64 u.k, .int .i64 u.n, .slice F u.l.length C] 24)).heap.size (wr.alloc (.cells #[.int .i64 u.k, .int .i64 u.n, .slice F u.l.length C] 24))).drew)
            have HD2 := Lib.hid (((Below.refl (wr.alloc (.cells #[.int .i64 u.k, .int .i64 u.n, .slice F u.l.length C] 24)).heap.size (wr.alloc (.cells #[.int .i64 u.k, .int .i64 u.n, .slice F u.l.length C] 24))).alloc (Nat.le_refl _) (.cells #[.int .i64 0, .int .i64 0, .slice none 0 0] 24)).drew)
            have HD3 := Lib.hid (((Below.refl (wr.alloc (.cells #[.int .i64 u.k, .int .i64 u.n, .slice F u.l.length C] 24)).heap.size (wr.alloc (.cells #[.int .i64 u.k, .int .i64 u.n, .slice F u.l.length C] 24))).drew).alloc (Nat.le_refl _) (.cells #[.int .i64 0, .int .i64 0, .slice none 0 0] 24))
            have HV2 := Lib.hid (fun (w5 : World) (hb : Below (((wr.alloc (.cells #[.int .i64 u.k, .int .i64 u.n, .slice F u.l.length C] 24)).alloc (.cells #[.int .i64 0, .int .i64 0, .slice none 0 0] 24)).drew).heap.size (((wr.alloc (.cells #[.int .i64 u.k, .int .i64 u.n, .slice F u.l.length C] 24)).alloc (.cells #[.int .i64 0, .int .i64 0, .slice none 0 0] 24)).drew) w5) =>
              (show Bk w5 (wr.heap.size + 1) 24 #[.int .i64 0, .int .i64 0, .slice none 0 0] from (show Bk (((wr.alloc (.cells #[.int .i64 u.k, .int .i64 u.n, .slice F u.l.length C] 24)).alloc (.cells #[.int .i64 0, .int .i64 0, .slice none 0 0] 24)).drew) (wr.heap.size + 1) 24 #[.int .i64 0, .int .i64 0, .slice none 0 0] from Bk.last (wr.alloc (.cells #[.int .i64 u.k, .int .i64 u.n, .slice F u.l.length C] 24)) 24 #[.int .i64 0, .int .i64 0, .slice none 0 0] (by simp)).below hb (by simp)))
            have HV3 := Lib.hid (fun (w5 : World) (hb : Below (((wr.alloc (.cells #[.int .i64 u.k, .int .i64 u.n, .slice F u.l.length C] 24)).drew).alloc (.cells #[.int .i64 0, .int .i64 0, .slice none 0 0] 24)).heap.size (((wr.alloc (.cells #[.int .i64 u.k, .int .i64 u.n, .slice F u.l.length C] 24)).drew).alloc (.cells #[.int .i64 0, .int .i64 0, .slice none 0 0] 24)) w5) =>
              (show Bk w5 (wr.heap.size + 1) 24 #[.int .i64 0, .int .i64 0, .slice none 0 0] from (show Bk (((wr.alloc (.cells #[.int .i64 u.k, .int .i64 u.n, .slice F u.l.length C] 24)).drew).alloc (.cells #[.int .i64 0, .int .i64 0, .slice none 0 0] 24)) (wr.heap.size + 1) 24 #[.int .i64 0, .int .i64 0, .slice none 0 0] from Bk.last (wr.alloc (.cells #[.int .i64 u.k, .int .i64 u.n, .slice F u.l.length C] 24)) 24 #[.int .i64 0, .int .i64 0, .slice none 0 0] (by simp)).below hb (by simp)))
            have HBB := Lib.hid (fun (V w5 : World) (hb : Below V.heap.size V w5) (hV : Below (wr.alloc (.cells #[.int .i64 u.k, .int .i64 u.n, .slice F u.l.length C] 24)).heap.size (wr.alloc (.cells #[.int .i64 u.k, .int .i64 u.n, .slice F u.l.length C] 24)) V) => hV.trans (hb.mono hV.size))
            clear hst hih hnode hdep hsm hbb hu hxc BX1 IH HE
            go_upto_region 7 with fail
            go_cut [11, 12] from 43 to 54 (fun s11 s12 wx => ∃ gv A' cap', s11 = .pointer (some ⟨gv, 0, none⟩) ∧ s12 = .int .i64 c ∧ TBox wx gv x.k x.n (.slice A' x.l.length cap') ∧ Below (wr.alloc (.cells #[.int .i64 u.k, .int .i64 u.n, .slice F u.l.length C] 24)).heap.size (wr.alloc (.cells #[.int .i64 u.k, .int .i64 u.n, .slice F u.l.length C] 24)) wx ∧ IsTerm wx (wr.heap.size + 1) wx.heap.size x A' cap')
            case first =>
              go_region_held3 (fun w' => w'.cell? ⟨wr.heap.size, 0, none⟩ = some (.int .i64 u.k) ∧ w'.cell? ⟨wr.heap.size, 1, none⟩ = some (.int .i64 u.n) ∧ w'.cell? ⟨wr.heap.size, 2, none⟩ = some (.slice F u.l.length C) ∧ w'.cell? ⟨w.heap.size, 0, none⟩ = some (.int .i64 k))
                (first | exact HK.out _ HD1.out | exact HK.out _ HD2.out | exact HK.out _ HD3.out | exact HK.out _ hB5 | exact HK.out _ (hB5.alloc hB5.size _) | exact HK.out _ (((hB5.setCell (by simp) _).setCell (by simp) _).setCell (by simp) _))
                (first
                | (go_at_call 68; refine (CB.out _).mono ?_; rintro e w2 ⟨rfl, rfl⟩)
                | (go_at_call 61
                   refine (HIH.out _ (by first | exact HD1.out | exact HD2.out | exact HD3.out)).mono ?_
                   rintro e w3 ⟨A', cap', rfl, hn3, hb3⟩
                   have hB5 := HBB.out _ _ hb3 (by first | exact HD1.out | exact HD2.out | exact HD3.out)
                   first
                   | (have hbkv := HV2.out _ hb3
                      have hfz : ∀ o, w3.frozen? ⟨wr.heap.size + 1, o, none⟩ = false := fun o => hbkv.cold o
                      have d0 := hbkv.cell 0
                      have d1 := hbkv.cell 1
                      have d2 := hbkv.cell 2
                      simp at d0 d1 d2)
                   | (have hbkv := HV3.out _ hb3
                      have hfz : ∀ o, w3.frozen? ⟨wr.heap.size + 1, o, none⟩ = false := fun o => hbkv.cold o
                      have d0 := hbkv.cell 0
                      have d1 := hbkv.cell 1
                      have d2 := hbkv.cell 2
                      simp at d0 d1 d2)
                   | skip))
              all_goals
                go_wp2_with fail
                go_meet
                case rel =>
                  first
                  | exact ⟨_, A', cap', rfl, rfl, TBox.of (Bk.new w3 _ _), hB5.alloc hB5.size _, (hn3.wide (by simp) (Nat.le_refl _)).late _⟩
                  | exact ⟨_, A', cap', rfl, rfl, TBox.of (((hbkv.at_ 0 (.int .i64 x.k)).at_ 1 (.int .i64 x.n)).at_ 2 (.slice A' x.l.length cap')), ((hB5.setCell (by simp) _).setCell (by simp) _).setCell (by simp) _, (hn3.far3 (by simp) _ _ _).wide (by simp) (by simp [World.setCell])⟩
            case rest =>
            obtain ⟨gv, A', cap', rfl, rfl, htb, hbx, hnx⟩ := hcut
            have hzx := hbx.size
            simp at hzx
            have HTB := Lib.hid htb
            have HNX := Lib.hid hnx
            have HBX := Lib.hid hbx
            have hbw := (hB.alloc hz (.cells #[.int .i64 u.k, .int .i64 u.n, .slice F u.l.length C] 24)).trans (hbx.mono (by simp; omega))
            have HBWC := Lib.hid hbw
            have hwz := hbw.size
            have K2 := (HB2.out.alloc (.cells #[.int .i64 u.k, .int .i64 u.n, .slice F u.l.length C] 24)).below hbx (by simp; omega)
            have K1 := (HB1.out.alloc (.cells #[.int .i64 u.k, .int .i64 u.n, .slice F u.l.length C] 24)).below hbx (by simp; omega)
            have HK1 := Lib.hid K1
            have HK2 := Lib.hid K2
            obtain ⟨v0, v1, v2, vl⟩ := htb
            clear hbx hnx hbw HD1 HD2 HD3 HV2 HV3 HBB HIH CB x0' x1' x2'
            by_cases h0 : c = 0
            · have hst := HOK.out h0
              have t0 : (c != 0) = false := by rw [h0]; rfl
              have HST := Lib.hid hst
              clear hst HOK HERR
              have R1 := ((HROW.out.alloc (.cells #[.int .i64 u.k, .int .i64 u.n, .slice F u.l.length C] 24)).below HBX.out).alloc (.cells #[.int .i64 x.k, .int .i64 x.n, .slice A' x.l.length cap'] 24)
              have HR1 := Lib.hid R1
              have HOW := Lib.hid R1.row
              have hown0 := R1.row.lt
              clear R1 h0
              go_wp2_with (at_builtin; refine wpList_app rfl _ _ 22 rfl (w.heap.size + 2) 24 i0 (.agg #[.int .i64 0, .int .i64 0, .slice none 0 0]) 3 40 Tryd.underlying22 hi0 hz0 hz1 hz2 rfl (by decide) _ _ _ rfl HOW.out (some ⟨wc.heap.size, 0, none⟩) 1 1 (cellsM (x, A', cap')) rfl (src_at _ _ _ (by simp) rfl) (cellsM_one _) ?c3 ?c4 ?c5 ?_)
              case c3 => have := HPS.out; unfold maxLen; omega
              case c4 => have := HPS.out; omega
              case c5 => simp; omega
              rintro v2' w3 ⟨hown3, hg3, ho3⟩
              have hsz3 := hg3.size
              simp at hsz3
              have HRow := Lib.hid (HR1.out.push (Pn := fun b => wr.heap.size + 1 ≤ b ∧ b < wc.heap.size) (p := (x, A', cap')) (HNX.out.alloc (Nat.le_refl _) (.cells #[.int .i64 x.k, .int .i64 x.n, .slice A' x.l.length cap'] 24)) (fun b hb => ⟨by have := hb.2; simp; omega, fun e => by
                have h1 := HROW.out.row.lt b e
                omega⟩) hown3 hg3 ho3)
              have hne : ∀ g, g < w.heap.size + 2 → some g ≠ (Value.slice a1 ps.length c1).ownBlock := fun g hg e => by
                have := hown0 g e.symm
                omega
              have B1 := Lib.hid ((HK1.out.alloc (.cells #[.int .i64 x.k, .int .i64 x.n, .slice A' x.l.length cap'] 24)).grown hg3 (hne _ (by omega)))
              have B2 := Lib.hid ((HK2.out.alloc (.cells #[.int .i64 x.k, .int .i64 x.n, .slice A' x.l.length cap'] 24)).grown hg3 (hne _ (by omega)))
              have HB4 := Lib.hid ((HBWC.out.alloc hwz (.cells #[.int .i64 x.k, .int .i64 x.n, .slice A' x.l.length cap'] 24)).grown hg3 (by simp; omega) (fun g e => by have := hown0 g e; omega))
              clear hown3 hg3 ho3 hown0 hne
              go_wp2_with fail
              go_roundw
              case rel =>
                refine ⟨i + 1, ps ++ [(x, A', cap')], fun b => P b ∨ (wr.heap.size + 1 ≤ b ∧ b < wc.heap.size), by omega, rfl, HB4.out, B1.out, B2.out, HRow.out, ?_, by have := HPS.out; simp; omega, ?_⟩
                · intro b hb
                  rcases hb with hb | hb
                  · exact HPP.out b hb
                  · omega
                · rw [List.map_append]; exact HST.out
              case measure => simp [intOf]; omega
            · have herr := HERR.out h0
              have t0 : (c != 0) = true := by simpa using h0
              have HER := Lib.hid herr
              have hfz : ∀ o, wc.frozen? ⟨w.heap.size + 1, o, none⟩ = false := fun o => K2.cold o
              have d0 : wc.cell? ⟨w.heap.size + 1, 0, none⟩ = some (.int .i64 0) := K2.cell 0
              have d1 : wc.cell? ⟨w.heap.size + 1, 1, none⟩ = some (.int .i64 0) := K2.cell 1
              have d2 : wc.cell? ⟨w.heap.size + 1, 2, none⟩ = some (.slice none 0 0) := K2.cell 2
              have B5 := ((K2.at_ 0 (.int .i64 0)).at_ 1 (.int .i64 0)).at_ 2 (.slice none 0 0)
              have HS0 := Lib.hid (B5.cell 0)
              have HS1 := Lib.hid (B5.cell 1)
              have HS2 := Lib.hid (B5.cell 2)
              clear herr HOK HERR K2 K1 B5 h0
              go_wp2_with fail
              refine bodyPost_ret (v := .tuple #[.agg #[.int .i64 0, .int .i64 0, .slice none 0 0], .int .i64 c]) (by simp [results, Tryd.results61, go_sem, HS0.out, HS1.out, HS2.out]) rfl ?_
              rw [HER.out]
              exact GivesT.zero (((HBWC.out.setCell (by simp) _).setCell (by simp) _).setCell (by simp) _)
          · obtain rfl : i = l.length := by omega
            have HFULL : Hid (resU (movT G (.node k n l) b) = (.node k n (ps.map (·.1)), 0)) := Lib.hid (by
              have := HPL.out
              rw [List.take_length] at this
              rw [HE.out, this]; rfl)
            have hpar := HROW.out.parent (lo := w.heap.size + 2) (Nat.le_refl _) (fun b hb => HPP.out b hb) k n
            have HPAR := Lib.hid hpar
            have hfz : ∀ o, wr.frozen? ⟨w.heap.size + 1, o, none⟩ = false := fun o => HB2.out.cold o
            have hfz1 : wr.frozen? ⟨w.heap.size, 2, none⟩ = false := HB1.out.cold 2
            have d0 : wr.cell? ⟨w.heap.size + 1, 0, none⟩ = some (.int .i64 0) := HB2.out.cell 0
            have d1 : wr.cell? ⟨w.heap.size + 1, 1, none⟩ = some (.int .i64 0) := HB2.out.cell 1
            have d2 : wr.cell? ⟨w.heap.size + 1, 2, none⟩ = some (.slice none 0 0) := HB2.out.cell 2
            have f0 : wr.cell? ⟨w.heap.size, 0, none⟩ = some (.int .i64 k) := HB1.out.cell 0
            have f1 : wr.cell? ⟨w.heap.size, 1, none⟩ = some (.int .i64 n) := HB1.out.cell 1
            have f2 : wr.cell? ⟨w.heap.size, 2, none⟩ = some (.slice A l.length cap) := HB1.out.cell 2
            have B5 := (((HB2.out.far (a := ⟨w.heap.size, 2, none⟩) (by simp) (.slice a1 ps.length c1)).at_ 0 (.int .i64 k)).at_ 1 (.int .i64 n)).at_ 2 (.slice a1 ps.length c1)
            have HS0 := Lib.hid (B5.cell 0)
            have HS1 := Lib.hid (B5.cell 1)
            have HS2 := Lib.hid (B5.cell 2)
            clear hpar B5
            go_wp2_with fail
            refine bodyPost_ret (v := .tuple #[.agg #[.int .i64 k, .int .i64 n, .slice a1 ps.length c1], .int .i64 0]) (by simp [results, Tryd.results61, go_sem, HS0.out, HS1.out, HS2.out]) rfl ?_
            rw [HFULL.out]
            refine ⟨a1, c1, by rw [termV_node, List.length_map], ?_, ?_⟩
            · exact ((HPAR.out.setFar (by simp) _).far3 (by omega) _ _ _).wide (by omega) (by simp [World.setCell])
            · exact (((hB.setCell (by simp) _).setCell (by simp) _).setCell (by simp) _).setCell (by simp) _

end Go.Proofs.YtcobionbgiaomaaDoor
