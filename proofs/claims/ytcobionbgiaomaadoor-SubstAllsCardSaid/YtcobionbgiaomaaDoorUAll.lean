/- subst.All over a list of terms: each with the others put in, in memory of its own, or the first one's error. -/
import Derived.Test.YtcobionbgiaomaaDoorUMany
import Derived.Test.YtcobionbgiaomaaDoorLTerms
import Derived.Test.YtcobionbgiaomaaDoorLRef
import Derived.Deep.RegionHeld3
import Derived.Deep.CutRange
namespace Go.Proofs.YtcobionbgiaomaaDoor
open Go.RowKit
set_option linter.unusedVariables false
set_option maxRecDepth 100000

/-- The first one's error. -/
def errU (ls : List TM) : List TM → Int
  | [] => 0
  | t :: r => if (manyX t ls).2 = 0 then errU ls r else (manyX t ls).2
def okU (ls : List TM) (l : List TM) : Bool := l.all fun t => decide ((manyX t ls).2 = 0)
def mapU (ls : List TM) (l : List TM) : List TM := l.map fun t => (manyX t ls).1
theorem errU_ok (ls : List TM) : ∀ l : List TM, okU ls l = true → errU ls l = 0
  | [], _ => rfl
  | t :: r, h => by
    unfold okU at h
    rw [List.all_cons, Bool.and_eq_true, decide_eq_true_eq] at h
    rw [errU, if_pos h.1, errU_ok ls r h.2]
theorem errU_at (ls : List TM) : ∀ (l : List TM) (i : Nat) (h : i < l.length), okU ls (l.take i) = true → (manyX l[i] ls).2 ≠ 0 → errU ls l = (manyX l[i] ls).2
  | t :: r, 0, _, _, hne => by rw [errU, if_neg (show ¬ (manyX t ls).2 = 0 from hne)]; rfl
  | t :: r, i + 1, h, ho, hne => by
    unfold okU at ho
    rw [List.take_succ_cons, List.all_cons, Bool.and_eq_true, decide_eq_true_eq] at ho
    rw [errU, if_pos ho.1]
    exact errU_at ls r i (by simpa using h) ho.2 hne
theorem okU_take (ls : List TM) {l : List TM} {i : Nat} (h : i < l.length) (ho : okU ls (l.take i) = true) (hz : (manyX l[i] ls).2 = 0) : okU ls (l.take (i + 1)) = true := by
  unfold okU at ho ⊢
  rw [take_snocM h, List.all_append, ho, List.all_cons, decide_eq_true hz]; rfl
theorem mapU_take (ls : List TM) {l : List TM} {i : Nat} (h : i < l.length) : mapU ls (l.take (i + 1)) = mapU ls (l.take i) ++ [(manyX l[i] ls).1] := by
  unfold mapU; rw [take_snocM h, List.map_append]; rfl

def UAllIs (ts : List TM) (ls : List TM) (w : World) (e : Ending) (w' : World) : Prop :=
  ((errU ls ts = 0 ∧ ∃ A c, e = .returned (.tuple #[.slice A ts.length c, .int .i64 0]) ∧ IsTerms w' w.heap.size w'.heap.size (mapU ls ts) A c) ∨
   (errU ls ts ≠ 0 ∧ e = .returned (.tuple #[.slice none 0 0, .int .i64 (errU ls ts)]))) ∧ Below w.heap.size w w'
def UAllRel (ts : List TM) (ls : List TM) (w : World) (nv iv : Value) (wr : World) : Prop :=
  ∃ (i : Nat) (ps : List (TM × Option Addr × Nat)) (P : Nat → Prop), i ≤ ts.length ∧ iv = .int .i64 i ∧ Below w.heap.size w wr ∧
    TermRow wr w.heap.size 24 nv ps P ∧ (∀ b, P b → w.heap.size ≤ b) ∧ ps.length = i ∧ ps.map (·.1) = mapU ls (ts.take i) ∧ okU ls (ts.take i) = true

theorem ownsRow_base9 {w : World} {base base' : Nat} {e : TypeId} {size : Nat} {v : Value} {n : Nat} {xs : List Value} (h : w.ownsRow base e size v n xs) (hb : base' ≤ base) : w.ownsRow base' e size v n xs := by
  refine ⟨h.1, ?_⟩
  rcases h.2 with h1 | ⟨g, cap, cur, h1, h2, h3⟩
  · exact .inl h1
  · exact .inr ⟨g, cap, cur, h1, by omega, h3⟩
theorem many_shape {t : TM} {ls : List TM} (h : (shapedB t && ls.all shapedB) = false) : manyX t ls = (.node 0 0 [], 5) := by unfold manyX; rw [h]; rfl
theorem many_go {t : TM} {ls : List TM} (h1 : shapedB t = true) (h2 : ls.all shapedB = true) : manyX t ls = changedX (firstG ls) t := by
  unfold manyX; rw [h1, h2, if_pos (show (true && true) = true from rfl), changedX_eq (fair_first h2) h1]
theorem errU_shape {ls : List TM} (h : ls.all shapedB = false) : ∀ ts : List TM, 0 < ts.length → errU ls ts = 5
  | t :: r, _ => by
    have e : (shapedB t && ls.all shapedB) = false := by rw [h]; simp
    rw [errU, many_shape e, if_neg (show ¬ (5 : Int) = 0 by omega)]

set_option maxHeartbeats 4000000 in
theorem uall_any (ts : List TM) (lo hi : Nat) (A : Option Addr) (cap : Nat) (ls : List TM) (lo2 hi2 : Nat) (L : Option Addr) (capL : Nat) (w : World) (h : IsTerms w lo hi ts A cap) (hhi : hi ≤ w.heap.size) (h2 : IsTerms w lo2 hi2 ls L capL) (hhi2 : hi2 ≤ w.heap.size) (hl4 : ls.length ≤ 4000000000) (hS : ShapesM w) (hlen : ts.length ≤ 8000) :
    Calls Tryd.prog 23 #[.slice A ts.length cap, .slice L ls.length capL] w (UAllIs ts ls w) := by
  obtain ⟨i0, hi0, hz0, hz1, hz2⟩ := info_parts infoM
  obtain ⟨hl, hm⟩ := h.bounds
  have HN := Lib.hid h.sub
  have HHI := Lib.hid hhi
  have HS := Lib.hid (fun (V : World) (hV : Below w.heap.size w V) => hS.kept hV)
  have H2 := Lib.hid (fun (V : World) (hV : Below w.heap.size w V) => (show IsTerm V lo2 hi2 (.node 0 0 ls) L capL ∧ hi2 ≤ V.heap.size from ⟨h2.kept hV hhi2, by have := hV.size; omega⟩))
  have HL4 := Lib.hid hl4
  have CSH := Lib.hid (sshaped_any ls lo2 hi2 L capL w h2 hhi2 hS)
  obtain ⟨bl, hbl⟩ : ∃ bl, ls.all shapedB = bl := ⟨_, rfl⟩
  rw [hbl] at CSH
  have HBL := Lib.hid hbl
  unfold maxLen at hm
  clear h hhi hS h2 hhi2 hl4 hbl
  go_enter Tryd.func23, Tryd.ntmps23
  by_cases h0 : 0 < ts.length
  rotate_left
  · have hz : ts.length = 0 := by omega
    have hnil : ts = [] := List.length_eq_zero_iff.1 hz
    subst hnil
    have HE := Lib.hid (show errU ls [] = 0 from rfl)
    have HMP := Lib.hid (show mapU ls [] = [] from rfl)
    have CG := Lib.hid (growM_any 0 (by omega) w)
    simp only [List.length_nil]
    clear HN CSH h0 hz
    go_wp2_with fail
    refine CG.out.mono ?_
    rintro e w1 ⟨v0, rfl, ho0, hbx⟩
    obtain ⟨a0, cc0, rfl⟩ := own_sliceM ho0
    have HO0 := Lib.hid ho0
    have HB0 := Lib.hid hbx
    clear ho0 hbx
    go_wp2_with fail
    go_loopw [6, 24] (fun nv iv wr => nv = .slice a0 0 cc0 ∧ iv = .int .i64 0 ∧ wr = w1) (fun _ _ _ => 0)
    case atStart => exact ⟨rfl, rfl, rfl⟩
    case round =>
      obtain ⟨rfl, rfl, rfl⟩ := hrel
      go_wp2_with fail
      go_ret2
      refine ⟨.inl ⟨HE.out, a0, cc0, rfl, ?_⟩, HB0.out⟩
      rw [HMP.out]
      exact leaf_any _ _ _ _ (by
        rcases HO0.out.2 with ⟨h1, h2⟩ | ⟨g, c, cur, h1, _, _, h2, h3, _⟩
        · injection h1 with _ _ h3; subst h3; exact Nat.zero_le _
        · injection h1 with _ _ h4; subst h4; exact h3)
  · have hp0 : (0 : Int) < (ts.length : Int) := by omega
    have HP0 := Lib.hid h0
    clear h0
    go_wp2_with fail
    refine CSH.out.mono ?_
    rintro e w0 ⟨rfl, hb0⟩
    have HB00 := Lib.hid hb0
    clear hb0
    cases bl with
    | false =>
      have HE := Lib.hid (errU_shape HBL.out ts HP0.out)
      go_wp2_with fail
      go_ret2
      exact ⟨.inr ⟨by rw [HE.out]; omega, by rw [HE.out]; rfl⟩, HB00.out⟩
    | true =>
    go_wp2_with fail
    refine ((growM_any ts.length (by omega) _)).mono ?_
    rintro e w1 ⟨v0, rfl, ho0, hbx⟩
    obtain ⟨a0, cc0, rfl⟩ := own_sliceM ho0
    have hz00 := HB00.out.size
    have HO0 := Lib.hid (ownsRow_base9 ho0 (base' := w.heap.size) hz00)
    have HB0 := Lib.hid (HB00.out.trans (hbx.mono hz00))
    have hzx := hbx.size
    clear ho0 hbx
    go_wp2_with fail
    go_loopw [6, 24] (UAllRel ts ls w) (fun _ iv _ => ts.length - (intOf iv).toNat)
    case atStart => exact ⟨0, [], fun _ => False, Nat.zero_le _, rfl, HB0.out, ⟨HO0.out, fun _ h => h.elim, fun _ h => by cases h⟩, fun _ h => h.elim, rfl, rfl, rfl⟩
    case round =>
      obtain ⟨i, ps, P, hi1, rfl, hB, hrow, hP, hps, hpl, hok⟩ := hrel
      have hz := hB.size
      obtain ⟨a1, c1, rfl⟩ := own_sliceM hrow.row
      have HPS := Lib.hid hps
      have HROW := Lib.hid hrow
      have HPP := Lib.hid hP
      have HPL := Lib.hid hpl
      have HOK := Lib.hid hok
      have HBB := Lib.hid hB
      clear hrow hP hpl hps hok
      by_cases hil : i < ts.length
      · obtain ⟨bk, o, F, C, hA, hb1, hb2, hx, hnode⟩ := (HN.out i hil).kept hB HHI.out
        subst hA
        obtain ⟨x0', x1', x2'⟩ := hx
        have hi1' : (i : Int) < (ts.length : Int) := by omega
        have hi0' : (0 : Int) ≤ (i : Int) := by omega
        have hbw : bk < wr.heap.size := by have := HHI.out; omega
        have hmt := mapU_take ls hil
        have hst := okU_take ls hil HOK.out
        have her := errU_at ls ts i hil HOK.out
        obtain ⟨x, c, hxc⟩ : ∃ x c, manyX ts[i] ls = (x, c) := ⟨_, _, rfl⟩
        rw [hxc] at hmt hst her
        obtain ⟨u, hu⟩ : ∃ u, ts[i] = u := ⟨_, rfl⟩
        rw [hu] at hnode x0' x1' x2' hxc
        have HMT := Lib.hid hmt
        have HST := Lib.hid hst
        have HER := Lib.hid her
        have HNODE := Lib.hid hnode
        obtain ⟨bu, hbu⟩ : ∃ bu, shapedB u = bu := ⟨_, rfl⟩
        have HC1 := Lib.hid (shaped_any u lo hi F C (wr.alloc (.cells #[.int .i64 u.k, .int .i64 u.n, .slice F u.l.length C] 24)) (hnode.alloc (by have := HHI.out; omega) _) (by have := HHI.out; simp; omega) (HS.out _ (HBB.out.alloc hz _)))
        rw [hbu] at HC1
        have HX0 := Lib.hid (fun (h : bu = false) => (show (x, c) = (.node 0 0 [], 5) from hxc.symm.trans (many_shape (by rw [hbu, h]; rfl))))
        have HX1 := Lib.hid (fun (h : bu = true) => (show changedX (firstG ls) u = (x, c) from (many_go (hbu.trans h) HBL.out).symm.trans hxc))
        have HSB := Lib.hid (fun (h : bu = true) => hbu.trans h)
        have HWA := Lib.hid (fun o => (Below.refl wr.heap.size wr).alloc (Nat.le_refl _) o)
        have HKU := Lib.hid (fun (V : World) (hV : Below (wr.alloc (.cells #[.int .i64 u.k, .int .i64 u.n, .slice F u.l.length C] 24)).heap.size (wr.alloc (.cells #[.int .i64 u.k, .int .i64 u.n, .slice F u.l.length C] 24)) V) => (show Bk V wr.heap.size 24 #[.int .i64 u.k, .int .i64 u.n, .slice F u.l.length C] from (Bk.new wr 24 _).below hV (by simp)))
        unfold termV at HC1
        clear hmt hst her hxc hu hnode hbu
        go_wp2_with fail
        refine HC1.out.mono ?_
        rintro e w2 ⟨rfl, hb2'⟩
        have hz2' := hb2'.size
        simp at hz2'
        have K2 := HKU.out _ hb2'
        have u0 : w2.cell? ⟨wr.heap.size, 0, none⟩ = some (.int .i64 u.k) := K2.cell 0
        have u1 : w2.cell? ⟨wr.heap.size, 1, none⟩ = some (.int .i64 u.n) := K2.cell 1
        have u2 : w2.cell? ⟨wr.heap.size, 2, none⟩ = some (.slice F u.l.length C) := K2.cell 2
        have hbb := (HWA.out (.cells #[.int .i64 u.k, .int .i64 u.n, .slice F u.l.length C] 24)).trans (hb2'.mono (by simp))
        have HB2 := Lib.hid hbb
        have HBW := Lib.hid (HBB.out.trans (hbb.mono hz))
        have HK2 := Lib.hid K2
        clear hb2' hbb x0' x1' x2' K2 HC1 HKU
        cases bu with
        | false =>
          have hx0 := HX0.out rfl
          injection hx0 with hx1 hx2
          subst hx1; subst hx2
          have HE := Lib.hid (HER.out (by decide))
          go_wp2_with fail
          go_ret2
          exact ⟨.inr ⟨by rw [HE.out]; decide, by rw [HE.out]; rfl⟩, HBW.out⟩
        | true =>
          have HX1' := HX1.out rfl
          have HSB' := HSB.out rfl
          have hlt2 : wr.heap.size < w2.heap.size := by omega
          have CFI := Lib.hid (fun V => sfirst_any L ls.length capL V)
          have CCH := Lib.hid (fun (V : World) (gb : Nat) (hV : Below w2.heap.size w2 V) (hgb : V.cell? ⟨gb, 0, none⟩ = some (.slice L ls.length capL)) => (show Calls Tryd.prog 32 #[.agg #[.int .i64 u.k, .int .i64 u.n, .slice F u.l.length C], .func (.func 55) #[] #[.pointer (some ⟨gb, 0, none⟩)]] V (GivesT (x, c) V) from by
            have hVr := HB2.out.trans (hV.mono HB2.out.size)
            have hVw := HBW.out.trans (hV.mono HBW.out.size)
            obtain ⟨q1, q2⟩ := H2.out V hVw
            have := changed_first gb (firstG ls) u lo hi F C V (HNODE.out.kept hVr (by have := HHI.out; omega)) (by have := hVw.size; have := HHI.out; omega) (HS.out V hVw) HSB' (bec_first gb ls lo2 hi2 L capL V q1 q2 HL4.out (HS.out V hVw) hgb)
            rw [HX1'] at this
            exact this))
          have HK := Lib.hid (fun (V : World) (hV : Below w2.heap.size w2 V) => (show V.cell? ⟨wr.heap.size, 0, none⟩ = some (.int .i64 u.k) ∧ V.cell? ⟨wr.heap.size, 1, none⟩ = some (.int .i64 u.n) ∧ V.cell? ⟨wr.heap.size, 2, none⟩ = some (.slice F u.l.length C) from ⟨(HK2.out.below hV hlt2).cell 0, (HK2.out.below hV hlt2).cell 1, (HK2.out.below hV hlt2).cell 2⟩))
          unfold GivesT termV at CCH
          clear HX0 HX1 HSB HX1' HSB'
          go_upto_region 9 with fail
          go_cut [9, 10] from 31 to 37 (fun s9 s10 wx => ∃ gv A' cap', s9 = .pointer (some ⟨gv, 0, none⟩) ∧ s10 = .int .i64 c ∧ TBox wx gv x.k x.n (.slice A' x.l.length cap') ∧ Below w2.heap.size w2 wx ∧ IsTerm wx w2.heap.size wx.heap.size x A' cap')
          case first =>
            go_region_held3 (fun w' => w'.cell? ⟨wr.heap.size, 0, none⟩ = some (.int .i64 u.k) ∧ w'.cell? ⟨wr.heap.size, 1, none⟩ = some (.int .i64 u.n) ∧ w'.cell? ⟨wr.heap.size, 2, none⟩ = some (.slice F u.l.length C))
              (first | exact HK.out _ hB5.out | exact HK.out _ (hB5.out.alloc hB5.out.size _) | exact HK.out _ (((hB5.out.setCell (by simp <;> omega) _).setCell (by simp <;> omega) _).setCell (by simp <;> omega) _) | exact HK.out _ (by repeat first | exact Below.refl _ _ | refine Below.drew ?_ | refine Below.alloc ?_ (by simp <;> omega) _))
              (first
              | (go_at_call 33; refine (CFI.out _).mono ?_; rintro e w4 ⟨rfl, rfl⟩)
              | (go_at_call 32
                 refine (CCH.out _ _ (by repeat first | exact Below.refl _ _ | refine Below.drew ?_ | refine Below.alloc ?_ (by simp <;> omega) _) (by first | exact (Bk.last _ _ _ rfl).cell 0 | exact ((Bk.last _ _ _ rfl).alloc _).cell 0 | simp)).mono ?_
                 rintro e w5 ⟨A', cap', rfl, hn3, hb3⟩
                 have hB5 := Lib.hid (show Below w2.heap.size w2 w5 from Below.trans (by repeat first | exact Below.refl _ _ | refine Below.drew ?_ | refine Below.alloc ?_ (by simp <;> omega) _) (hb3.mono (by simp <;> omega)))
                 first
                 | (have hbkv : Bk w5 w2.heap.size 24 #[.int .i64 0, .int .i64 0, .slice none 0 0] := Bk.below (by first | exact Bk.last _ _ _ rfl | exact (Bk.last _ _ _ rfl).alloc _) hb3 (by simp <;> omega)
                    have hfz : ∀ o, w5.frozen? ⟨w2.heap.size, o, none⟩ = false := fun o => hbkv.cold o
                    have d0 := hbkv.cell 0
                    have d1 := hbkv.cell 1
                    have d2 := hbkv.cell 2
                    simp at d0 d1 d2)
                 | (have hbkv : Bk w5 (w2.heap.size + 1) 24 #[.int .i64 0, .int .i64 0, .slice none 0 0] := Bk.below (by first | exact Bk.last _ _ _ (by simp) | exact (Bk.last _ _ _ (by simp)).alloc _) hb3 (by simp <;> omega)
                    have hfz : ∀ o, w5.frozen? ⟨w2.heap.size + 1, o, none⟩ = false := fun o => hbkv.cold o
                    have d0 := hbkv.cell 0
                    have d1 := hbkv.cell 1
                    have d2 := hbkv.cell 2
                    simp at d0 d1 d2)
                 | skip))
            all_goals
              go_wp2_with fail
              go_meet
              case rel =>
                first
                | exact ⟨_, A', cap', rfl, rfl, TBox.of (Bk.new w5 _ _), hB5.out.alloc hB5.out.size _, (hn3.wide (by simp <;> omega) (Nat.le_refl _)).late _⟩
                | exact ⟨_, A', cap', rfl, rfl, TBox.of (((hbkv.at_ 0 (.int .i64 x.k)).at_ 1 (.int .i64 x.n)).at_ 2 (.slice A' x.l.length cap')), ((hB5.out.setCell (by simp <;> omega) _).setCell (by simp <;> omega) _).setCell (by simp <;> omega) _, (hn3.far3 (by simp <;> omega) _ _ _).wide (by simp <;> omega) (by simp [World.setCell])⟩
          case rest =>
          obtain ⟨gv, A', cap', rfl, rfl, htb, hbx, hnx⟩ := hcut
          have hzx' := hbx.size
          have HNX := Lib.hid hnx
          have HBX := Lib.hid (HB2.out.trans (hbx.mono HB2.out.size))
          have HBWC := Lib.hid (HBW.out.trans (hbx.mono HBW.out.size))
          obtain ⟨v0, v1, v2, vl⟩ := htb
          clear hbx hnx CCH CFI HK u0 u1 u2
          by_cases h0 : c = 0
          · have hst := HST.out h0
            have t0 : (c != 0) = false := by rw [h0]; rfl
            have HST2 := Lib.hid hst
            have R1 := (HROW.out.below HBX.out).alloc (.cells #[.int .i64 x.k, .int .i64 x.n, .slice A' x.l.length cap'] 24)
            have HR1 := Lib.hid R1
            have HOW := Lib.hid R1.row
            have hown0 := R1.row.lt
            clear R1 h0 hst HST
            go_wp2_with (at_builtin; refine wpList_app rfl _ _ 22 rfl w.heap.size 24 i0 (.agg #[.int .i64 0, .int .i64 0, .slice none 0 0]) 3 40 Tryd.underlying22 hi0 hz0 hz1 hz2 rfl (by decide) _ _ _ rfl HOW.out (some ⟨wc.heap.size, 0, none⟩) 1 1 (cellsM (x, A', cap')) rfl (src_at _ _ _ (by simp) rfl) (cellsM_one _) ?c3 ?c4 ?c5 ?_)
            case c3 => have := HPS.out; unfold maxLen; omega
            case c4 => have := HPS.out; omega
            case c5 => simp; omega
            rintro v2' w3 ⟨hown3, hg3, ho3⟩
            have HRow := Lib.hid (HR1.out.push (Pn := fun b => wr.heap.size ≤ b ∧ b < wc.heap.size) (p := (x, A', cap')) ((HNX.out.wide (by omega) (Nat.le_refl _)).alloc (Nat.le_refl _) _) (fun b hb => ⟨by have := hb.2; simp; omega, fun e => by
              have h1 := HROW.out.row.lt b e
              omega⟩) hown3 hg3 ho3)
            have HB4 := Lib.hid ((HBWC.out.alloc HBWC.out.size (.cells #[.int .i64 x.k, .int .i64 x.n, .slice A' x.l.length cap'] 24)).grown hg3 (by have := HBWC.out.size; simp; omega) (fun g e => by have := hown0 g e; omega))
            clear hown3 hg3 ho3 hown0
            go_wp2_with fail
            go_roundw
            case rel =>
              refine ⟨i + 1, ps ++ [(x, A', cap')], fun b => P b ∨ (wr.heap.size ≤ b ∧ b < wc.heap.size), by omega, by go_num, HB4.out, HRow.out, ?_, by have := HPS.out; simp; omega, ?_, HST2.out⟩
              · intro b hb
                rcases hb with hb | hb
                · exact HPP.out b hb
                · omega
              · rw [List.map_append, HPL.out, HMT.out]; rfl
            case measure => simp [intOf]; omega
          · have t0 : (c != 0) = true := by simpa using h0
            have HE := Lib.hid (HER.out h0)
            have HNE := Lib.hid h0
            clear h0 HER HST
            go_wp2_with fail
            go_ret2
            refine ⟨.inr ⟨by rw [HE.out]; exact HNE.out, by rw [HE.out]; rfl⟩, HBWC.out⟩
      · obtain rfl : i = ts.length := by omega
        have HFULL : Hid (ps.map (·.1) = mapU ls ts) := Lib.hid (by rw [HPL.out, List.take_length])
        have HZ : Hid (errU ls ts = 0) := Lib.hid (errU_ok ls ts (by have := HOK.out; rwa [List.take_length] at this))
        have hpar := HROW.out.parent (lo := w.heap.size) (Nat.le_refl _) (fun b hb => HPP.out b hb) 0 0
        rw [HFULL.out] at hpar
        have HPAR := Lib.hid hpar
        clear hpar
        go_wp2_with fail
        go_ret2
        exact ⟨.inl ⟨HZ.out, a1, c1, by rw [HPS.out]; rfl, HPAR.out⟩, HBB.out⟩

end Go.Proofs.YtcobionbgiaomaaDoor
