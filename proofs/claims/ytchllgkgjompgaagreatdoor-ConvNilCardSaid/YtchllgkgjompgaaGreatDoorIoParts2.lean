/- sign.parts: the walk. -/
import Derived.Test.YtchllgkgjompgaaGreatDoorI1
namespace Go.Proofs.YtchllgkgjompgaaGreatDoor
open Go.RowKit
set_option linter.unusedVariables false
set_option maxRecDepth 100000

def GivesCo (c : CoT) (w : World) (e : Ending) (w' : World) : Prop := ∃ v0 v1 v2, e = .returned (.agg #[v0, v1, v2]) ∧ ConV w' w.heap.size w'.heap.size c v0 v1 v2 ∧ Below w.heap.size w w'
def PartsRel (ts ix : List TM) (d : Int) (ps mo : Nat) (gC : Nat) (F : Option Addr) (C : Nat) (G : Option Addr) (D : Nat) (Z : World) (iv : Value) (wr : World) : Prop :=
  ∃ (i : Nat) (rs : List (RcT × Value × Value)) (P : Nat → Prop) (Ar : Option Addr) (cr : Nat), i ≤ ts.length ∧ iv = .int .i64 i ∧ Below gC Z wr ∧ Z.heap.size ≤ wr.heap.size ∧ Bk wr gC 177 #[.slice F ts.length C, .slice G ix.length D, .slice Ar rs.length cr] ∧
    RcRow wr (gC + 1) (.slice Ar rs.length cr) rs P ∧ (∀ b, P b → gC < b) ∧ rs.map (·.1) = recsT d ps mo ts i

set_option maxHeartbeats 16000000 in
theorem parts_any (l : List ET) (A : Option Addr) (cap lo hi m : Nat) (hm : m < l.length) (w : World) (hl : l.length ≤ 600) (hn : EntsAt w lo hi A l) (hhi : hi ≤ w.heap.size) (hf : formedB l = true) (hk : l[m].k = 2) (hS : ShapesM w) :
    Calls Tryz.prog 137 #[.slice A l.length cap, .int .i64 m] w (GivesCo (partsAt l m) w) := by
  obtain ⟨i0, hi0, hz0, hz1, hz2⟩ := info_parts infoRcc
  obtain ⟨d, hd, hc⟩ := con_facts hf hm hk
  obtain ⟨b, o, p, hA, hb1, hb2, hx, hent⟩ := hn m hm
  have htf := tel_facts hc.sh
  obtain ⟨n, hnn⟩ : ∃ n, (telT l[m].t).length = n := ⟨_, rfl⟩
  have hpn : pisN l[m].t = n := htf.1.symm.trans hnn
  have hn24 : n ≤ 24 := by have := hc.n24; omega
  obtain ⟨a, hae⟩ : ∃ a : Nat, l[m].a = (a : Int) := ⟨l[m].a.toNat, by have := hc.a; have := hc.a0; omega⟩
  have han : a ≤ n := by have := hc.an; omega
  have hda : l[d].a.toNat = a := by rw [← hc.a, hae]; rfl
  obtain ⟨mo, hmo⟩ : ∃ mo : Nat, l[d].i.toNat = mo := ⟨_, rfl⟩
  have hfd := hc.f
  have hPT : partsAt l m = ⟨(telT l[m].t).drop a, (argsT (benT l[m].t)).drop a, recsT (d : Int) a mo ((telT l[m].t).drop a) ((telT l[m].t).drop a).length⟩ := by
    unfold partsAt
    rw [List.getElem?_eq_getElem hm]
    simp only
    unfold partsT moOf
    rw [famAt_nat hfd hd, hae, hfd, Int.toNat_natCast]
    simp only [hmo]
  have CW := Lib.hid (fun (V : World) (hV : Below w.heap.size w V) => whole_any l[m].t p.T p.tc V ((hent.ht.kept hV hhi).wide (Nat.zero_le _) (by have := hV.size; omega)) (hS.kept hV))
  rw [whole_few hc.sh hc.n24] at CW
  have CI := Lib.hid (fun (D : Option Addr) (dd lo1 hi1 : Nat) (V : World) (hV : Below w.heap.size w V) (h : IsTerm V lo1 hi1 (benT l[m].t) D dd) (hh1 : hi1 ≤ V.heap.size) => (indP_any l A cap d hd (benT l[m].t) D dd n lo hi lo1 hi1 V hl (hn.kept hV hhi) (by have := hV.size; omega) h hh1 (hS.kept hV) htf.2.2.1 hc.a0 hc.i0 hc.ai (by rw [← hc.a, hae]; omega) (by omega)))
  have happ := hc.app
  rw [hfd, hae, Int.toNat_natCast, hpn] at happ
  rw [hda, happ] at CI
  have CR := Lib.hid (fun (t : TM) (F : Option Addr) (C lo1 hi1 q : Nat) (V : World) (hV : Below w.heap.size w V) (h : IsTerm V lo1 hi1 t F C) (hh1 : hi1 ≤ V.heap.size) (hs : shapedB t = true) (hq : a ≤ q) (hq2 : q ≤ 100) => (show Calls Tryz.prog 167 #[.slice A l.length cap, .int .i64 (d : Int), termV t F C, .int .i64 (q : Int)] V (GivesRc (recT d a mo t q) V) from by
    have := rec13_any l A cap d hd t F C q lo hi lo1 hi1 V hl (hn.kept hV hhi) (by have := hV.size; omega) h hh1 (hS.kept hV) hs hc.a0 hc.i0 hc.ai (by rw [← hc.a, hae]; omega) (by omega)
    rw [hda, hmo] at this
    exact this))
  have HTS := Lib.hid (show ∀ u ∈ telT l[m].t, shapedB u = true from htf.2.2.2)
  obtain ⟨x, hxx⟩ : ∃ x, l[m] = x := ⟨_, rfl⟩
  rw [hxx] at hx hent hae hfd hnn CW CI HTS hPT
  rw [hPT]
  have HEN := Lib.hid hent
  obtain ⟨X, hX⟩ : ∃ X, (w.alloc (.cells #[.slice none 0 0, .slice none 0 0, .slice none 0 0] 177)).alloc (.cells (entC x p) 43) = X := ⟨_, rfl⟩
  have HBX := Lib.hid (show Below w.heap.size w X from by rw [← hX]; exact ((Below.refl _ _).alloc (Nat.le_refl _) _).alloc (by simp) _)
  have HSX := Lib.hid (show X.heap.size = w.heap.size + 2 from by rw [← hX]; simp)
  have HK0 := Lib.hid (show Bk X w.heap.size 177 #[.slice none 0 0, .slice none 0 0, .slice none 0 0] from by rw [← hX]; exact (Bk.new w _ _).alloc _)
  have HK1 := Lib.hid (show Bk X (w.heap.size + 1) 43 (entC x p) from by rw [← hX]; exact Bk.last _ _ _ (by simp))
  obtain ⟨e0, e1, e2, e3, e4, e5, e6, e7, e8, e9, e10, e11, e12, e13, e14⟩ := hx
  subst hA
  have hbw : b < w.heap.size := by omega
  have hm0 : (m : Int) < (l.length : Int) := by omega
  have hm1 : (m : Int) ≤ 600 := by omega
  have x2 : X.cell? ⟨w.heap.size + 1, 2, none⟩ = some (.int .i64 x.t.k) := HK1.out.cell 2
  have x3 : X.cell? ⟨w.heap.size + 1, 3, none⟩ = some (.int .i64 x.t.n) := HK1.out.cell 3
  have x4 : X.cell? ⟨w.heap.size + 1, 4, none⟩ = some (.slice p.T x.t.l.length p.tc) := HK1.out.cell 4
  unfold GivesS termV at CW
  simp only at CW
  unfold IndIsP termV at CI
  unfold termV at CR
  rw [hnn] at CW
  clear hn hS hc hf hk htf hxx hent happ hPT hmo hda
  unfold entC at hX HK1
  rw [hae] at hX HK1 e10
  have HFD := Lib.hid hfd
  obtain ⟨u, hu⟩ : ∃ u, benT x.t = u := ⟨_, rfl⟩
  obtain ⟨tl, htl0⟩ : ∃ tl, telT x.t = tl := ⟨_, rfl⟩
  rw [hu, htl0] at CW ⊢
  rw [hu] at CI
  rw [htl0] at HTS hnn
  obtain ⟨ts, hts⟩ : ∃ ts, tl.drop a = ts := ⟨_, rfl⟩
  obtain ⟨ix, hixe⟩ : ∃ ix, (argsT u).drop a = ix := ⟨_, rfl⟩
  rw [hixe] at CI
  rw [hts, hixe]
  have HTSE := Lib.hid hts
  have htl : ts.length = n - a := by rw [← hts, List.length_drop, hnn]
  have HSH := Lib.hid (show ∀ t ∈ ts, shapedB t = true from fun t ht => HTS.out t (List.mem_of_mem_drop (by rw [hts]; exact ht)))
  have HIXG := Lib.hid hixe
  have HNN := Lib.hid hnn
  have HTLN := Lib.hid htl
  clear hae hnn hfd hu htl0 hts hixe htl HTS
  go_enter Tryz.func137, Tryz.ntmps137
  go_wp2_with fail
  refine (CW.out _ HBX.out).mono ?_
  rintro e w1 ⟨T1, c1, D1, d1, rfl, hl1, ht1, hb1'⟩
  have HB1 := Lib.hid (HBX.out.trans (hb1'.mono HBX.out.size))
  have HA0 := Lib.hid (HK0.out.below hb1' HK0.out.lt)
  have HA1 := Lib.hid (HK1.out.below hb1' HK1.out.lt)
  have HL1 := Lib.hid hl1
  have HT1 := Lib.hid ht1
  have HX1 := Lib.hid hb1'.size
  have hl1b := hl1.bounds.1
  rw [HNN.out] at hl1b
  obtain ⟨Y, hY⟩ : ∃ Y, w1.alloc (.cells #[.int .i64 u.k, .int .i64 u.n, .slice D1 u.l.length d1] 25) = Y := ⟨_, rfl⟩
  have HBY0 := Lib.hid (show Below w1.heap.size w1 Y from by rw [← hY]; exact (Below.refl _ _).alloc (Nat.le_refl _) _)
  have HBY := Lib.hid (HB1.out.trans (HBY0.out.mono HB1.out.size))
  have HC0 := Lib.hid (HA0.out.below HBY0.out HA0.out.lt)
  have HC1 := Lib.hid (HA1.out.below HBY0.out HA1.out.lt)
  have HK3 := Lib.hid (show Bk Y w1.heap.size 25 #[.int .i64 u.k, .int .i64 u.n, .slice D1 u.l.length d1] from by rw [← hY]; exact Bk.new w1 _ _)
  have HTY := Lib.hid (show IsTerm Y X.heap.size w1.heap.size u D1 d1 from TermIn.imp (fun b o hb => HBY0.out.cell (p := ⟨b, o, none⟩) hb.2) (fun _ h => h) HT1.out)
  have y0 : Y.cell? ⟨w1.heap.size, 0, none⟩ = some (.int .i64 u.k) := HK3.out.cell 0
  have y1 : Y.cell? ⟨w1.heap.size, 1, none⟩ = some (.int .i64 u.n) := HK3.out.cell 1
  have y2 : Y.cell? ⟨w1.heap.size, 2, none⟩ = some (.slice D1 u.l.length d1) := HK3.out.cell 2
  have y8 : Y.cell? ⟨w.heap.size + 1, 8, none⟩ = some (.int .i64 (d : Int)) := by rw [HC1.out.cell 8]; simp [HFD.out]
  have CI1 := Lib.hid (CI.out D1 d1 X.heap.size w1.heap.size Y HBY.out HTY.out HBY0.out.size)
  clear x2 x3 x4 ht1 hl1 hb1' hX CI CW e0 e1 e2 e3 e4 e5 e6 e7 e8 e9 e10 e11 e12 e13 e14
  go_wp2_with fail
  refine CI1.out.mono ?_
  rintro e w2 ⟨B2, n2, c2, rfl, hz2', hb2'⟩
  obtain ⟨rfl, hix⟩ := hz2' trivial
  have HB2 := Lib.hid (HBY.out.trans (hb2'.mono HBY.out.size))
  have HD0 := Lib.hid (HC0.out.below hb2' HC0.out.lt)
  have HD1 := Lib.hid (HC1.out.below hb2' HC1.out.lt)
  have HIX := Lib.hid hix
  have hs1 := HBX.out.size
  have hs2 := HX1.out
  have hs3 := HBY0.out.size
  have hs4 := hb2'.size
  have HL2 := Lib.hid (show IsTerms w2 (w.heap.size + 2) w1.heap.size tl T1 c1 from TermIn.imp (fun b o hb => (hb2'.cell (p := ⟨b, o, none⟩) (by have := hb.2; show b < _; omega)).trans (HBY0.out.cell (p := ⟨b, o, none⟩) hb.2)) (fun b hb => ⟨by have := HSX.out; have := hb.1; omega, hb.2⟩) HL1.out)
  have HRS := Lib.hid (IsTerms.rest (n := a) HL2.out (by rw [HNN.out]; exact han))
  obtain ⟨A2, hA2⟩ : ∃ A2, (if c1 = a then T1 else T1.map (fun x => x.add (a * 3))) = A2 := ⟨_, rfl⟩
  rw [hA2] at HRS
  rw [HTSE.out] at HRS
  have hac : (a : Int) ≤ (c1 : Int) := by omega
  have han1 : (a : Int) ≤ (n : Int) := by omega
  have hac' : a ≤ c1 := by omega
  have q10 : w2.cell? ⟨w.heap.size + 1, 10, none⟩ = some (.int .i64 (a : Int)) := HD1.out.cell 10
  have hwlt := HD1.out.lt
  clear y0 y1 y2 y8 hb2' hz2' hY hix CI1
  go_upto_region 4 with fail
  go_cut [11] from 35 to 40 (fun s11 wx => ∃ A2 C2, s11 = .pointer (some ⟨w2.heap.size, 0, none⟩) ∧ Bk wx w2.heap.size 177 #[.slice A2 ts.length C2, .slice B2 ix.length c2, .slice none 0 0] ∧ IsTerms wx (w.heap.size + 2) w1.heap.size ts A2 C2 ∧ Below w2.heap.size w2 wx ∧ w2.heap.size + 1 ≤ wx.heap.size)
  case first =>
    by_cases hcq : c1 = a
    all_goals
      first
      | (rw [if_pos hcq] at hA2
         subst hA2
         have hcq2 := hcq.symm
         clear hcq
         subst hcq2
         rw [Nat.sub_self] at HRS)
      | (rw [if_neg hcq] at hA2
         subst hA2)
      go_wp2_with fail
      go_meet
      case rel => first
        | exact ⟨_, _, rfl, by rw [show ts.length = 0 from by have := HTLN.out; omega]; exact Bk.new w2 _ _, HRS.out.alloc (by omega) _, (Below.refl _ _).alloc (Nat.le_refl _) _, by simp⟩
        | exact ⟨_, _, rfl, by rw [HTLN.out]; exact Bk.new w2 _ _, HRS.out.alloc (by omega) _, (Below.refl _ _).alloc (Nat.le_refl _) _, by simp⟩
  case rest =>
    obtain ⟨wz, rfl⟩ : ∃ wz : World, wz = wc := ⟨_, rfl⟩
    obtain ⟨A3, C3, rfl, hbc, hts3, hbz, hzz⟩ := hcut
    have HBZ := Lib.hid (HB2.out.trans (hbz.mono HB2.out.size))
    have HE0 := Lib.hid (HD0.out.below hbz HD0.out.lt)
    have HE1 := Lib.hid (HD1.out.below hbz HD1.out.lt)
    have HBC := Lib.hid hbc
    have HTS3 := Lib.hid hts3
    have HIX3 := Lib.hid (show TermIn wz (fun b => ((X.heap.size ≤ b ∧ b < w1.heap.size) ∨ Y.heap.size ≤ b) ∧ b < w2.heap.size) (.node 0 0 ix) B2 c2 from TermIn.imp (fun b o hb => hbz.cell (p := ⟨b, o, none⟩) hb.2) (fun _ h => h) HIX.out)
    have HZZ := Lib.hid hzz
    have c0 : wz.cell? ⟨w2.heap.size, 0, none⟩ = some (.slice A3 ts.length C3) := hbc.cell 0
    have htl9 : ts.length ≤ 24 := by have := HTLN.out; omega
    clear hbc hts3 hbz q10 HA0 HA1 HC0 HC1 HD0 HD1
    go_wp2_with fail
    go_loopw [44] (PartsRel ts ix (d : Int) a mo w2.heap.size A3 C3 B2 c2 wz) (fun iv _ => ts.length - (intOf iv).toNat)
    case atStart => exact ⟨0, [], fun _ => False, none, 0, Nat.zero_le _, rfl, Below.refl _ _, Nat.le_refl _, HBC.out, RcRow.nil _ _, fun _ h => h.elim, rfl⟩
    case round =>
      obtain ⟨i, rs, P, Ar, cr, hi1, rfl, hB, hBs, hbk, hrow, hP, hrs⟩ := hrel
      have HBr := Lib.hid hB
      have HROW := Lib.hid hrow
      have HPP := Lib.hid hP
      have HRSE := Lib.hid hrs
      have HBK := Lib.hid hbk
      have hrl : rs.length = i := by
        have := congrArg List.length hrs
        rw [List.length_map, recsT_len] at this
        exact this
      have HRL := Lib.hid hrl
      clear hbk hrow hP hrs hrl
      by_cases hil : i < ts.length
      case pos =>
        obtain ⟨bo, oo, Xa, Xc, hOa, -, hbo, hxo, hto⟩ := HTS3.out.sub i hil
        subst hOa
        obtain ⟨t, ht⟩ : ∃ t, ts[i] = t := ⟨_, rfl⟩
        rw [ht] at hxo hto
        have HST := Lib.hid (HSH.out t (by rw [← ht]; exact List.getElem_mem _))
        have HSUC := Lib.hid (show recsT (d : Int) a mo ts (i + 1) = recsT (d : Int) a mo ts i ++ [recT d a mo t (a + i)] from by rw [recsT_succ, List.getD_eq_getElem?_getD, List.getElem?_eq_getElem hil, ht]; rfl)
        have hbz0 := HBr.out
        have hzz := HZZ.out
        have hbo2 : bo < w2.heap.size := by have := hs4; omega
        have hs4' := hs4
        obtain ⟨hx0, hx1, hx2⟩ := hxo.kept hbz0 hbo2
        have HX := Lib.hid hxo
        have HTO := Lib.hid hto
        have he2 := HE1.out.below hbz0 hwlt
        rw [show x.f = (d : Int) from HFD.out] at he2
        have HE2 := Lib.hid he2
        clear he2
        have hii : (i : Int) < (ts.length : Int) := by omega
        have hai : (a : Int) + (i : Int) ≤ 100 := by omega
        obtain ⟨Z, hZ⟩ : ∃ Z, wr.alloc (.cells #[.int .i64 t.k, .int .i64 t.n, .slice Xa t.l.length Xc] 25) = Z := ⟨_, rfl⟩
        have HZW := Lib.hid (show Below wr.heap.size wr Z from by rw [← hZ]; exact (Below.refl _ _).alloc (Nat.le_refl _) _)
        have HZS := Lib.hid (show Z.heap.size = wr.heap.size + 1 from by rw [← hZ]; simp)
        have HZT := Lib.hid (show Bk Z wr.heap.size 25 #[.int .i64 t.k, .int .i64 t.n, .slice Xa t.l.length Xc] from by rw [← hZ]; exact Bk.new wr _ _)
        have hbr := hbz0.size
        have HBZZ := Lib.hid (hbz0.trans (HZW.out.mono (by omega)))
        have HKE := Lib.hid (fun (V : World) (hV : Below Z.heap.size Z V) => (show Bk V w2.heap.size 177 #[.slice (some ⟨bo, oo, none⟩) ts.length C3, .slice B2 ix.length c2, .slice Ar rs.length cr] ∧ Bk V (w.heap.size + 1) 43 #[.int .i64 x.k, .string x.s, .int .i64 x.t.k, .int .i64 x.t.n, .slice p.T x.t.l.length p.tc, .int .i64 x.b.k, .int .i64 x.b.n, .slice p.B x.b.l.length p.bc, .int .i64 (d : Int), .int .i64 x.p, .int .i64 (a : Int), .int .i64 x.i, .int .i64 x.v, .slice p.C x.c.length p.cc, .slice p.D x.d.length p.dc] ∧ Bk V wr.heap.size 25 #[.int .i64 t.k, .int .i64 t.n, .slice Xa t.l.length Xc] from
          ⟨(HBK.out.below HZW.out HBK.out.lt).below hV (by have := HZS.out; have := HBK.out.lt; omega), (HE2.out.below HZW.out (by have := HBK.out.lt; omega)).below hV (by have := HZS.out; have := HBK.out.lt; omega), HZT.out.below hV (by have := HZS.out; omega)⟩))
        have CR2 := Lib.hid (fun (V : World) (hV : Below Z.heap.size Z V) => CR.out t Xa Xc (w.heap.size + 2) w1.heap.size (a + i) V (HBZ.out.trans ((HBZZ.out.trans (hV.mono (by have := HBZZ.out.size; have := HZS.out; omega))).mono HB2.out.size)) (hto.kept (HBZZ.out.trans (hV.mono (by have := HBZZ.out.size; omega))) (by omega)) (by have := hV.size; have := HZS.out; omega) HST.out (by omega) (by omega))
        have HROW2 := Lib.hid (HROW.out.below HZW.out)
        obtain ⟨R, hR⟩ : ∃ R, recT (d : Int) a mo t (a + i) = R := ⟨_, rfl⟩
        rw [hR] at CR2 HSUC
        rw [show ((a + i : Nat) : Int) = IntKind.i64.wrap ((a : Int) + (i : Int)) from by rw [show (a : Int) + (i : Int) = ((a + i : Nat) : Int) from by push_cast; rfl, wrap_i64 _ (by omega) (by omega)]] at CR2
        have hrs24 : rs.length ≤ 24 := by have := HRL.out; omega
        clear ht hxo hto hR
        go_wp2_with fail
        go_upto_region 8 with fail
        have z2 : Z.cell? ⟨w2.heap.size, 2, none⟩ = some (.slice Ar rs.length cr) := (HKE.out _ (Below.refl _ _)).1.cell 2
        have e8 : Z.cell? ⟨w.heap.size + 1, 8, none⟩ = some (.int .i64 (d : Int)) := (HKE.out _ (Below.refl _ _)).2.1.cell 8
        have e10 : Z.cell? ⟨w.heap.size + 1, 10, none⟩ = some (.int .i64 (a : Int)) := (HKE.out _ (Below.refl _ _)).2.1.cell 10
        have t0 : Z.cell? ⟨wr.heap.size, 0, none⟩ = some (.int .i64 t.k) := HZT.out.cell 0
        have t1 : Z.cell? ⟨wr.heap.size, 1, none⟩ = some (.int .i64 t.n) := HZT.out.cell 1
        have t2 : Z.cell? ⟨wr.heap.size, 2, none⟩ = some (.slice Xa t.l.length Xc) := HZT.out.cell 2
        have hfz : ∀ q, Z.frozen? ⟨w2.heap.size, q, none⟩ = false := fun q => (HKE.out _ (Below.refl _ _)).1.cold q
        have hbk := Lib.hid ((Below.refl Z.heap.size Z).drew)
        clear hZ
        refine wp_lastR ?_
        intro K0 hK0
        go_cut [] from 49 to 62 (fun wx => ∃ (v1 v2 : Value) (P' : Nat → Prop) (g8 c8 : Nat), Bk wx w2.heap.size 177 #[.slice (some ⟨bo, oo, none⟩) ts.length C3, .slice B2 ix.length c2, .slice (some ⟨g8, 0, none⟩) (rs.length + 1) c8] ∧ RcRow wx (w2.heap.size + 1) (.slice (some ⟨g8, 0, none⟩) (rs ++ [(R, v1, v2)]).length c8) (rs ++ [(R, v1, v2)]) P' ∧ (∀ b, P' b → w2.heap.size < b) ∧ Below w2.heap.size wz wx)
        case first =>
          go_region_law
            (first
             | (go_simp; go_at_call 167
                refine (CR2.out _ hbk.out).mono ?_
                rintro e w3 ⟨v1, v2, rfl, hv3, hb3⟩
                have HV3 := Lib.hid hv3
                have HIN := Lib.hid (show RecIn w3 (fun b => Z.heap.size ≤ b ∧ b < w3.heap.size) R v1 v2 from RecIn.imp (fun _ _ _ => rfl) (fun b hb => ⟨Nat.le_trans hbk.out.size hb.1, hb.2⟩) hv3)
                have HN3 := Lib.hid (show Below Z.heap.size Z w3 from hbk.out.trans (hb3.mono hbk.out.size))
                have HS3 := Lib.hid hbk.out.size
                have hbk := Lib.hid (hbk.out.trans (hb3.mono hbk.out.size))
                have HOC := Lib.hid (show ∀ u ∈ [Value.bool R.is, v1, v2], u.oneCell' = true from by
                  obtain ⟨F, C, G, D, rfl, rfl, -, -⟩ := HV3.out
                  intro u hu; simp at hu; rcases hu with rfl | rfl | rfl <;> rfl)
                clear hb3 hv3 z2 e8 e10 t0 t1 t2 hfz
                have hz3 : w2.heap.size < w3.heap.size := (HKE.out _ hbk.out).1.lt
                have z2 : w3.cell? ⟨w2.heap.size, 2, none⟩ = some (.slice Ar rs.length cr) := (HKE.out _ hbk.out).1.cell 2
                have e8 : w3.cell? ⟨w.heap.size + 1, 8, none⟩ = some (.int .i64 (d : Int)) := (HKE.out _ hbk.out).2.1.cell 8
                have e10 : w3.cell? ⟨w.heap.size + 1, 10, none⟩ = some (.int .i64 (a : Int)) := (HKE.out _ hbk.out).2.1.cell 10
                have t0 : w3.cell? ⟨wr.heap.size, 0, none⟩ = some (.int .i64 t.k) := (HKE.out _ hbk.out).2.2.cell 0
                have t1 : w3.cell? ⟨wr.heap.size, 1, none⟩ = some (.int .i64 t.n) := (HKE.out _ hbk.out).2.2.cell 1
                have t2 : w3.cell? ⟨wr.heap.size, 2, none⟩ = some (.slice Xa t.l.length Xc) := (HKE.out _ hbk.out).2.2.cell 2
                have hfz : ∀ q, w3.frozen? ⟨w2.heap.size, q, none⟩ = false := fun q => (HKE.out _ hbk.out).1.cold q)
             | (refine step_app rfl (.tmp 50) (.tmp 60) 175 rfl (w2.heap.size + 1) 204 i0 (.agg #[.bool false, .slice none 0 0, .slice none 0 0]) 3 56 Tryz.underlying175 hi0 hz0 hz1 hz2 rfl (by decide) (.slice Ar rs.length cr) rs.length (flatR rs) rfl ((HROW2.out.below HN3.out).below ((Below.refl _ _).alloc (Nat.le_refl _) (.cells #[.bool R.is, v1, v2] 204))).row (some ⟨w3.heap.size, 0, none⟩) 1 1 [.bool R.is, v1, v2] rfl (src_at _ _ _ (by simp) rfl) HOC.out (by unfold maxLen; omega) (by omega) (by have := hbk.out.size; have := HZS.out; have := HBK.out.lt; simp; omega) ?_
                rintro v4 w4 ⟨ho4, hg4, hv4⟩
                obtain ⟨g8, c8, rfl, hg8, hg8'⟩ := ho4.form (by omega)
                have HRW := Lib.hid (RcRow.push (Pn := fun b => Z.heap.size ≤ b ∧ b < w3.heap.size) (p := (R, v1, v2)) ((HROW2.out.below HN3.out).below ((Below.refl _ _).alloc (Nat.le_refl _) (.cells #[.bool R.is, v1, v2] 204)))
                  (HIN.out.imp (fun b o hb => World.cell?_alloc_past _ b o hb.2) (fun b hb => hb))
                  (fun b hb => ⟨by simp; have := hb.2; omega, fun e => by
                    have h1 := HROW2.out.row.lt b e
                    have := hb.1
                    omega⟩) ho4 hg4 hv4)
                have HG8 := Lib.hid (show w2.heap.size + 1 ≤ g8 ∧ g8 < w4.heap.size from ⟨hg8, hg8'⟩)
                have hbq := Lib.hid (show Below (w2.heap.size + 1) Z w4 from ((hbk.out.alloc hbk.out.size (.cells #[.bool R.is, v1, v2] 204)).mono (by have := HZS.out; have := HBK.out.lt; omega)).grown hg4 (by have := hbk.out.size; have := HZS.out; have := HBK.out.lt; simp; omega) (fun g e => (HROW2.out.row.lt g e).1))
                have hk4 := Lib.hid ((HKE.out _ (Below.refl _ _)).1.below hbq.out (by omega))
                clear ho4 hg4 hv4 hg8 hg8' z2 e8 e10 t0 t1 t2 hfz
                have z2 : w4.cell? ⟨w2.heap.size, 2, none⟩ = some (.slice Ar rs.length cr) := hk4.out.cell 2
                have hfz : ∀ q, w4.frozen? ⟨w2.heap.size, q, none⟩ = false := fun q => hk4.out.cold q))
          all_goals
            go_wp2_with fail
            go_meet
            case rel =>
              exact ⟨v1, v2, _, g8, c8, hk4.out.at_ 2 _, by rw [List.length_append]; exact HRW.out.setCell (by simp) (fun b hb => by
                show b ≠ w2.heap.size
                rcases hb with hb | hb
                · have := HPP.out b hb; omega
                · have := hb.1; have := HZS.out; have := HBK.out.lt; omega) _, fun b hb => by
                rcases hb with hb | hb
                · exact HPP.out b hb
                · have := hb.1; have := HZS.out; have := HBK.out.lt; omega, (HBZZ.out.trans (hbq.out.mono (by omega))).setCell (Nat.le_refl _) _⟩
        case rest =>
          obtain ⟨v1, v2, P', g8, c8, r1, r2, r3, r4⟩ := hcut
          refine hK0 _ _ ?_
          have HR1 := Lib.hid r1
          have HR2 := Lib.hid r2
          have HR3 := Lib.hid r3
          have HR4 := Lib.hid r4
          clear r1 r2 r3 r4 hfz z2 e8 e10 t0 t1 t2
          go_wp2_with fail
          go_roundw
          case rel =>
            exact ⟨i + 1, rs ++ [(R, v1, v2)], P', _, c8, by omega, by go_num, HR4.out, HR4.out.size, by rw [List.length_append]; exact HR1.out, HR2.out, HR3.out, by rw [List.map_append, HRSE.out, HSUC.out]; rfl⟩
          case measure => simp [intOf]; omega
      case neg =>
        have hie : i = ts.length := by omega
        have hbz0 := HBr.out
        have hbrs := hbz0.size
        have hzz := HZZ.out
        have HE2 := Lib.hid (HE0.out.below hbz0 (by omega))
        have q0 : wr.cell? ⟨w2.heap.size, 0, none⟩ = some (.slice A3 ts.length C3) := HBK.out.cell 0
        have q1 : wr.cell? ⟨w2.heap.size, 1, none⟩ = some (.slice B2 ix.length c2) := HBK.out.cell 1
        have q2 : wr.cell? ⟨w2.heap.size, 2, none⟩ = some (.slice Ar rs.length cr) := HBK.out.cell 2
        have p0 : wr.cell? ⟨w.heap.size, 0, none⟩ = some (.slice none 0 0) := HE2.out.cell 0
        have p1 : wr.cell? ⟨w.heap.size, 1, none⟩ = some (.slice none 0 0) := HE2.out.cell 1
        have p2 : wr.cell? ⟨w.heap.size, 2, none⟩ = some (.slice none 0 0) := HE2.out.cell 2
        have hfz2 : ∀ q, wr.frozen? ⟨w.heap.size, q, none⟩ = false := fun q => HE2.out.cold q
        have HS0 := Lib.hid (((HE2.out.at_ 0 (.slice A3 ts.length C3)).at_ 1 (.slice B2 ix.length c2)).at_ 2 (.slice Ar rs.length cr))
        have HIL := Lib.hid hil
        have HIE := Lib.hid hie
        clear hie
        go_wp2_with fail
        have s0 := HS0.out.cell 0
        have s1 := HS0.out.cell 1
        have s2 := HS0.out.cell 2
        refine bodyPost_ret (v := .agg #[.slice A3 ts.length C3, .slice B2 ix.length c2, .slice Ar rs.length cr]) (by simp [results, Tryz.results137, go_sem, s0, s1, s2]) rfl ?_
        have hne : ∀ (b o : Nat), b ≠ w.heap.size → ((((wr.setCell ⟨w.heap.size, 0, none⟩ (.slice A3 ts.length C3)).setCell ⟨w.heap.size, 1, none⟩ (.slice B2 ix.length c2)).setCell ⟨w.heap.size, 2, none⟩ (.slice Ar rs.length cr)).cell? ⟨b, o, none⟩) = wr.cell? ⟨b, o, none⟩ := fun b o hb => by
          rw [World.cell?_setCell_other _ _ _ _ (fun e => hb (congrArg Addr.block e).symm), World.cell?_setCell_other _ _ _ _ (fun e => hb (congrArg Addr.block e).symm), World.cell?_setCell_other _ _ _ _ (fun e => hb (congrArg Addr.block e).symm)]
        have hbb := HBr.out
        have hww := HB2.out.size
        have hs0 := HSX.out
        have hsw1 := HX1.out
        have hsw2 := HBY0.out.size
        have hq4 := hs4
        have HRW := Lib.hid (((HROW.out.setCell (a := ⟨w.heap.size, 0, none⟩) (by show w.heap.size < _; omega) (fun b hb => by have := HPP.out b hb; show b ≠ w.heap.size; omega) (.slice A3 ts.length C3)).setCell (a := ⟨w.heap.size, 1, none⟩) (by show w.heap.size < _; omega) (fun b hb => by have := HPP.out b hb; show b ≠ w.heap.size; omega) (.slice B2 ix.length c2)).setCell (a := ⟨w.heap.size, 2, none⟩) (by show w.heap.size < _; omega) (fun b hb => by have := HPP.out b hb; show b ≠ w.heap.size; omega) (.slice Ar rs.length cr))
        obtain ⟨hrec, hrc1, hrc2⟩ := RcRow.recs (lo := w.heap.size) HRW.out (by omega) (fun b hb => by have := HPP.out b hb; omega)
        rw [HRSE.out, HIE.out] at hrec
        have hrl : rs.length = ts.length := by rw [HRL.out, HIE.out]
        have hsz : ((((wr.setCell ⟨w.heap.size, 0, none⟩ (.slice A3 ts.length C3)).setCell ⟨w.heap.size, 1, none⟩ (.slice B2 ix.length c2)).setCell ⟨w.heap.size, 2, none⟩ (.slice Ar rs.length cr))).heap.size = wr.heap.size := by simp [World.setCell]
        refine ⟨_, _, _, rfl, ⟨A3, C3, B2, c2, Ar, cr, rfl, rfl, by rw [recsT_len, hrl], ?_, ?_, hrec, by rw [recsT_len, ← hrl]; exact hrc1, hrc2⟩, (((HBZ.out.trans (hbb.mono hww)).setCell (Nat.le_refl _) _).setCell (Nat.le_refl _) _).setCell (Nat.le_refl _) _⟩
        · exact TermIn.imp (fun b o hb => (hne b o (by have := hb.1; omega)).trans (hbb.cell (p := ⟨b, o, none⟩) (by have := hb.2; show b < _; omega))) (fun b hb => ⟨by have := hb.1; omega, by rw [hsz]; have := hb.2; omega⟩) HTS3.out
        · exact TermIn.imp (fun b o hb => (hne b o (by have := hb.1; omega)).trans (hbb.cell (p := ⟨b, o, none⟩) (by have := hb.2; show b < _; omega))) (fun b hb => ⟨by have := hb.1; omega, by rw [hsz]; have := hb.2; omega⟩) HIX3.out

end Go.Proofs.YtchllgkgjompgaaGreatDoor
