/- The walk of the law TeleSelf. -/
import Derived.Test.YtofmoggjpgjdgaaDoorVLaw0
import Derived.Test.YtofmoggjpgjdgaaDoorVFill
import Derived.Deep.RegionHeld3
import Derived.Deep.CutRange
namespace Go.Proofs.YtofmoggjpgjdgaaDoor
open Go.RowKit
set_option linter.unusedVariables false
set_option maxRecDepth 100000

set_option maxHeartbeats 8000000 in
theorem vself_walk (t : TM) (A_t : Option Addr) (c_t : Nat) (n : Int) (w : World) (ht : IsTerm w 0 w.heap.size t A_t c_t) (hn : (Lit.int .u8 n).wf = true) (hS : ShapesM w) :
    Calls Tryd.prog 8 #[termV t A_t c_t, .int .u8 n] w fun e w' => e = .returned (.bool true) ∧ Below w.heap.size w w' := by
  have T_t := Lib.hid (fun (V : World) (hV : Below w.heap.size w V) => ht.kept hV (Nat.le_refl _))
  have HS := Lib.hid (fun (V : World) (hV : Below w.heap.size w V) => hS.kept hV)
  have hm0 : 0 ≤ n ∧ n ≤ 255 := by simpa [Lit.wf, IntKind.min, IntKind.max, IntKind.signed, IntKind.bits] using hn
  obtain ⟨h0, h255⟩ := hm0
  obtain ⟨R, hR⟩ : ∃ R : Nat, n % 6 = (R : Int) := ⟨(n % 6).toNat, by omega⟩
  have HR6 := Lib.hid (show R ≤ 6 by omega)
  have CSH := Lib.hid (fun (V : World) (hV : Below w.heap.size w V) => refShaped_any t 0 w.heap.size A_t c_t V (ht.kept hV (Nat.le_refl _)) hV.size)
  obtain ⟨bt, hbt⟩ : ∃ b, shapedB t = b := ⟨_, rfl⟩
  rw [hbt] at CSH
  obtain ⟨u, e1, hE⟩ : ∃ a e, liftX t R R = (a, e) := ⟨_, _, rfl⟩
  have HE := Lib.hid hE
  have HSB := Lib.hid (fun (h : bt = true) => self_back (by omega) (hbt.trans h) hE)
  clear ht hS hn hE hbt
  unfold termV at CSH ⊢
  have HB_w := Lib.hid (Below.refl w.heap.size w)
  go_enter Tryd.func8, Tryd.ntmps8
  go_wp2_with fail
  rw [hR]
  clear hR h0 h255
  refine (CSH.out _ (HB_w.out.alloc HB_w.out.size (.cells #[.int .i64 t.k, .int .i64 t.n, .slice A_t t.l.length c_t] 24))).mono ?_
  rintro e w1 ⟨rfl, hb⟩
  have hj := Lib.hid (((Below.refl w.heap.size w).alloc (by simp <;> omega) (.cells #[.int .i64 t.k, .int .i64 t.n, .slice A_t t.l.length c_t] 24)).trans (hb.mono (by simp <;> omega)))
  have X_t := Lib.hid (show TBox w1 w.heap.size t.k t.n (.slice A_t t.l.length c_t) from TBox.of ((Bk.new w 24 #[.int .i64 t.k, .int .i64 t.n, .slice A_t t.l.length c_t]).below hb (by simp <;> omega)))
  have HB_w := Lib.hid (HB_w.out.trans (hj.out.mono HB_w.out.size))
  have HB_w1 := Lib.hid (Below.refl w1.heap.size w1)
  clear hb hj
  obtain ⟨t0, t1, t2, tl⟩ := X_t.out
  cases bt with
  | false =>
    go_wp2_with fail
    refine (awakeV_any _ (HS.out _ HB_w.out)).mono ?_
    rintro e w2 ⟨rfl, hb⟩
    have hj := Lib.hid hb
    have X_t := Lib.hid (X_t.out.kept hj.out X_t.out.lt)
    have HB_w := Lib.hid (HB_w.out.trans (hj.out.mono HB_w.out.size))
    have HB_w1 := Lib.hid (HB_w1.out.trans (hj.out.mono HB_w1.out.size))
    have HB_w2 := Lib.hid (Below.refl w2.heap.size w2)
    clear hb hj t0 t1 t2 tl
    go_wp2_with fail
    go_ret
    exact ⟨rfl, HB_w.out⟩
  | true =>
    have HSC := Lib.hid (HSB.out rfl)
    clear HSB
    go_wp2_with fail
    refine (((lift_any t R R _ _ A_t c_t _ (T_t.out _ HB_w.out) HB_w.out.size (HS.out _ HB_w.out)).mono fun _ _ h => GivesL.kept (GivesT.any h) HE.out)).mono ?_
    rintro e w2 ⟨A_u, c_u, rfl, hx, hb⟩
    rw [termV]
    have hj := Lib.hid hb
    have X_t := Lib.hid (X_t.out.kept hj.out X_t.out.lt)
    have HB_w := Lib.hid (HB_w.out.trans (hj.out.mono HB_w.out.size))
    have HB_w1 := Lib.hid (HB_w1.out.trans (hj.out.mono HB_w1.out.size))
    have HB_w2 := Lib.hid (Below.refl w2.heap.size w2)
    have T_u := Lib.hid (fun V (hV : Below w2.heap.size w2 V) => hx.kept hV (Nat.le_refl _))
    clear hx
    clear hb hj t0 t1 t2 tl
    obtain ⟨t0, t1, t2, tl⟩ := X_t.out
    rcases HSC.out with ⟨he0, hmy⟩ | he2
    rotate_left
    · have q0 : (e1 != 0) = true := by rw [he2]; rfl
      have q1 : (e1 == 2) = true := by rw [he2]; rfl
      clear he2
      go_wp2_with fail
      refine (awakeV_any _ (HS.out _ (HB_w.out.alloc HB_w.out.size (.cells #[.int .i64 u.k, .int .i64 u.n, .slice A_u u.l.length c_u] 24)))).mono ?_
      rintro e w3 ⟨rfl, hb⟩
      have hj := Lib.hid (((Below.refl w2.heap.size w2).alloc (by simp <;> omega) (.cells #[.int .i64 u.k, .int .i64 u.n, .slice A_u u.l.length c_u] 24)).trans (hb.mono (by simp <;> omega)))
      have X_u := Lib.hid (show TBox w3 w2.heap.size u.k u.n (.slice A_u u.l.length c_u) from TBox.of ((Bk.new w2 24 #[.int .i64 u.k, .int .i64 u.n, .slice A_u u.l.length c_u]).below hb (by simp <;> omega)))
      have X_t := Lib.hid (X_t.out.kept hj.out X_t.out.lt)
      have HB_w := Lib.hid (HB_w.out.trans (hj.out.mono HB_w.out.size))
      have HB_w1 := Lib.hid (HB_w1.out.trans (hj.out.mono HB_w1.out.size))
      have HB_w2 := Lib.hid (HB_w2.out.trans (hj.out.mono HB_w2.out.size))
      have HB_w3 := Lib.hid (Below.refl w3.heap.size w3)
      clear hb hj t0 t1 t2 tl
      go_wp2_with fail
      go_ret
      exact ⟨rfl, HB_w.out⟩
    have HMY := Lib.hid hmy
    have q0 : (e1 != 0) = false := by rw [he0]; rfl
    clear he0 hmy HSC
    go_upto_region 7 with fail
    obtain ⟨W, hW⟩ : ∃ W, w2.alloc (.cells #[.int .i64 u.k, .int .i64 u.n, .slice A_u u.l.length c_u] 24) = W := ⟨_, rfl⟩
    have hbW : Below w2.heap.size w2 W := by rw [← hW]; exact (Below.refl _ _).alloc (Nat.le_refl _) _
    have hXu : TBox W w2.heap.size u.k u.n (.slice A_u u.l.length c_u) := by rw [← hW]; exact TBox.of (Bk.new w2 _ _)
    rw [hW]
    clear hW
    have X_u := Lib.hid hXu
    have X_t := Lib.hid (X_t.out.kept hbW X_t.out.lt)
    have HB_w := Lib.hid (HB_w.out.trans (hbW.mono HB_w.out.size))
    have HB_w1 := Lib.hid (HB_w1.out.trans (hbW.mono HB_w1.out.size))
    have HB_w2 := Lib.hid (HB_w2.out.trans (hbW.mono HB_w2.out.size))
    clear hbW hXu
    obtain ⟨t0', t1', t2', tl'⟩ := X_t.out
    obtain ⟨u0, u1, u2, ul⟩ := X_u.out
    have HKT := Lib.hid (fun (V : World) (hV : Below W.heap.size W V) => (show V.cell? ⟨w2.heap.size, 0, none⟩ = some (.int .i64 u.k) ∧ V.cell? ⟨w2.heap.size, 1, none⟩ = some (.int .i64 u.n) ∧ V.cell? ⟨w2.heap.size, 2, none⟩ = some (.slice A_u u.l.length c_u) from by
      obtain ⟨a0, a1, a2, _⟩ := X_u.out.kept hV X_u.out.lt
      exact ⟨a0, a1, a2⟩))
    have CR := Lib.hid (fun (V : World) (hV : Below W.heap.size W V) => (vars_any R (by have := HR6.out; omega) V).mono fun e w' h => (show ∃ A c, e = .returned (.slice A R c) ∧ IsTerms w' 0 w'.heap.size (varsT R) A c ∧ Below V.heap.size V w' from by
      obtain ⟨A, c, h1, h2, h3⟩ := h
      rw [varsT_len] at h1
      exact ⟨A, c, h1, h2, h3⟩))
    have CS := Lib.hid (fun (A : Option Addr) (c : Nat) (V : World) (hV : Below W.heap.size W V) (hr : IsTerms V 0 V.heap.size (varsT R) A c) => (show Calls Tryd.prog 21 #[.agg #[.int .i64 u.k, .int .i64 u.n, .slice A_u u.l.length c_u], .slice A R c] V (GivesT (t, 0) V) from by
      have hVu := HB_w2.out.trans (hV.mono HB_w2.out.size)
      have hVw := HB_w.out.trans (hV.mono HB_w.out.size)
      have q := fill_any u 0 w2.heap.size A_u c_u (varsT R) A c V (T_u.out V hVu) hVu.size hr (by rw [varsT_len]; have := HR6.out; omega) (HS.out V hVw)
      rw [varsT_len, HMY.out] at q
      exact q))
    have hbk0 := Lib.hid (show Below W.heap.size W W.drew from (Below.refl _ _).drew)
    unfold GivesT termV at CS
    go_cut [8, 9] from 31 to 37 (fun s8 s9 wx => ∃ gv A_x c_x, s8 = .pointer (some ⟨gv, 0, none⟩) ∧ s9 = .int .i64 0 ∧ TBox wx gv t.k t.n (.slice A_x t.l.length c_x) ∧ Below W.heap.size W wx ∧ IsTerm wx 0 wx.heap.size t A_x c_x)
    case first =>
      go_region_held3 (fun w' => w'.cell? ⟨w2.heap.size, 0, none⟩ = some (.int .i64 u.k) ∧ w'.cell? ⟨w2.heap.size, 1, none⟩ = some (.int .i64 u.n) ∧ w'.cell? ⟨w2.heap.size, 2, none⟩ = some (.slice A_u u.l.length c_u))
        (first | exact HKT.out _ hbk0.out | exact HKT.out _ (hbk0.out.alloc hbk0.out.size _) | exact HKT.out _ hbk.out | exact HKT.out _ (hbk.out.alloc hbk.out.size _) | exact HKT.out _ hB5.out | exact HKT.out _ (hB5.out.alloc hB5.out.size _) | exact HKT.out _ (((hB5.out.setCell (by simp <;> omega) _).setCell (by simp <;> omega) _).setCell (by simp <;> omega) _) | exact HKT.out _ ((((hB5.out.alloc hB5.out.size _).setCell (by simp <;> omega) _).setCell (by simp <;> omega) _).setCell (by simp <;> omega) _))
        (first
        | (go_at_call 28
           refine (CR.out _ (by first | exact hbk0.out | exact hbk0.out.alloc hbk0.out.size _)).mono ?_
           rintro e wn ⟨A_v, c_v, rfl, hr, hbn⟩
           have hbk : Hid (Below W.heap.size W wn) := Lib.hid (by first | exact hbk0.out.trans (hbn.mono hbk0.out.size) | exact (hbk0.out.alloc hbk0.out.size _).trans (hbn.mono (hbk0.out.alloc hbk0.out.size _).size))
           first
           | (have hbz : Hid (Bk wn W.heap.size 24 #[.int .i64 0, .int .i64 0, .slice none 0 0]) := Lib.hid (Bk.below (B := (W.drew.alloc (.cells #[.int .i64 0, .int .i64 0, .slice none 0 0] 24)).heap.size) (Bk.last W.drew 24 #[.int .i64 0, .int .i64 0, .slice none 0 0] rfl) hbn (by simp)))
           | skip
           have HRV := Lib.hid hr
           clear hbn hr)
        | (go_at_call 21
           refine (CS.out A_v c_v _ (by first | exact hbk.out | exact hbk.out.alloc hbk.out.size _) (by first | exact HRV.out | exact ((HRV.out.kept ((Below.refl wn.heap.size wn).alloc (Nat.le_refl _) _) (Nat.le_refl _)).wide (Nat.le_refl _) (by simp)))).mono ?_
           rintro e w5 ⟨A_x, c_x, rfl, hx, hb3⟩
           have hB5 : Hid (Below W.heap.size W w5) := Lib.hid (by first | exact hbk.out.trans (hb3.mono hbk.out.size) | exact (hbk.out.alloc hbk.out.size _).trans (hb3.mono (hbk.out.alloc hbk.out.size _).size))
           have hcn := hbk.out.size
           first
           | (have hbkv : Bk w5 W.heap.size 24 #[.int .i64 0, .int .i64 0, .slice none 0 0] := Bk.below hbz.out hb3 hbz.out.lt
              have hzl := hbz.out.lt
              have Hx := Lib.hid (show TermIn w5 (fun b => b ≠ W.heap.size ∧ b < w5.heap.size) _ _ _ from TermIn.imp (fun _ _ _ => rfl) (fun b hb => ⟨by have h := hb.1; omega, hb.2⟩) hx)
              have hfz : ∀ o, w5.frozen? ⟨W.heap.size, o, none⟩ = false := fun o => hbkv.cold o
              have d0 := hbkv.cell 0
              have d1 := hbkv.cell 1
              have d2 := hbkv.cell 2
              simp at d0 d1 d2)
           | (have hbkv : Bk w5 wn.heap.size 24 #[.int .i64 0, .int .i64 0, .slice none 0 0] := Bk.below (B := (wn.alloc (.cells #[.int .i64 0, .int .i64 0, .slice none 0 0] 24)).heap.size) (Bk.last wn 24 #[.int .i64 0, .int .i64 0, .slice none 0 0] rfl) hb3 (by simp)
              have Hx := Lib.hid (show TermIn w5 (fun b => b ≠ wn.heap.size ∧ b < w5.heap.size) _ _ _ from TermIn.imp (fun _ _ _ => rfl) (fun b hb => ⟨by have h := hb.1; first | omega | (simp at h; omega), hb.2⟩) hx)
              have hfz : ∀ o, w5.frozen? ⟨wn.heap.size, o, none⟩ = false := fun o => hbkv.cold o
              have d0 := hbkv.cell 0
              have d1 := hbkv.cell 1
              have d2 := hbkv.cell 2
              simp at d0 d1 d2)
           | (skip
              have Hx := Lib.hid (show TermIn w5 (fun b => b ≠ w5.heap.size ∧ b < w5.heap.size) _ _ _ from TermIn.imp (fun _ _ _ => rfl) (fun b hb => ⟨by have := hb.2; omega, hb.2⟩) hx)
              skip)
           clear hb3 hx))
      all_goals
        go_wp2_with fail
        go_meet
        case rel =>
          first
          | exact ⟨_, A_x, c_x, rfl, rfl, TBox.of (Bk.new w5 _ _), hB5.out.alloc hB5.out.size _, (TermIn.imp (fun b o hb => ((Below.refl w5.heap.size w5).alloc (Nat.le_refl _) _).cell (p := ⟨b, o, none⟩) hb.2) (fun b hb => ⟨Nat.zero_le _, by have := hb.2; simp; omega⟩) Hx.out)⟩
          | exact ⟨_, A_x, c_x, rfl, rfl, TBox.of (((hbkv.at_ 0 (.int .i64 t.k)).at_ 1 (.int .i64 t.n)).at_ 2 (.slice A_x t.l.length c_x)), ((hB5.out.setCell (by simp <;> omega) _).setCell (by simp <;> omega) _).setCell (by simp <;> omega) _, ((Hx.out.three (fun b hb e => hb.1 e) _ _ _).imp (fun _ _ _ => rfl) (fun b hb => ⟨Nat.zero_le _, by rw [size_three]; exact hb.2⟩))⟩
    case rest =>
    obtain ⟨gv, A_x, c_x, rfl, rfl, htb, hb, hx⟩ := hcut
    have X_t := Lib.hid (X_t.out.kept hb X_t.out.lt)
    have HB_w := Lib.hid (HB_w.out.trans (hb.mono HB_w.out.size))
    have HB_w1 := Lib.hid (HB_w1.out.trans (hb.mono HB_w1.out.size))
    have HB_w2 := Lib.hid (HB_w2.out.trans (hb.mono HB_w2.out.size))
    have HB_wc := Lib.hid (Below.refl wc.heap.size wc)
    have X_x := Lib.hid htb
    have T_x := Lib.hid (fun V (hV : Below wc.heap.size wc V) => hx.kept hV (Nat.le_refl _))
    clear hb htb hx HKT CR CS hbk0 t0' t1' t2' tl' u0 u1 u2 ul
    obtain ⟨t0', t1', t2', tl'⟩ := X_t.out
    obtain ⟨x0, x1, x2, xl⟩ := X_x.out
    go_wp2_with fail
    refine (vsame_refl t 0 _ _ _ _ A_x A_t c_x c_t _ (T_x.out _ HB_wc.out) (T_t.out _ HB_w.out) HB_wc.out.size HB_w.out.size).mono ?_
    rintro e w3 ⟨rfl, hb⟩
    have hj := Lib.hid hb
    have X_t := Lib.hid (X_t.out.kept hj.out X_t.out.lt)
    have X_x := Lib.hid (X_x.out.kept hj.out X_x.out.lt)
    have HB_w := Lib.hid (HB_w.out.trans (hj.out.mono HB_w.out.size))
    have HB_w1 := Lib.hid (HB_w1.out.trans (hj.out.mono HB_w1.out.size))
    have HB_w2 := Lib.hid (HB_w2.out.trans (hj.out.mono HB_w2.out.size))
    have HB_wc := Lib.hid (HB_wc.out.trans (hj.out.mono HB_wc.out.size))
    have HB_w3 := Lib.hid (Below.refl w3.heap.size w3)
    clear hb hj t0' t1' t2' tl' x0 x1 x2 xl
    go_wp2_with fail
    refine (awakeV_any _ (HS.out _ HB_w.out)).mono ?_
    rintro e w4 ⟨rfl, hb⟩
    have hj := Lib.hid hb
    have X_t := Lib.hid (X_t.out.kept hj.out X_t.out.lt)
    have X_x := Lib.hid (X_x.out.kept hj.out X_x.out.lt)
    have HB_w := Lib.hid (HB_w.out.trans (hj.out.mono HB_w.out.size))
    have HB_w1 := Lib.hid (HB_w1.out.trans (hj.out.mono HB_w1.out.size))
    have HB_w2 := Lib.hid (HB_w2.out.trans (hj.out.mono HB_w2.out.size))
    have HB_wc := Lib.hid (HB_wc.out.trans (hj.out.mono HB_wc.out.size))
    have HB_w3 := Lib.hid (HB_w3.out.trans (hj.out.mono HB_w3.out.size))
    have HB_w4 := Lib.hid (Below.refl w4.heap.size w4)
    clear hb hj
    go_wp2_with fail
    go_ret
    exact ⟨rfl, HB_w.out⟩

end Go.Proofs.YtofmoggjpgjdgaaDoor
