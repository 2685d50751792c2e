/- The walk of the law TeleBack. -/
import Derived.Test.YtofmoggjpgjdgaaDoorVLaw0
import Derived.Test.YtofmoggjpgjdgaaDoorM9
import Derived.Test.YtofmoggjpgjdgaaDoorVFill
import Derived.Test.YtofmoggjpgjdgaaDoorVResult
import Derived.Test.YtofmoggjpgjdgaaDoorVRight
import Derived.Test.YtofmoggjpgjdgaaDoorVSplitsW
import Derived.Test.YtofmoggjpgjdgaaDoorLSameAll
namespace Go.Proofs.YtofmoggjpgjdgaaDoor
open Go.RowKit
set_option linter.unusedVariables false
set_option maxRecDepth 100000

def BackRel (w wc : World) (g : List TM) (iv : Value) (wr : World) : Prop := ∃ i : Nat, i ≤ g.length ∧ iv = .int .i64 i ∧ Below w.heap.size w wr ∧ Below wc.heap.size wc wr ∧ (∀ a ∈ g.take i, shapedB a = true ∧ looseT a 0 ≤ 0)
theorem whole_around {l : List TM} {t x : TM} (h : aroundX 3 l t = (x, 0)) (hk : t.k ≠ 3) : wholeX x = (l, t, 0) := by
  rw [whole_yes (around_ok h).2.2]
  exact split_around h hk
set_option maxHeartbeats 8000000 in
theorem vback_walk (l : List TM) (A_l : Option Addr) (c_l : Nat) (g : List TM) (A_g : Option Addr) (c_g : Nat) (t : TM) (A_t : Option Addr) (c_t : Nat) (w : World) (hl : IsTerms w 0 w.heap.size l A_l c_l) (hg : IsTerms w 0 w.heap.size g A_g c_g) (ht : IsTerm w 0 w.heap.size t A_t c_t) (hS : ShapesM w) :
    Calls Tryd.prog 7 #[.slice A_l l.length c_l, .slice A_g g.length c_g, termV t A_t c_t] w fun e w' => e = .returned (.bool true) ∧ Below w.heap.size w w' := by
  have T_l := Lib.hid (fun (V : World) (hV : Below w.heap.size w V) => hl.kept hV (Nat.le_refl _))
  have T_g := Lib.hid (fun (V : World) (hV : Below w.heap.size w V) => hg.kept hV (Nat.le_refl _))
  have T_t := Lib.hid (fun (V : World) (hV : Below w.heap.size w V) => ht.kept hV (Nat.le_refl _))
  have HS := Lib.hid (fun (V : World) (hV : Below w.heap.size w V) => hS.kept hV)
  obtain ⟨hlb, hlm⟩ := hl.bounds
  obtain ⟨hgb, hgm⟩ := hg.bounds
  unfold maxLen at hlm hgm
  have HN := Lib.hid hg.sub
  obtain ⟨p, e1, hE⟩ : ∃ a e, aroundX 3 l t = (a, e) := ⟨_, _, rfl⟩
  have HE := Lib.hid hE
  clear hl hg ht hS hE
  unfold termV
  by_cases h24 : 24 < l.length
  · have t0 : decide ((24 : Int) < (l.length : Int)) = true := decide_eq_true (by omega)
    clear h24
    have HB_w := Lib.hid (Below.refl w.heap.size w)
    go_enter Tryd.func7, Tryd.ntmps7
    go_wp2_with fail
    refine (awakeV_any _ (HS.out _ (HB_w.out.alloc HB_w.out.size (.cells #[.int .i64 t.k, .int .i64 t.n, .slice A_t t.l.length c_t] 24)))).mono ?_
    rintro e w1 ⟨rfl, hb⟩
    have hj := Lib.hid (((Below.refl w.heap.size w).alloc (by simp <;> omega) (.cells #[.int .i64 t.k, .int .i64 t.n, .slice A_t t.l.length c_t] 24)).trans (hb.mono (by simp <;> omega)))
    have X_t := Lib.hid (show TBox w1 w.heap.size t.k t.n (.slice A_t t.l.length c_t) from TBox.of ((Bk.new w 24 #[.int .i64 t.k, .int .i64 t.n, .slice A_t t.l.length c_t]).below hb (by simp <;> omega)))
    have HB_w := Lib.hid (HB_w.out.trans (hj.out.mono HB_w.out.size))
    have HB_w1 := Lib.hid (Below.refl w1.heap.size w1)
    clear hb hj
    go_wp2_with fail
    go_ret
    exact ⟨rfl, HB_w.out⟩
  have t0 : decide ((24 : Int) < (l.length : Int)) = false := decide_eq_false (by omega)
  have HL24 := Lib.hid (show l.length ≤ 24 by omega)
  clear h24
  by_cases hk3 : t.k = 3
  · have t1 : (t.k == 3) = true := by rw [hk3]; rfl
    clear hk3
    have HB_w := Lib.hid (Below.refl w.heap.size w)
    go_enter Tryd.func7, Tryd.ntmps7
    go_wp2_with fail
    refine (awakeV_any _ (HS.out _ (HB_w.out.alloc HB_w.out.size (.cells #[.int .i64 t.k, .int .i64 t.n, .slice A_t t.l.length c_t] 24)))).mono ?_
    rintro e w1 ⟨rfl, hb⟩
    have hj := Lib.hid (((Below.refl w.heap.size w).alloc (by simp <;> omega) (.cells #[.int .i64 t.k, .int .i64 t.n, .slice A_t t.l.length c_t] 24)).trans (hb.mono (by simp <;> omega)))
    have X_t := Lib.hid (show TBox w1 w.heap.size t.k t.n (.slice A_t t.l.length c_t) from TBox.of ((Bk.new w 24 #[.int .i64 t.k, .int .i64 t.n, .slice A_t t.l.length c_t]).below hb (by simp <;> omega)))
    have HB_w := Lib.hid (HB_w.out.trans (hj.out.mono HB_w.out.size))
    have HB_w1 := Lib.hid (Below.refl w1.heap.size w1)
    clear hb hj
    go_wp2_with fail
    go_ret
    exact ⟨rfl, HB_w.out⟩
  have t1 : (t.k == 3) = false := by simpa using hk3
  have HK3 := Lib.hid hk3
  clear hk3
  have HB_w := Lib.hid (Below.refl w.heap.size w)
  go_enter Tryd.func7, Tryd.ntmps7
  go_wp2_with fail
  refine (((pis_any l A_l c_l t A_t c_t _ ((T_l.out _ (HB_w.out.alloc HB_w.out.size (.cells #[.int .i64 t.k, .int .i64 t.n, .slice A_t t.l.length c_t] 24))).wide (Nat.le_refl _) (HB_w.out.alloc HB_w.out.size (.cells #[.int .i64 t.k, .int .i64 t.n, .slice A_t t.l.length c_t] 24)).size) ((T_t.out _ (HB_w.out.alloc HB_w.out.size (.cells #[.int .i64 t.k, .int .i64 t.n, .slice A_t t.l.length c_t] 24))).wide (Nat.le_refl _) (HB_w.out.alloc HB_w.out.size (.cells #[.int .i64 t.k, .int .i64 t.n, .slice A_t t.l.length c_t] 24)).size) (HS.out _ (HB_w.out.alloc HB_w.out.size (.cells #[.int .i64 t.k, .int .i64 t.n, .slice A_t t.l.length c_t] 24)))).mono fun _ _ h => GivesL.kept (GivesT.any h) HE.out)).mono ?_
  rintro e w1 ⟨A_p, c_p, rfl, hx, hb⟩
  rw [termV]
  have hj := Lib.hid (((Below.refl w.heap.size w).alloc (by simp <;> omega) (.cells #[.int .i64 t.k, .int .i64 t.n, .slice A_t t.l.length c_t] 24)).trans (hb.mono (by simp <;> omega)))
  have X_t := Lib.hid (show TBox w1 w.heap.size t.k t.n (.slice A_t t.l.length c_t) from TBox.of ((Bk.new w 24 #[.int .i64 t.k, .int .i64 t.n, .slice A_t t.l.length c_t]).below hb (by simp <;> omega)))
  have HB_w := Lib.hid (HB_w.out.trans (hj.out.mono HB_w.out.size))
  have HB_w1 := Lib.hid (Below.refl w1.heap.size w1)
  have T_p := Lib.hid (fun V (hV : Below w1.heap.size w1 V) => hx.kept hV (Nat.le_refl _))
  clear hx
  clear hb hj
  obtain ⟨t0, t1, t2, tl⟩ := X_t.out
  by_cases h1 : e1 = 0
  rotate_left
  · have q0 : (e1 != 0) = true := by simpa using h1
    clear h1
    go_wp2_with fail
    refine (awakeV_any _ (HS.out _ (HB_w.out.alloc HB_w.out.size (.cells #[.int .i64 p.k, .int .i64 p.n, .slice A_p p.l.length c_p] 24)))).mono ?_
    rintro e w2 ⟨rfl, hb⟩
    have hj := Lib.hid (((Below.refl w1.heap.size w1).alloc (by simp <;> omega) (.cells #[.int .i64 p.k, .int .i64 p.n, .slice A_p p.l.length c_p] 24)).trans (hb.mono (by simp <;> omega)))
    have X_p := Lib.hid (show TBox w2 w1.heap.size p.k p.n (.slice A_p p.l.length c_p) from TBox.of ((Bk.new w1 24 #[.int .i64 p.k, .int .i64 p.n, .slice A_p p.l.length c_p]).below hb (by simp <;> omega)))
    have X_t := Lib.hid (X_t.out.kept hj.out X_t.out.lt)
    have HB_w := Lib.hid (HB_w.out.trans (hj.out.mono HB_w.out.size))
    have HB_w1 := Lib.hid (HB_w1.out.trans (hj.out.mono HB_w1.out.size))
    have HB_w2 := Lib.hid (Below.refl w2.heap.size w2)
    clear hb hj t0 t1 t2 tl
    go_wp2_with fail
    go_ret
    exact ⟨rfl, HB_w.out⟩
  have HP := Lib.hid (show aroundX 3 l t = (p, 0) by rw [HE.out, h1])
  have HWH := Lib.hid (whole_around HP.out HK3.out)
  have q0 : (e1 != 0) = false := by rw [h1]; rfl
  clear h1
  go_wp2_with fail
  refine (((whole_any p A_p c_p _ ((T_p.out _ (HB_w1.out.alloc HB_w1.out.size (.cells #[.int .i64 p.k, .int .i64 p.n, .slice A_p p.l.length c_p] 24))).wide (Nat.le_refl _) (HB_w1.out.alloc HB_w1.out.size (.cells #[.int .i64 p.k, .int .i64 p.n, .slice A_p p.l.length c_p] 24)).size) (HS.out _ (HB_w.out.alloc HB_w.out.size (.cells #[.int .i64 p.k, .int .i64 p.n, .slice A_p p.l.length c_p] 24)))).mono fun _ _ h => GivesS.any (GivesS.kept h HWH.out))).mono ?_
  rintro e w2 ⟨A_m, c_m, A_x, c_x, rfl, hl, hx, hb⟩
  rw [termV]
  have hj := Lib.hid (((Below.refl w1.heap.size w1).alloc (by simp <;> omega) (.cells #[.int .i64 p.k, .int .i64 p.n, .slice A_p p.l.length c_p] 24)).trans (hb.mono (by simp <;> omega)))
  have X_p := Lib.hid (show TBox w2 w1.heap.size p.k p.n (.slice A_p p.l.length c_p) from TBox.of ((Bk.new w1 24 #[.int .i64 p.k, .int .i64 p.n, .slice A_p p.l.length c_p]).below hb (by simp <;> omega)))
  have X_t := Lib.hid (X_t.out.kept hj.out X_t.out.lt)
  have HB_w := Lib.hid (HB_w.out.trans (hj.out.mono HB_w.out.size))
  have HB_w1 := Lib.hid (HB_w1.out.trans (hj.out.mono HB_w1.out.size))
  have HB_w2 := Lib.hid (Below.refl w2.heap.size w2)
  have T_x := Lib.hid (fun V (hV : Below w2.heap.size w2 V) => hx.kept hV (Nat.le_refl _))
  clear hx
  clear hb hj t0 t1 t2 tl
  obtain ⟨t0, t1, t2, tl⟩ := X_t.out
  have T_m := Lib.hid (fun V (hV : Below w2.heap.size w2 V) => hl.kept hV (Nat.le_refl _))
  clear hl
  go_wp2_with fail
  refine (sameAll_refl l _ _ _ _ A_m A_l c_m c_l _ (T_m.out _ (HB_w2.out.alloc HB_w2.out.size (.cells #[.int .i64 t.k, .int .i64 t.n, .slice A_x t.l.length c_x] 24))) (T_l.out _ (HB_w.out.alloc HB_w.out.size (.cells #[.int .i64 t.k, .int .i64 t.n, .slice A_x t.l.length c_x] 24))) (HB_w2.out.alloc HB_w2.out.size (.cells #[.int .i64 t.k, .int .i64 t.n, .slice A_x t.l.length c_x] 24)).size (HB_w.out.alloc HB_w.out.size (.cells #[.int .i64 t.k, .int .i64 t.n, .slice A_x t.l.length c_x] 24)).size).mono ?_
  rintro e w3 ⟨rfl, hb⟩
  have hj := Lib.hid (((Below.refl w2.heap.size w2).alloc (by simp <;> omega) (.cells #[.int .i64 t.k, .int .i64 t.n, .slice A_x t.l.length c_x] 24)).trans (hb.mono (by simp <;> omega)))
  have X_x := Lib.hid (show TBox w3 w2.heap.size t.k t.n (.slice A_x t.l.length c_x) from TBox.of ((Bk.new w2 24 #[.int .i64 t.k, .int .i64 t.n, .slice A_x t.l.length c_x]).below hb (by simp <;> omega)))
  have X_t := Lib.hid (X_t.out.kept hj.out X_t.out.lt)
  have X_p := Lib.hid (X_p.out.kept hj.out X_p.out.lt)
  have HB_w := Lib.hid (HB_w.out.trans (hj.out.mono HB_w.out.size))
  have HB_w1 := Lib.hid (HB_w1.out.trans (hj.out.mono HB_w1.out.size))
  have HB_w2 := Lib.hid (HB_w2.out.trans (hj.out.mono HB_w2.out.size))
  have HB_w3 := Lib.hid (Below.refl w3.heap.size w3)
  clear hb hj t0 t1 t2 tl
  obtain ⟨x0, x1, x2, xl⟩ := X_x.out
  obtain ⟨t0, t1, t2, tl⟩ := X_t.out
  go_wp2_with fail
  refine ((refEqual_any t t _ _ _ _ A_x A_t c_x c_t _ (T_x.out _ HB_w2.out) (T_t.out _ HB_w.out) HB_w2.out.size HB_w.out.size).mono fun _ _ h => (show _ ∧ _ from ⟨h.1.trans (by rw [alikeT_refl]), h.2⟩)).mono ?_
  rintro e w4 ⟨rfl, hb⟩
  have hj := Lib.hid hb
  have X_t := Lib.hid (X_t.out.kept hj.out X_t.out.lt)
  have X_p := Lib.hid (X_p.out.kept hj.out X_p.out.lt)
  have X_x := Lib.hid (X_x.out.kept hj.out X_x.out.lt)
  have HB_w := Lib.hid (HB_w.out.trans (hj.out.mono HB_w.out.size))
  have HB_w1 := Lib.hid (HB_w1.out.trans (hj.out.mono HB_w1.out.size))
  have HB_w2 := Lib.hid (HB_w2.out.trans (hj.out.mono HB_w2.out.size))
  have HB_w3 := Lib.hid (HB_w3.out.trans (hj.out.mono HB_w3.out.size))
  have HB_w4 := Lib.hid (Below.refl w4.heap.size w4)
  clear hb hj x0 x1 x2 xl t0 t1 t2 tl
  by_cases hne : g.length = l.length
  rotate_left
  · have t2 : ((g.length : Int) != (l.length : Int)) = true := by
      have : ¬ (g.length : Int) = (l.length : Int) := by omega
      simpa using this
    clear hne
    go_wp2_with fail
    refine (awakeV_any _ (HS.out _ HB_w.out)).mono ?_
    rintro e w5 ⟨rfl, hb⟩
    have hj := Lib.hid hb
    have X_t := Lib.hid (X_t.out.kept hj.out X_t.out.lt)
    have X_p := Lib.hid (X_p.out.kept hj.out X_p.out.lt)
    have X_x := Lib.hid (X_x.out.kept hj.out X_x.out.lt)
    have HB_w := Lib.hid (HB_w.out.trans (hj.out.mono HB_w.out.size))
    have HB_w1 := Lib.hid (HB_w1.out.trans (hj.out.mono HB_w1.out.size))
    have HB_w2 := Lib.hid (HB_w2.out.trans (hj.out.mono HB_w2.out.size))
    have HB_w3 := Lib.hid (HB_w3.out.trans (hj.out.mono HB_w3.out.size))
    have HB_w4 := Lib.hid (HB_w4.out.trans (hj.out.mono HB_w4.out.size))
    have HB_w5 := Lib.hid (Below.refl w5.heap.size w5)
    clear hb hj
    go_wp2_with fail
    go_ret
    exact ⟨rfl, HB_w.out⟩
  have t2 : ((g.length : Int) != (l.length : Int)) = false := by rw [hne]; simp
  have HLG := Lib.hid hne
  clear hne
  go_wp2_with fail
  go_loopw [12] (BackRel w w4 g) (fun iv _ => g.length - (intOf iv).toNat)
  case atStart => exact ⟨0, Nat.zero_le _, rfl, HB_w.out, Below.refl _ _, fun a ha => by simp at ha⟩
  case round =>
    obtain ⟨i, hi1, rfl, hB, hBc, hall⟩ := hrel
    have HALL := Lib.hid hall
    have hwz := hB.size
    clear hall
    have X_t := Lib.hid (X_t.out.kept hBc X_t.out.lt)
    have X_p := Lib.hid (X_p.out.kept hBc X_p.out.lt)
    have X_x := Lib.hid (X_x.out.kept hBc X_x.out.lt)
    have HB_w := Lib.hid (HB_w.out.trans (hBc.mono HB_w.out.size))
    have HB_w1 := Lib.hid (HB_w1.out.trans (hBc.mono HB_w1.out.size))
    have HB_w2 := Lib.hid (HB_w2.out.trans (hBc.mono HB_w2.out.size))
    have HB_w3 := Lib.hid (HB_w3.out.trans (hBc.mono HB_w3.out.size))
    have HB_w4 := Lib.hid (HB_w4.out.trans (hBc.mono HB_w4.out.size))
    have HB_wr := Lib.hid (Below.refl wr.heap.size wr)
    by_cases hil : i < g.length
    · obtain ⟨bk, o, F, C, hAt, hb1', hb2', ⟨z0, z1, z2⟩, hnode⟩ := (HN.out i hil).kept hB (Nat.le_refl _)
      subst hAt
      have hi1' : (i : Int) < (g.length : Int) := by omega
      have hi0' : (0 : Int) ≤ (i : Int) := by omega
      have hi9 : (i : Int) < 100 := by have := HLG.out; have := HL24.out; omega
      have HIL := Lib.hid hil
      have htk : ∀ b : Bool, (b = true → shapedB (g[i]'hil) = true ∧ looseT (g[i]'hil) 0 ≤ 0) → b = true → ∀ a ∈ g.take (i + 1), shapedB a = true ∧ looseT a 0 ≤ 0 := fun b hb hbt a ha => by
        rw [List.take_succ_eq_append_getElem hil] at ha
        rcases List.mem_append.1 ha with ha | ha
        · exact HALL.out a ha
        · obtain rfl : a = g[i]'hil := by simpa using ha
          exact hb hbt
      obtain ⟨u, hu⟩ : ∃ u : TM, g[i]'hil = u := ⟨_, rfl⟩
      rw [hu] at z0 z1 z2 hnode htk
      have HTK := Lib.hid htk
      have CRT := Lib.hid (rright_any u 0 w.heap.size F C wr hnode hwz)
      unfold termV at CRT
      clear hu hnode hil htk
      go_wp2_with fail
      refine CRT.out.mono ?_
      rintro e w5 ⟨⟨b, rfl, hb⟩, hbn⟩
      have HTB := Lib.hid (HTK.out b hb)
      have HF1 := Lib.hid (HB_w.out.trans (hbn.mono HB_w.out.size))
      have HF2 := Lib.hid (HB_w4.out.trans (hbn.mono HB_w4.out.size))
      have HB_w5 := Lib.hid (Below.refl w5.heap.size w5)
      clear hb hbn CRT z0 z1 z2
      cases b with
      | false =>
        have HB_w := HF1
        go_wp2_with fail
        refine (awakeV_any _ (HS.out _ HB_w.out)).mono ?_
        rintro e w1 ⟨rfl, hb⟩
        have hj := Lib.hid hb
        have HB_w := Lib.hid (HB_w.out.trans (hj.out.mono HB_w.out.size))
        have HB_w5 := Lib.hid (HB_w5.out.trans (hj.out.mono HB_w5.out.size))
        have HB_w1 := Lib.hid (Below.refl w1.heap.size w1)
        clear hb hj
        go_wp2_with fail
        go_ret
        exact ⟨rfl, HB_w.out⟩
      | true =>
        have HTT := Lib.hid (HTB.out rfl)
        go_wp2_with fail
        go_roundw
        case rel => exact ⟨i + 1, by have := HIL.out; omega, by go_num, HF1.out, HF2.out, HTT.out⟩
        case measure => have := HIL.out; simp [intOf]; omega
    · have HIN := Lib.hid (show i = g.length by omega)
      have HAL := Lib.hid (show ∀ a ∈ g, shapedB a = true ∧ looseT a 0 ≤ 0 from by have := HALL.out; rw [HIN.out, List.take_length] at this; exact this)
      have hge : ¬ (i : Int) < (g.length : Int) := by omega
      obtain ⟨a, e2, hE2⟩ : ∃ a e, resultX p g = (a, e) := ⟨_, _, rfl⟩
      obtain ⟨b, e3, hE3⟩ : ∃ a e, manyX t g.reverse = (a, e) := ⟨_, _, rfl⟩
      have HRB := Lib.hid (result_back HP.out HLG.out HAL.out hE2)
      have HFB := Lib.hid (fill_back (l := l) HP.out HAL.out hE3)
      have HE2 := Lib.hid hE2
      have HE3 := Lib.hid hE3
      have HG9 := Lib.hid (show g.length ≤ 8000 by have := HLG.out; have := HL24.out; omega)
      clear hE2 hE3 hil
      obtain ⟨t0', t1', t2', tl'⟩ := X_t.out
      obtain ⟨p0, p1, p2, pl⟩ := X_p.out
      go_wp2_with fail
      refine (((result_any p A_p c_p g A_g c_g _ ((T_p.out _ HB_w1.out).wide (Nat.le_refl _) HB_w1.out.size) ((T_g.out _ HB_w.out).wide (Nat.le_refl _) HB_w.out.size) HG9.out (HS.out _ HB_w.out)).mono fun _ _ h => GivesL.kept h HE2.out)).mono ?_
      rintro e w5 ⟨A_a, c_a, rfl, hx, hb⟩
      rw [termV]
      have hj := Lib.hid hb
      have X_t := Lib.hid (X_t.out.kept hj.out X_t.out.lt)
      have X_p := Lib.hid (X_p.out.kept hj.out X_p.out.lt)
      have X_x := Lib.hid (X_x.out.kept hj.out X_x.out.lt)
      have HB_w := Lib.hid (HB_w.out.trans (hj.out.mono HB_w.out.size))
      have HB_w1 := Lib.hid (HB_w1.out.trans (hj.out.mono HB_w1.out.size))
      have HB_w2 := Lib.hid (HB_w2.out.trans (hj.out.mono HB_w2.out.size))
      have HB_w3 := Lib.hid (HB_w3.out.trans (hj.out.mono HB_w3.out.size))
      have HB_w4 := Lib.hid (HB_w4.out.trans (hj.out.mono HB_w4.out.size))
      have HB_wr := Lib.hid (HB_wr.out.trans (hj.out.mono HB_wr.out.size))
      have HB_w5 := Lib.hid (Below.refl w5.heap.size w5)
      have T_a := Lib.hid (fun V (hV : Below w5.heap.size w5 V) => hx.kept hV (Nat.le_refl _))
      clear hx
      clear hb hj t0' t1' t2' tl' p0 p1 p2 pl
      obtain ⟨t0, t1, t2, tl⟩ := X_t.out
      go_wp2_with fail
      refine (((fill_any t _ _ A_t c_t g A_g c_g _ (T_t.out _ (HB_w.out.alloc HB_w.out.size (.cells #[.int .i64 a.k, .int .i64 a.n, .slice A_a a.l.length c_a] 24))) (HB_w.out.alloc HB_w.out.size (.cells #[.int .i64 a.k, .int .i64 a.n, .slice A_a a.l.length c_a] 24)).size ((T_g.out _ (HB_w.out.alloc HB_w.out.size (.cells #[.int .i64 a.k, .int .i64 a.n, .slice A_a a.l.length c_a] 24))).wide (Nat.le_refl _) (HB_w.out.alloc HB_w.out.size (.cells #[.int .i64 a.k, .int .i64 a.n, .slice A_a a.l.length c_a] 24)).size) HG9.out (HS.out _ (HB_w.out.alloc HB_w.out.size (.cells #[.int .i64 a.k, .int .i64 a.n, .slice A_a a.l.length c_a] 24)))).mono fun _ _ h => GivesL.kept (GivesT.any h) HE3.out)).mono ?_
      rintro e w6 ⟨A_b, c_b, rfl, hx, hb⟩
      rw [termV]
      have hj := Lib.hid (((Below.refl w5.heap.size w5).alloc (by simp <;> omega) (.cells #[.int .i64 a.k, .int .i64 a.n, .slice A_a a.l.length c_a] 24)).trans (hb.mono (by simp <;> omega)))
      have X_a := Lib.hid (show TBox w6 w5.heap.size a.k a.n (.slice A_a a.l.length c_a) from TBox.of ((Bk.new w5 24 #[.int .i64 a.k, .int .i64 a.n, .slice A_a a.l.length c_a]).below hb (by simp <;> omega)))
      have X_t := Lib.hid (X_t.out.kept hj.out X_t.out.lt)
      have X_p := Lib.hid (X_p.out.kept hj.out X_p.out.lt)
      have X_x := Lib.hid (X_x.out.kept hj.out X_x.out.lt)
      have HB_w := Lib.hid (HB_w.out.trans (hj.out.mono HB_w.out.size))
      have HB_w1 := Lib.hid (HB_w1.out.trans (hj.out.mono HB_w1.out.size))
      have HB_w2 := Lib.hid (HB_w2.out.trans (hj.out.mono HB_w2.out.size))
      have HB_w3 := Lib.hid (HB_w3.out.trans (hj.out.mono HB_w3.out.size))
      have HB_w4 := Lib.hid (HB_w4.out.trans (hj.out.mono HB_w4.out.size))
      have HB_wr := Lib.hid (HB_wr.out.trans (hj.out.mono HB_wr.out.size))
      have HB_w5 := Lib.hid (HB_w5.out.trans (hj.out.mono HB_w5.out.size))
      have HB_w6 := Lib.hid (Below.refl w6.heap.size w6)
      have T_b := Lib.hid (fun V (hV : Below w6.heap.size w6 V) => hx.kept hV (Nat.le_refl _))
      clear hx
      clear hb hj t0 t1 t2 tl
      obtain ⟨a0, a1, a2, al⟩ := X_a.out
      rcases HRB.out with ⟨h2, ha⟩ | h2
      rotate_left
      · have q1 : (e2 != 0) = true := by rw [h2]; rfl
        have q2 : (e2 == 2) = true := by rw [h2]; rfl
        clear h2
        go_wp2_with fail
        refine (awakeV_any _ (HS.out _ (HB_w.out.alloc HB_w.out.size (.cells #[.int .i64 b.k, .int .i64 b.n, .slice A_b b.l.length c_b] 24)))).mono ?_
        rintro e w7 ⟨rfl, hb⟩
        have hj := Lib.hid (((Below.refl w6.heap.size w6).alloc (by simp <;> omega) (.cells #[.int .i64 b.k, .int .i64 b.n, .slice A_b b.l.length c_b] 24)).trans (hb.mono (by simp <;> omega)))
        have X_b := Lib.hid (show TBox w7 w6.heap.size b.k b.n (.slice A_b b.l.length c_b) from TBox.of ((Bk.new w6 24 #[.int .i64 b.k, .int .i64 b.n, .slice A_b b.l.length c_b]).below hb (by simp <;> omega)))
        have X_t := Lib.hid (X_t.out.kept hj.out X_t.out.lt)
        have X_p := Lib.hid (X_p.out.kept hj.out X_p.out.lt)
        have X_x := Lib.hid (X_x.out.kept hj.out X_x.out.lt)
        have X_a := Lib.hid (X_a.out.kept hj.out X_a.out.lt)
        have HB_w := Lib.hid (HB_w.out.trans (hj.out.mono HB_w.out.size))
        have HB_w1 := Lib.hid (HB_w1.out.trans (hj.out.mono HB_w1.out.size))
        have HB_w2 := Lib.hid (HB_w2.out.trans (hj.out.mono HB_w2.out.size))
        have HB_w3 := Lib.hid (HB_w3.out.trans (hj.out.mono HB_w3.out.size))
        have HB_w4 := Lib.hid (HB_w4.out.trans (hj.out.mono HB_w4.out.size))
        have HB_wr := Lib.hid (HB_wr.out.trans (hj.out.mono HB_wr.out.size))
        have HB_w5 := Lib.hid (HB_w5.out.trans (hj.out.mono HB_w5.out.size))
        have HB_w6 := Lib.hid (HB_w6.out.trans (hj.out.mono HB_w6.out.size))
        have HB_w7 := Lib.hid (Below.refl w7.heap.size w7)
        clear hb hj a0 a1 a2 al
        go_wp2_with fail
        go_ret
        exact ⟨rfl, HB_w.out⟩
      have HAX := Lib.hid ha
      have q1 : (e2 != 0) = false := by rw [h2]; rfl
      have q2 : (e2 == 2) = false := by rw [h2]; rfl
      clear h2 ha
      rcases HFB.out with ⟨h3, hb⟩ | h3
      rotate_left
      · have q3 : (e3 != 0) = true := by rw [h3]; rfl
        have q4 : (e3 == 2) = true := by rw [h3]; rfl
        clear h3
        go_wp2_with fail
        refine (awakeV_any _ (HS.out _ (HB_w.out.alloc HB_w.out.size (.cells #[.int .i64 b.k, .int .i64 b.n, .slice A_b b.l.length c_b] 24)))).mono ?_
        rintro e w7 ⟨rfl, hb⟩
        have hj := Lib.hid (((Below.refl w6.heap.size w6).alloc (by simp <;> omega) (.cells #[.int .i64 b.k, .int .i64 b.n, .slice A_b b.l.length c_b] 24)).trans (hb.mono (by simp <;> omega)))
        have X_b := Lib.hid (show TBox w7 w6.heap.size b.k b.n (.slice A_b b.l.length c_b) from TBox.of ((Bk.new w6 24 #[.int .i64 b.k, .int .i64 b.n, .slice A_b b.l.length c_b]).below hb (by simp <;> omega)))
        have X_t := Lib.hid (X_t.out.kept hj.out X_t.out.lt)
        have X_p := Lib.hid (X_p.out.kept hj.out X_p.out.lt)
        have X_x := Lib.hid (X_x.out.kept hj.out X_x.out.lt)
        have X_a := Lib.hid (X_a.out.kept hj.out X_a.out.lt)
        have HB_w := Lib.hid (HB_w.out.trans (hj.out.mono HB_w.out.size))
        have HB_w1 := Lib.hid (HB_w1.out.trans (hj.out.mono HB_w1.out.size))
        have HB_w2 := Lib.hid (HB_w2.out.trans (hj.out.mono HB_w2.out.size))
        have HB_w3 := Lib.hid (HB_w3.out.trans (hj.out.mono HB_w3.out.size))
        have HB_w4 := Lib.hid (HB_w4.out.trans (hj.out.mono HB_w4.out.size))
        have HB_wr := Lib.hid (HB_wr.out.trans (hj.out.mono HB_wr.out.size))
        have HB_w5 := Lib.hid (HB_w5.out.trans (hj.out.mono HB_w5.out.size))
        have HB_w6 := Lib.hid (HB_w6.out.trans (hj.out.mono HB_w6.out.size))
        have HB_w7 := Lib.hid (Below.refl w7.heap.size w7)
        clear hb hj a0 a1 a2 al
        go_wp2_with fail
        go_ret
        exact ⟨rfl, HB_w.out⟩
      have HAB := Lib.hid (show alikeT a b = true from by rw [HAX.out, hb]; exact alikeT_refl _)
      have q3 : (e3 != 0) = false := by rw [h3]; rfl
      clear h3 hb
      go_wp2_with fail
      refine ((refEqual_any a b _ _ _ _ A_a A_b c_a c_b _ (T_a.out _ (HB_w5.out.alloc HB_w5.out.size (.cells #[.int .i64 b.k, .int .i64 b.n, .slice A_b b.l.length c_b] 24))) (T_b.out _ (HB_w6.out.alloc HB_w6.out.size (.cells #[.int .i64 b.k, .int .i64 b.n, .slice A_b b.l.length c_b] 24))) (HB_w5.out.alloc HB_w5.out.size (.cells #[.int .i64 b.k, .int .i64 b.n, .slice A_b b.l.length c_b] 24)).size (HB_w6.out.alloc HB_w6.out.size (.cells #[.int .i64 b.k, .int .i64 b.n, .slice A_b b.l.length c_b] 24)).size).mono fun _ _ h => (show _ ∧ _ from ⟨h.1.trans (by rw [HAB.out]), h.2⟩)).mono ?_
      rintro e w7 ⟨rfl, hb⟩
      have hj := Lib.hid (((Below.refl w6.heap.size w6).alloc (by simp <;> omega) (.cells #[.int .i64 b.k, .int .i64 b.n, .slice A_b b.l.length c_b] 24)).trans (hb.mono (by simp <;> omega)))
      have X_b := Lib.hid (show TBox w7 w6.heap.size b.k b.n (.slice A_b b.l.length c_b) from TBox.of ((Bk.new w6 24 #[.int .i64 b.k, .int .i64 b.n, .slice A_b b.l.length c_b]).below hb (by simp <;> omega)))
      have X_t := Lib.hid (X_t.out.kept hj.out X_t.out.lt)
      have X_p := Lib.hid (X_p.out.kept hj.out X_p.out.lt)
      have X_x := Lib.hid (X_x.out.kept hj.out X_x.out.lt)
      have X_a := Lib.hid (X_a.out.kept hj.out X_a.out.lt)
      have HB_w := Lib.hid (HB_w.out.trans (hj.out.mono HB_w.out.size))
      have HB_w1 := Lib.hid (HB_w1.out.trans (hj.out.mono HB_w1.out.size))
      have HB_w2 := Lib.hid (HB_w2.out.trans (hj.out.mono HB_w2.out.size))
      have HB_w3 := Lib.hid (HB_w3.out.trans (hj.out.mono HB_w3.out.size))
      have HB_w4 := Lib.hid (HB_w4.out.trans (hj.out.mono HB_w4.out.size))
      have HB_wr := Lib.hid (HB_wr.out.trans (hj.out.mono HB_wr.out.size))
      have HB_w5 := Lib.hid (HB_w5.out.trans (hj.out.mono HB_w5.out.size))
      have HB_w6 := Lib.hid (HB_w6.out.trans (hj.out.mono HB_w6.out.size))
      have HB_w7 := Lib.hid (Below.refl w7.heap.size w7)
      clear hb hj a0 a1 a2 al
      go_wp2_with fail
      refine (awakeV_any _ (HS.out _ HB_w.out)).mono ?_
      rintro e w8 ⟨rfl, hb⟩
      have hj := Lib.hid hb
      have X_t := Lib.hid (X_t.out.kept hj.out X_t.out.lt)
      have X_p := Lib.hid (X_p.out.kept hj.out X_p.out.lt)
      have X_x := Lib.hid (X_x.out.kept hj.out X_x.out.lt)
      have X_a := Lib.hid (X_a.out.kept hj.out X_a.out.lt)
      have X_b := Lib.hid (X_b.out.kept hj.out X_b.out.lt)
      have HB_w := Lib.hid (HB_w.out.trans (hj.out.mono HB_w.out.size))
      have HB_w1 := Lib.hid (HB_w1.out.trans (hj.out.mono HB_w1.out.size))
      have HB_w2 := Lib.hid (HB_w2.out.trans (hj.out.mono HB_w2.out.size))
      have HB_w3 := Lib.hid (HB_w3.out.trans (hj.out.mono HB_w3.out.size))
      have HB_w4 := Lib.hid (HB_w4.out.trans (hj.out.mono HB_w4.out.size))
      have HB_wr := Lib.hid (HB_wr.out.trans (hj.out.mono HB_wr.out.size))
      have HB_w5 := Lib.hid (HB_w5.out.trans (hj.out.mono HB_w5.out.size))
      have HB_w6 := Lib.hid (HB_w6.out.trans (hj.out.mono HB_w6.out.size))
      have HB_w7 := Lib.hid (HB_w7.out.trans (hj.out.mono HB_w7.out.size))
      have HB_w8 := Lib.hid (Below.refl w8.heap.size w8)
      clear hb hj
      go_wp2_with fail
      go_ret
      exact ⟨rfl, HB_w.out⟩

end Go.Proofs.YtofmoggjpgjdgaaDoor
