/- The walk of the law PrintBack. -/
import Derived.Test.YteaojmcfppbgiaaGreatDoorPOnceW
import Derived.Test.YteaojmcfppbgiaaGreatDoorPDcl
import Derived.Test.YteaojmcfppbgiaaGreatDoorDSame
import Derived.Deep.RegionHeld3
import Derived.Deep.Cut
import Derived.Deep.CutRange
namespace Go.Proofs.YteaojmcfppbgiaaGreatDoor
open Go.RowKit
set_option linter.unusedVariables false
set_option maxRecDepth 100000

def tbytes (X : Tx) : ByteArray := ⟨X.toArray⟩
theorem text_told {X : Tx} (h : X.length ≤ 65535) : textS true X = tbytes X ∧ textE true X = 0 ∧ bytesL (tbytes X) = toI X ∧ (tbytes X).size ≤ 65535 := by
  refine ⟨by unfold textS; rw [if_pos ⟨rfl, h⟩]; rfl, by unfold textE; rw [if_pos rfl, if_pos h], toI_ba X, by simpa [tbytes, ByteArray.size] using h⟩
theorem expr_again {t : RT} (h : (fitB t && goodB t false) = true) (hz : t.size < 600) :
    ∃ t' z, sameB t' t = true ∧ (z : St).e = 0 ∧ textS true (exprX t 0) = tbytes (exprX t 0) ∧ textE true (exprX t 0) = 0 ∧ ∀ w, Calls Tryz.prog 13 #[.string (tbytes (exprX t 0))] w (ExprOut t' z (tbytes (exprX t 0)).size w) := by
  obtain ⟨hd, P, hP⟩ := expr_pe (t := t) h 0 0
  rw [Bool.and_eq_true] at h
  obtain ⟨hf, hg⟩ := h
  have hl := exprX_len t hg 0
  obtain ⟨h1, h2, h3, h4⟩ := text_told (X := exprX t 0) (by omega)
  have hp := (pe_len hP).1
  obtain ⟨t', z, e1, e2, e3⟩ := expr_back hP hd (by omega) h3 h4
  have hs := eqv_size e1
  have hf' : fitB t' = true := fitB_true.2 (by have := fitB_true.1 hf; omega)
  exact ⟨t', z, eqv_sameB e1 hf', e2, h1, h2, e3⟩
theorem pat_again {t : RT} (h : (fitB t && goodB t true) = true) (hz : t.size < 600) :
    ∃ t' z, sameB t' t = true ∧ (z : St).e = 0 ∧ textS true (patX t) = tbytes (patX t) ∧ textE true (patX t) = 0 ∧ ∀ w, Calls Tryz.prog 16 #[.string (tbytes (patX t))] w (PatsOut [t'] z (tbytes (patX t)).size w) := by
  rw [Bool.and_eq_true] at h
  obtain ⟨hf, hg⟩ := h
  obtain ⟨P, hP⟩ := good_pp t hg 0
  have hl := patX_len t hg
  obtain ⟨h1, h2, h3, h4⟩ := text_told (X := patX t) (by omega)
  have hp := pp_len hP
  rw [sizeL_cons, sizeL_nil] at hp
  have hd : deepN t ≤ 128 := by
    unfold fitB at hf
    exact of_decide_eq_true hf
  obtain ⟨t', z, e1, e2, e3⟩ := pat_back hP hd (by omega) h3 h4
  have hs := eqv_size e1
  have hf' : fitB t' = true := fitB_true.2 (by have := fitB_true.1 hf; omega)
  exact ⟨t', z, eqv_sameB e1 hf', e2, h1, h2, e3⟩
theorem decl_again {x : DT} (h : declB x = true) (hz : (declX x).length ≤ 65535) :
    ∃ (L : List (Int × ByteArray × Nat)) (stop : Nat) (E : Int), (∀ w, Calls Tryz.prog 46 #[.string (tbytes (declX x))] w fun e w' => ∃ v, e = .returned (.tuple #[v, .int .i64 stop, .int .i64 E]) ∧ AllOut w w' v L (tbytes (declX x)).size E ∧ Below w.heap.size w w') ∧
      ((if E = 0 then (L.length : Int) + 1 else 9999) ≤ 8192 → ∃ x' z, sameDc x' x = true ∧ (z : St).e = 0 ∧ ∀ w, Calls Tryz.prog 18 #[.string (tbytes (declX x))] w (DeclsOut [x'] z (tbytes (declX x)).size w)) := by
  obtain ⟨h1, h2, h3, h4⟩ := text_told (X := declX x) hz
  obtain ⟨P, hP⟩ := file_ex (l := [x]) (fun y hy => by rw [List.mem_singleton.1 hy]; exact h)
  have h3' : bytesL (tbytes (declX x)) = toI (fileX [x]) := by rw [fileX_one]; exact h3
  obtain ⟨L, stop, E, t1, t2, t3⟩ := file_tokens hP h3' h4
  refine ⟨L, stop, E, t3, fun hm => ?_⟩
  have hPl : P.length ≤ 8192 := by
    by_cases hE : E = 0
    · exact (t1 hE).2
    · rw [if_neg hE] at hm; omega
  obtain ⟨l', z, e1, e2, e3, e4, e5⟩ := file_back2 hP (by simp) hPl h3' h4
  match l', e1 with
  | [x'], .cons e1 _ => exact ⟨x', z, eqv_sameD e1 (e2 x' (by simp)), e4, e5⟩

theorem good_excl {t : RT} (h : goodB t false = true) : goodB t true = false := by
  cases t with
  | node k a s n l =>
    cases h2 : goodB (.node k a s n l) true with
    | false => rfl
    | true =>
      rw [goodB_node] at h h2
      simp only [Bool.and_eq_true] at h h2
      have h3 := h.1
      have h4 := h2.1
      unfold topB at h3 h4
      simp only [Bool.and_eq_true] at h3 h4
      have e1 := h3.2.2.1
      have e2 := h4.2.2.1
      cases hd : decide (5 < k) <;> rw [hd] at e1 e2 <;> simp at e1 e2
set_option maxHeartbeats 16000000 in
theorem back_walk (t : RT) (A : Option Addr) (c : Nat) (x : DT) (p : DP) (w : World) (h : IsNode w 0 w.heap.size t A c) (hd : IsDecl w 0 w.heap.size x p) (hT : Tabs w) :
    Calls Tryz.prog 4 #[nodeV t A c, declV x p] w fun e w' => e = .returned (.bool true) ∧ Below w.heap.size w w' := by
  have HB0 := Lib.hid (show ∀ o1 o2, Below w.heap.size w ((w.alloc o1).alloc o2) from fun o1 o2 => ((Below.refl _ _).alloc (Nat.le_refl _) o1).alloc (by simp) o2)
  have HT := Lib.hid hT
  have HN := Lib.hid h
  have HD := Lib.hid hd
  have HOF := Lib.hid (fun V (hV : Below w.heap.size w V) => of_any t 0 w.heap.size A c V (h.kept hV (Nat.le_refl _)) hV.size)
  have HDC := Lib.hid (fun V (hV : Below w.heap.size w V) => decl6_any x p 0 w.heap.size V (hd.kept hV (Nat.le_refl _)) hV.size)
  unfold OfIs nodeV at HOF
  unfold DeclIs declV at HDC
  have HSZ : Hid (ofB t = true → t.size < 600) := Lib.hid (fun h => (of_yes h).2)
  obtain ⟨b1, hb1⟩ : ∃ b, ofB t = b := ⟨_, rfl⟩
  rw [hb1] at HOF HSZ
  obtain ⟨t0, ht0⟩ : ∃ u, ofT t = u := ⟨_, rfl⟩
  rw [ht0] at HOF
  clear hT h hd hb1 ht0
  unfold nodeV declV
  go_enter Tryz.func4, Tryz.ntmps4
  go_wp2_with fail
  refine (HOF.out _ (HB0.out _ _)).mono ?_
  rintro e w1 ⟨A1, c1, rfl, -, hd1⟩
  have hs1 := hd1.size
  simp at hs1
  have HBN1 : Hid (Bk w1 w.heap.size 36 #[.int .i64 t.k, .int .i64 t.a, .string t.s, .int .i64 t.n, .slice A t.l.length c]) := Lib.hid (((Bk.new w 36 #[.int .i64 t.k, .int .i64 t.a, .string t.s, .int .i64 t.n, .slice A t.l.length c]).alloc _).below hd1 (by simp; omega))
  have HBD1 : Hid (Bk w1 (w.heap.size + 1) 39 #[.int .i64 x.k, .int .i64 x.a, .string x.s, .slice p.A x.te.length p.a, .int .i64 x.t.k, .int .i64 x.t.a, .string x.t.s, .int .i64 x.t.n, .slice p.F x.t.l.length p.C, .slice p.B x.co.length p.b, .slice p.D x.ro.length p.d]) := Lib.hid (by
    have := (Bk.new (w.alloc (.cells #[.int .i64 t.k, .int .i64 t.a, .string t.s, .int .i64 t.n, .slice A t.l.length c] 36)) 39 #[.int .i64 x.k, .int .i64 x.a, .string x.s, .slice p.A x.te.length p.a, .int .i64 x.t.k, .int .i64 x.t.a, .string x.t.s, .int .i64 x.t.n, .slice p.F x.t.l.length p.C, .slice p.B x.co.length p.b, .slice p.D x.ro.length p.d]).below hd1 (by simp)
    simpa using this)
  have HBW1 := Lib.hid ((HB0.out _ _).trans (hd1.mono (by simp; omega)))
  obtain ⟨x0, x1, x2, x3, x4, x5, x6, x7, x8, x9, x10⟩ := HBD1.out.q11
  have hdl1 := HBD1.out.lt
  clear hd1
  go_wp2_with fail
  refine (HDC.out _ (HBW1.out.alloc HBW1.out.size _)).mono ?_
  rintro e w2 ⟨ok, x9', q9, rfl, -, hd2⟩
  have hs2 := hd2.size
  have HBN2 := Lib.hid ((HBN1.out.alloc _).below hd2 (HBN1.out.alloc _).lt)
  have HBD2 := Lib.hid ((HBD1.out.alloc _).below hd2 (HBD1.out.alloc _).lt)
  have HBW2 := Lib.hid ((HBW1.out.alloc HBW1.out.size _).trans (hd2.mono (by have := HBW1.out.size; simp; omega)))
  clear hd2 x0 x1 x2 x3 x4 x5 x6 x7 x8 x9 x10 hdl1 HDC HOF
  have HPE := Lib.hid (fun V (hV : Below w.heap.size w V) => printExpr_any t 0 w.heap.size A c V (HN.out.kept hV (Nat.le_refl _)) hV.size (HT.out.below hV).1 (HT.out.below hV).2.2.1)
  have HPP := Lib.hid (fun V (hV : Below w.heap.size w V) => printPattern_any t 0 w.heap.size A c V (HN.out.kept hV (Nat.le_refl _)) hV.size (HT.out.below hV).1 (HT.out.below hV).2.2.1)
  unfold TextIs nodeV at HPE HPP
  obtain ⟨n0, n1, n2, n3, n4⟩ := HBN2.out.q5
  have hnl := HBN2.out.lt
  have hdl2 := HBD2.out.lt
  clear HBN1 HBD1 HBW1
  cases b1 with
  | false =>
    go_wp2_with fail
    refine (awake_tabs (HT.out.below (HBW2.out.alloc HBW2.out.size _))).mono ?_; rintro e w3 ⟨rfl, hb3⟩
    go_wp2_with fail
    go_ret
    exact ⟨rfl, (HBW2.out.alloc HBW2.out.size _).trans (hb3.mono (by have := HBW2.out.size; simp; omega))⟩
  | true =>
    cases ok with
    | false =>
      go_wp2_with fail
      refine (awake_tabs (HT.out.below (HBW2.out.alloc HBW2.out.size _))).mono ?_; rintro e w3 ⟨rfl, hb3⟩
      go_wp2_with fail
      go_ret
      exact ⟨rfl, (HBW2.out.alloc HBW2.out.size _).trans (hb3.mono (by have := HBW2.out.size; simp; omega))⟩
    | true =>
      cases hr1 : (fitB t && goodB t false) with
      | true =>
        have hr2 : (fitB t && goodB t true) = false := by
          rw [Bool.and_eq_true] at hr1
          rw [good_excl hr1.2, Bool.and_false]
        obtain ⟨t', z, hsm, hz, hS, hE, hback⟩ := expr_again hr1 (HSZ.out (by first | rfl | trivial))
        obtain ⟨u, hu⟩ : ∃ u, tbytes (exprX t 0) = u := ⟨_, rfl⟩
        rw [hr1, hS, hE, hu] at HPE
        rw [hu] at hback
        rw [hr2, show textS false (patX t) = ⟨#[]⟩ from rfl, show textE false (patX t) = 5 from rfl] at HPP
        have HSM := Lib.hid hsm
        have HZ := Lib.hid hz
        have HBA := Lib.hid hback
        clear hsm hz hS hE hback hu hr1 hr2
        go_wp2_with fail
        refine (HPE.out _ (HBW2.out.alloc HBW2.out.size _)).mono ?_; rintro e w5 ⟨rfl, hb5⟩
        have HB5 := Lib.hid ((HBW2.out.alloc HBW2.out.size _).trans (hb5.mono (by have := HBW2.out.size; simp; omega)))
        have HN5 := Lib.hid ((HBN2.out.alloc _).below hb5 (HBN2.out.alloc _).lt)
        have HD5 := Lib.hid ((HBD2.out.alloc _).below hb5 (HBD2.out.alloc _).lt)
        clear hb5 n0 n1 n2 n3 n4 hnl
        go_wp2_with fail
        refine (HBA.out _).mono ?_; rintro e w6 ⟨hb6, hok, -⟩
        obtain ⟨A6, c6, rfl, hn6⟩ := hok HZ.out
        clear hok
        have HB6 := Lib.hid (HB5.out.trans (hb6.mono HB5.out.size))
        have HN6 := Lib.hid (HN5.out.below hb6 HN5.out.lt)
        have HD6 := Lib.hid (HD5.out.below hb6 HD5.out.lt)
        have HM6 := Lib.hid hn6
        unfold nodeV
        obtain ⟨n0, n1, n2, n3, n4⟩ := HN6.out.q5
        have hnl := HN6.out.lt
        have HAL : Hid (∀ o, Below w6.heap.size w6 (w6.alloc o)) := Lib.hid (fun o => (Below.refl _ _).alloc (Nat.le_refl _) o)
        have HSAME : Hid (∀ o, Calls Tryz.prog 14 #[nodeV t' A6 c6, nodeV t A c] (w6.alloc o) fun e w' => e = .returned (.bool true) ∧ Below (w6.alloc o).heap.size (w6.alloc o) w') := Lib.hid (fun o => by
          have := tSame_any t' t w5.heap.size w6.heap.size 0 w.heap.size A6 A c6 c (w6.alloc o) (HM6.out.kept (HAL.out o) (Nat.le_refl _)) (HN.out.kept (HB6.out.trans ((HAL.out o).mono HB6.out.size)) (Nat.le_refl _)) (by simp) (by have := HB6.out.size; simp; omega)
          rw [HSM.out] at this
          exact this)
        unfold nodeV at HSAME
        clear hb6 hn6
        go_wp2_with fail
        refine (HSAME.out _).mono ?_; rintro e w7 ⟨rfl, hb7⟩
        have HB7 := Lib.hid ((HB6.out.alloc HB6.out.size _).trans (hb7.mono (by have := HB6.out.size; simp; omega)))
        have HN7 := Lib.hid ((HN6.out.alloc _).below hb7 (HN6.out.alloc _).lt)
        have HD7 := Lib.hid ((HD6.out.alloc _).below hb7 (HD6.out.alloc _).lt)
        clear hb7 n0 n1 n2 n3 n4 hnl
        obtain ⟨n0, n1, n2, n3, n4⟩ := HN7.out.q5
        have hnl := HN7.out.lt
        go_wp2_with fail
        refine (HPP.out _ HB7.out).mono ?_; rintro e w8 ⟨rfl, hb8⟩
        have HBW := Lib.hid (HB7.out.trans (hb8.mono HB7.out.size))
        have HBD := Lib.hid (HD7.out.below hb8 HD7.out.lt)
        clear hb8 n0 n1 n2 n3 n4 hnl
        have HPD := Lib.hid (printDecl_any x 0 w.heap.size p w8 (HD.out.kept HBW.out (Nat.le_refl _)) HBW.out.size (HT.out.below HBW.out).1 (HT.out.below HBW.out).2.1 (HT.out.below HBW.out).2.2.1 (HT.out.below HBW.out).2.2.2.1)
        unfold TextIs declV at HPD
        obtain ⟨d0, d1, d2, d3, d4, d5, d6, d7, d8, d9, d10⟩ := HBD.out.q11
        have hdl := HBD.out.lt
        cases hdr : declB x with
        | false =>
          rw [hdr, show textS false (declX x) = ⟨#[]⟩ from rfl, show textE false (declX x) = 5 from rfl] at HPD
          have hee : ((⟨#[]⟩ : ByteArray).toList == (⟨#[]⟩ : ByteArray).toList) = true := str_eq_true rfl
          clear hdr
          go_wp2_with fail
          refine HPD.out.mono ?_; rintro e w20 ⟨rfl, hb20⟩
          have HB20 := Lib.hid (HBW.out.trans (hb20.mono HBW.out.size))
          clear hb20
          go_wp2_with fail
          refine (awake_tabs (HT.out.below HB20.out)).mono ?_; rintro e w21 ⟨rfl, hb21⟩
          go_wp2_with fail
          go_ret
          exact ⟨rfl, HB20.out.trans (hb21.mono HB20.out.size)⟩
        | true =>
          rw [hdr] at HPD
          by_cases hX : (declX x).length ≤ 65535
          · obtain ⟨hS1, hS2, -, -⟩ := text_told hX
            obtain ⟨L, stop, E, htk, hgo⟩ := decl_again hdr hX
            rw [hS1, hS2] at HPD
            obtain ⟨u, hu⟩ : ∃ u, tbytes (declX x) = u := ⟨_, rfl⟩
            rw [hu] at HPD htk hgo
            have HTK := Lib.hid (fun V => tokens_any (htk V))
            obtain ⟨m, hm⟩ : ∃ m : Int, (if E = 0 then (L.length : Int) + 1 else 9999) = m := ⟨_, rfl⟩
            rw [hm] at HTK hgo
            clear hS1 hS2 hu hm htk hX hdr
            by_cases hbig : 8192 < m
            · have hdm : decide ((8192 : Int) < m) = true := decide_eq_true hbig
              clear hbig hgo
              go_wp2_with fail
              refine HPD.out.mono ?_; rintro e w20 ⟨rfl, hb20⟩
              have HB20 := Lib.hid (HBW.out.trans (hb20.mono HBW.out.size))
              clear hb20
              go_wp2_with fail
              refine (HTK.out _).mono ?_; rintro e w22 ⟨rfl, hb22⟩
              have HB22 := Lib.hid (HB20.out.trans (hb22.mono HB20.out.size))
              clear hb22
              go_wp2_with fail
              refine (awake_tabs (HT.out.below HB22.out)).mono ?_; rintro e w21 ⟨rfl, hb21⟩
              go_wp2_with fail
              go_ret
              exact ⟨rfl, HB22.out.trans (hb21.mono HB22.out.size)⟩
            · have hdm : decide ((8192 : Int) < m) = false := decide_eq_false hbig
              obtain ⟨x', z, hsd, hz, hback⟩ := hgo (by omega)
              have HSD := Lib.hid hsd
              have HZ := Lib.hid hz
              have HBA := Lib.hid hback
              clear hbig hgo hsd hz hback
              go_wp2_with fail
              refine HPD.out.mono ?_; rintro e w20 ⟨rfl, hb20⟩
              have HB20 := Lib.hid (HBW.out.trans (hb20.mono HBW.out.size))
              have HD20 := Lib.hid (HBD.out.below hb20 HBD.out.lt)
              clear hb20
              go_wp2_with fail
              refine (HTK.out _).mono ?_; rintro e w22 ⟨rfl, hb22⟩
              have HB22 := Lib.hid (HB20.out.trans (hb22.mono HB20.out.size))
              have HD22 := Lib.hid (HD20.out.below hb22 HD20.out.lt)
              clear hb22
              go_wp2_with fail
              refine (HBA.out _).mono ?_; rintro e w23 ⟨hb23, hok, -⟩
              obtain ⟨B, c2, rfl, hl2, hc2, hda2⟩ := hok HZ.out
              clear hok
              obtain ⟨bs, os, q, hA, hq1, hq2, hq3, hq4⟩ := (decls_in hda2) 0 (by simp)
              subst hA
              have HB23 := Lib.hid (HB22.out.trans (hb23.mono HB22.out.size))
              have HD23 := Lib.hid (HD22.out.below hb23 HD22.out.lt)
              have hq3 : CellsD w23 bs os x' q := by simpa using hq3
              have hq4 : IsDecl w23 w22.heap.size w23.heap.size x' q := hq4
              have HQ4 := Lib.hid hq4
              have hbs : bs < w23.heap.size := hq2
              have hdl3 := HD23.out.lt
              have HDX := Lib.hid (HD.out.kept HB23.out (Nat.le_refl _))
              have HKEEP : Hid (∀ V, Below w23.heap.size w23 V → (V.cell? ⟨bs, os, none⟩ = some (.int .i64 x'.k) ∧ V.cell? ⟨bs, os + 1, none⟩ = some (.int .i64 x'.a) ∧ V.cell? ⟨bs, os + 2, none⟩ = some (.string x'.s) ∧ V.cell? ⟨bs, os + 3, none⟩ = some (.slice q.A x'.te.length q.a) ∧ V.cell? ⟨bs, os + 4, none⟩ = some (.int .i64 x'.t.k) ∧ V.cell? ⟨bs, os + 5, none⟩ = some (.int .i64 x'.t.a) ∧ V.cell? ⟨bs, os + 6, none⟩ = some (.string x'.t.s) ∧ V.cell? ⟨bs, os + 7, none⟩ = some (.int .i64 x'.t.n) ∧ V.cell? ⟨bs, os + 8, none⟩ = some (.slice q.F x'.t.l.length q.C) ∧ V.cell? ⟨bs, os + 9, none⟩ = some (.slice q.B x'.co.length q.b) ∧ V.cell? ⟨bs, os + 10, none⟩ = some (.slice q.D x'.ro.length q.d)) ∧ (V.cell? ⟨w.heap.size + 1, 0, none⟩ = some (.int .i64 x.k) ∧ V.cell? ⟨w.heap.size + 1, 1, none⟩ = some (.int .i64 x.a) ∧ V.cell? ⟨w.heap.size + 1, 2, none⟩ = some (.string x.s) ∧ V.cell? ⟨w.heap.size + 1, 3, none⟩ = some (.slice p.A x.te.length p.a) ∧ V.cell? ⟨w.heap.size + 1, 4, none⟩ = some (.int .i64 x.t.k) ∧ V.cell? ⟨w.heap.size + 1, 5, none⟩ = some (.int .i64 x.t.a) ∧ V.cell? ⟨w.heap.size + 1, 6, none⟩ = some (.string x.t.s) ∧ V.cell? ⟨w.heap.size + 1, 7, none⟩ = some (.int .i64 x.t.n) ∧ V.cell? ⟨w.heap.size + 1, 8, none⟩ = some (.slice p.F x.t.l.length p.C) ∧ V.cell? ⟨w.heap.size + 1, 9, none⟩ = some (.slice p.B x.co.length p.b) ∧ V.cell? ⟨w.heap.size + 1, 10, none⟩ = some (.slice p.D x.ro.length p.d))) :=
                Lib.hid (fun V hV => ⟨hq3.kept hV hq2, (HD23.out.below hV HD23.out.lt).q11⟩)
              have HSAME : Hid (∀ V, Below w23.heap.size w23 V → Calls Tryz.prog 19 #[declV x' q, declV x p] V fun e w' => e = .returned (.bool true) ∧ Below V.heap.size V w') := Lib.hid (fun V hV => by
                have := sameDecl_any x' x w22.heap.size w23.heap.size 0 w.heap.size q p V (HQ4.out.kept hV (Nat.le_refl _)) (HDX.out.kept hV HB23.out.size) hV.size (Nat.le_trans HB23.out.size hV.size)
                rw [HSD.out] at this
                exact this)
              have HAWK : Hid (∀ V, Below w23.heap.size w23 V → Calls Tryz.prog 7 #[] V fun e w' => e = .returned (.bool true) ∧ Below V.heap.size V w') := Lib.hid (fun V hV => awake_tabs (HT.out.below (HB23.out.trans (hV.mono HB23.out.size))))
              unfold declV at HSAME
              obtain ⟨y0, y1, y2, y3, y4, y5, y6, y7, y8, y9, y10⟩ := hq3
              obtain ⟨v0, v1, v2, v3, v4, v5, v6, v7, v8, v9, v10⟩ := HD23.out.q11
              have hbk := Lib.hid ((Below.refl w23.heap.size w23).drew)
              clear hb23 hda2 hq1 hq2 hq4 hl2 hc2 d0 d1 d2 d3 d4 d5 d6 d7 d8 d9 d10 hdl
              go_wp2_with fail
              go_region_held3 (fun V => Below w23.heap.size w23 V ∧ (V.cell? ⟨bs, os, none⟩ = some (.int .i64 x'.k) ∧ V.cell? ⟨bs, os + 1, none⟩ = some (.int .i64 x'.a) ∧ V.cell? ⟨bs, os + 2, none⟩ = some (.string x'.s) ∧ V.cell? ⟨bs, os + 3, none⟩ = some (.slice q.A x'.te.length q.a) ∧ V.cell? ⟨bs, os + 4, none⟩ = some (.int .i64 x'.t.k) ∧ V.cell? ⟨bs, os + 5, none⟩ = some (.int .i64 x'.t.a) ∧ V.cell? ⟨bs, os + 6, none⟩ = some (.string x'.t.s) ∧ V.cell? ⟨bs, os + 7, none⟩ = some (.int .i64 x'.t.n) ∧ V.cell? ⟨bs, os + 8, none⟩ = some (.slice q.F x'.t.l.length q.C) ∧ V.cell? ⟨bs, os + 9, none⟩ = some (.slice q.B x'.co.length q.b) ∧ V.cell? ⟨bs, os + 10, none⟩ = some (.slice q.D x'.ro.length q.d)) ∧ (V.cell? ⟨w.heap.size + 1, 0, none⟩ = some (.int .i64 x.k) ∧ V.cell? ⟨w.heap.size + 1, 1, none⟩ = some (.int .i64 x.a) ∧ V.cell? ⟨w.heap.size + 1, 2, none⟩ = some (.string x.s) ∧ V.cell? ⟨w.heap.size + 1, 3, none⟩ = some (.slice p.A x.te.length p.a) ∧ V.cell? ⟨w.heap.size + 1, 4, none⟩ = some (.int .i64 x.t.k) ∧ V.cell? ⟨w.heap.size + 1, 5, none⟩ = some (.int .i64 x.t.a) ∧ V.cell? ⟨w.heap.size + 1, 6, none⟩ = some (.string x.t.s) ∧ V.cell? ⟨w.heap.size + 1, 7, none⟩ = some (.int .i64 x.t.n) ∧ V.cell? ⟨w.heap.size + 1, 8, none⟩ = some (.slice p.F x.t.l.length p.C) ∧ V.cell? ⟨w.heap.size + 1, 9, none⟩ = some (.slice p.B x.co.length p.b) ∧ V.cell? ⟨w.heap.size + 1, 10, none⟩ = some (.slice p.D x.ro.length p.d)))
                (first | exact ⟨hbk.out, HKEEP.out _ hbk.out⟩)
                (first
                  | (go_at_call 19; (with_reducible refine (HSAME.out _ hbk.out).mono ?_); rintro e w24 ⟨rfl, hb24⟩; have hbk := Lib.hid (hbk.out.trans (hb24.mono hbk.out.size)); clear hb24)
                  | (go_at_call 7; (with_reducible refine (HAWK.out _ hbk.out).mono ?_); rintro e w24 ⟨rfl, hb24⟩; have hbk := Lib.hid (hbk.out.trans (hb24.mono hbk.out.size)); clear hb24))
              all_goals
                go_wp2_with fail
                go_ret
                exact ⟨rfl, HB23.out.trans (hbk.out.mono HB23.out.size)⟩
          · have hS0 : textS true (declX x) = ⟨#[]⟩ := by unfold textS; rw [if_neg (fun h => hX h.2)]
            have hE0 : textE true (declX x) = 2 := by unfold textE; rw [if_pos rfl, if_neg hX]
            rw [hS0, hE0] at HPD
            have hee : ((⟨#[]⟩ : ByteArray).toList == (⟨#[]⟩ : ByteArray).toList) = true := str_eq_true rfl
            clear hS0 hE0 hX hdr
            go_wp2_with fail
            refine HPD.out.mono ?_; rintro e w20 ⟨rfl, hb20⟩
            have HB20 := Lib.hid (HBW.out.trans (hb20.mono HBW.out.size))
            clear hb20
            go_wp2_with fail
            refine (awake_tabs (HT.out.below HB20.out)).mono ?_; rintro e w21 ⟨rfl, hb21⟩
            go_wp2_with fail
            go_ret
            exact ⟨rfl, HB20.out.trans (hb21.mono HB20.out.size)⟩
      | false =>
        rw [hr1, show textS false (exprX t 0) = ⟨#[]⟩ from rfl, show textE false (exprX t 0) = 5 from rfl] at HPE
        clear hr1
        go_wp2_with fail
        refine (HPE.out _ (HBW2.out.alloc HBW2.out.size _)).mono ?_; rintro e w5 ⟨rfl, hb5⟩
        have HB5 := Lib.hid ((HBW2.out.alloc HBW2.out.size _).trans (hb5.mono (by have := HBW2.out.size; simp; omega)))
        have HN5 := Lib.hid ((HBN2.out.alloc _).below hb5 (HBN2.out.alloc _).lt)
        have HD5 := Lib.hid ((HBD2.out.alloc _).below hb5 (HBD2.out.alloc _).lt)
        clear hb5 n0 n1 n2 n3 n4 hnl
        obtain ⟨n0, n1, n2, n3, n4⟩ := HN5.out.q5
        have hnl := HN5.out.lt
        cases hr2 : (fitB t && goodB t true) with
        | false =>
          rw [hr2, show textS false (patX t) = ⟨#[]⟩ from rfl, show textE false (patX t) = 5 from rfl] at HPP
          clear hr2
          go_wp2_with fail
          refine (HPP.out _ HB5.out).mono ?_; rintro e w8 ⟨rfl, hb8⟩
          have HBW := Lib.hid (HB5.out.trans (hb8.mono HB5.out.size))
          have HBD := Lib.hid (HD5.out.below hb8 HD5.out.lt)
          clear hb8 n0 n1 n2 n3 n4 hnl
          have HPD := Lib.hid (printDecl_any x 0 w.heap.size p w8 (HD.out.kept HBW.out (Nat.le_refl _)) HBW.out.size (HT.out.below HBW.out).1 (HT.out.below HBW.out).2.1 (HT.out.below HBW.out).2.2.1 (HT.out.below HBW.out).2.2.2.1)
          unfold TextIs declV at HPD
          obtain ⟨d0, d1, d2, d3, d4, d5, d6, d7, d8, d9, d10⟩ := HBD.out.q11
          have hdl := HBD.out.lt
          cases hdr : declB x with
          | false =>
            rw [hdr, show textS false (declX x) = ⟨#[]⟩ from rfl, show textE false (declX x) = 5 from rfl] at HPD
            have hee : ((⟨#[]⟩ : ByteArray).toList == (⟨#[]⟩ : ByteArray).toList) = true := str_eq_true rfl
            clear hdr
            go_wp2_with fail
            refine HPD.out.mono ?_; rintro e w20 ⟨rfl, hb20⟩
            have HB20 := Lib.hid (HBW.out.trans (hb20.mono HBW.out.size))
            clear hb20
            go_wp2_with fail
            refine (awake_tabs (HT.out.below HB20.out)).mono ?_; rintro e w21 ⟨rfl, hb21⟩
            go_wp2_with fail
            go_ret
            exact ⟨rfl, HB20.out.trans (hb21.mono HB20.out.size)⟩
          | true =>
            rw [hdr] at HPD
            by_cases hX : (declX x).length ≤ 65535
            · obtain ⟨hS1, hS2, -, -⟩ := text_told hX
              obtain ⟨L, stop, E, htk, hgo⟩ := decl_again hdr hX
              rw [hS1, hS2] at HPD
              obtain ⟨u, hu⟩ : ∃ u, tbytes (declX x) = u := ⟨_, rfl⟩
              rw [hu] at HPD htk hgo
              have HTK := Lib.hid (fun V => tokens_any (htk V))
              obtain ⟨m, hm⟩ : ∃ m : Int, (if E = 0 then (L.length : Int) + 1 else 9999) = m := ⟨_, rfl⟩
              rw [hm] at HTK hgo
              clear hS1 hS2 hu hm htk hX hdr
              by_cases hbig : 8192 < m
              · have hdm : decide ((8192 : Int) < m) = true := decide_eq_true hbig
                clear hbig hgo
                go_wp2_with fail
                refine HPD.out.mono ?_; rintro e w20 ⟨rfl, hb20⟩
                have HB20 := Lib.hid (HBW.out.trans (hb20.mono HBW.out.size))
                clear hb20
                go_wp2_with fail
                refine (HTK.out _).mono ?_; rintro e w22 ⟨rfl, hb22⟩
                have HB22 := Lib.hid (HB20.out.trans (hb22.mono HB20.out.size))
                clear hb22
                go_wp2_with fail
                refine (awake_tabs (HT.out.below HB22.out)).mono ?_; rintro e w21 ⟨rfl, hb21⟩
                go_wp2_with fail
                go_ret
                exact ⟨rfl, HB22.out.trans (hb21.mono HB22.out.size)⟩
              · have hdm : decide ((8192 : Int) < m) = false := decide_eq_false hbig
                obtain ⟨x', z, hsd, hz, hback⟩ := hgo (by omega)
                have HSD := Lib.hid hsd
                have HZ := Lib.hid hz
                have HBA := Lib.hid hback
                clear hbig hgo hsd hz hback
                go_wp2_with fail
                refine HPD.out.mono ?_; rintro e w20 ⟨rfl, hb20⟩
                have HB20 := Lib.hid (HBW.out.trans (hb20.mono HBW.out.size))
                have HD20 := Lib.hid (HBD.out.below hb20 HBD.out.lt)
                clear hb20
                go_wp2_with fail
                refine (HTK.out _).mono ?_; rintro e w22 ⟨rfl, hb22⟩
                have HB22 := Lib.hid (HB20.out.trans (hb22.mono HB20.out.size))
                have HD22 := Lib.hid (HD20.out.below hb22 HD20.out.lt)
                clear hb22
                go_wp2_with fail
                refine (HBA.out _).mono ?_; rintro e w23 ⟨hb23, hok, -⟩
                obtain ⟨B, c2, rfl, hl2, hc2, hda2⟩ := hok HZ.out
                clear hok
                obtain ⟨bs, os, q, hA, hq1, hq2, hq3, hq4⟩ := (decls_in hda2) 0 (by simp)
                subst hA
                have HB23 := Lib.hid (HB22.out.trans (hb23.mono HB22.out.size))
                have HD23 := Lib.hid (HD22.out.below hb23 HD22.out.lt)
                have hq3 : CellsD w23 bs os x' q := by simpa using hq3
                have hq4 : IsDecl w23 w22.heap.size w23.heap.size x' q := hq4
                have HQ4 := Lib.hid hq4
                have hbs : bs < w23.heap.size := hq2
                have hdl3 := HD23.out.lt
                have HDX := Lib.hid (HD.out.kept HB23.out (Nat.le_refl _))
                have HKEEP : Hid (∀ V, Below w23.heap.size w23 V → (V.cell? ⟨bs, os, none⟩ = some (.int .i64 x'.k) ∧ V.cell? ⟨bs, os + 1, none⟩ = some (.int .i64 x'.a) ∧ V.cell? ⟨bs, os + 2, none⟩ = some (.string x'.s) ∧ V.cell? ⟨bs, os + 3, none⟩ = some (.slice q.A x'.te.length q.a) ∧ V.cell? ⟨bs, os + 4, none⟩ = some (.int .i64 x'.t.k) ∧ V.cell? ⟨bs, os + 5, none⟩ = some (.int .i64 x'.t.a) ∧ V.cell? ⟨bs, os + 6, none⟩ = some (.string x'.t.s) ∧ V.cell? ⟨bs, os + 7, none⟩ = some (.int .i64 x'.t.n) ∧ V.cell? ⟨bs, os + 8, none⟩ = some (.slice q.F x'.t.l.length q.C) ∧ V.cell? ⟨bs, os + 9, none⟩ = some (.slice q.B x'.co.length q.b) ∧ V.cell? ⟨bs, os + 10, none⟩ = some (.slice q.D x'.ro.length q.d)) ∧ (V.cell? ⟨w.heap.size + 1, 0, none⟩ = some (.int .i64 x.k) ∧ V.cell? ⟨w.heap.size + 1, 1, none⟩ = some (.int .i64 x.a) ∧ V.cell? ⟨w.heap.size + 1, 2, none⟩ = some (.string x.s) ∧ V.cell? ⟨w.heap.size + 1, 3, none⟩ = some (.slice p.A x.te.length p.a) ∧ V.cell? ⟨w.heap.size + 1, 4, none⟩ = some (.int .i64 x.t.k) ∧ V.cell? ⟨w.heap.size + 1, 5, none⟩ = some (.int .i64 x.t.a) ∧ V.cell? ⟨w.heap.size + 1, 6, none⟩ = some (.string x.t.s) ∧ V.cell? ⟨w.heap.size + 1, 7, none⟩ = some (.int .i64 x.t.n) ∧ V.cell? ⟨w.heap.size + 1, 8, none⟩ = some (.slice p.F x.t.l.length p.C) ∧ V.cell? ⟨w.heap.size + 1, 9, none⟩ = some (.slice p.B x.co.length p.b) ∧ V.cell? ⟨w.heap.size + 1, 10, none⟩ = some (.slice p.D x.ro.length p.d))) :=
                  Lib.hid (fun V hV => ⟨hq3.kept hV hq2, (HD23.out.below hV HD23.out.lt).q11⟩)
                have HSAME : Hid (∀ V, Below w23.heap.size w23 V → Calls Tryz.prog 19 #[declV x' q, declV x p] V fun e w' => e = .returned (.bool true) ∧ Below V.heap.size V w') := Lib.hid (fun V hV => by
                  have := sameDecl_any x' x w22.heap.size w23.heap.size 0 w.heap.size q p V (HQ4.out.kept hV (Nat.le_refl _)) (HDX.out.kept hV HB23.out.size) hV.size (Nat.le_trans HB23.out.size hV.size)
                  rw [HSD.out] at this
                  exact this)
                have HAWK : Hid (∀ V, Below w23.heap.size w23 V → Calls Tryz.prog 7 #[] V fun e w' => e = .returned (.bool true) ∧ Below V.heap.size V w') := Lib.hid (fun V hV => awake_tabs (HT.out.below (HB23.out.trans (hV.mono HB23.out.size))))
                unfold declV at HSAME
                obtain ⟨y0, y1, y2, y3, y4, y5, y6, y7, y8, y9, y10⟩ := hq3
                obtain ⟨v0, v1, v2, v3, v4, v5, v6, v7, v8, v9, v10⟩ := HD23.out.q11
                have hbk := Lib.hid ((Below.refl w23.heap.size w23).drew)
                clear hb23 hda2 hq1 hq2 hq4 hl2 hc2 d0 d1 d2 d3 d4 d5 d6 d7 d8 d9 d10 hdl
                go_wp2_with fail
                go_region_held3 (fun V => Below w23.heap.size w23 V ∧ (V.cell? ⟨bs, os, none⟩ = some (.int .i64 x'.k) ∧ V.cell? ⟨bs, os + 1, none⟩ = some (.int .i64 x'.a) ∧ V.cell? ⟨bs, os + 2, none⟩ = some (.string x'.s) ∧ V.cell? ⟨bs, os + 3, none⟩ = some (.slice q.A x'.te.length q.a) ∧ V.cell? ⟨bs, os + 4, none⟩ = some (.int .i64 x'.t.k) ∧ V.cell? ⟨bs, os + 5, none⟩ = some (.int .i64 x'.t.a) ∧ V.cell? ⟨bs, os + 6, none⟩ = some (.string x'.t.s) ∧ V.cell? ⟨bs, os + 7, none⟩ = some (.int .i64 x'.t.n) ∧ V.cell? ⟨bs, os + 8, none⟩ = some (.slice q.F x'.t.l.length q.C) ∧ V.cell? ⟨bs, os + 9, none⟩ = some (.slice q.B x'.co.length q.b) ∧ V.cell? ⟨bs, os + 10, none⟩ = some (.slice q.D x'.ro.length q.d)) ∧ (V.cell? ⟨w.heap.size + 1, 0, none⟩ = some (.int .i64 x.k) ∧ V.cell? ⟨w.heap.size + 1, 1, none⟩ = some (.int .i64 x.a) ∧ V.cell? ⟨w.heap.size + 1, 2, none⟩ = some (.string x.s) ∧ V.cell? ⟨w.heap.size + 1, 3, none⟩ = some (.slice p.A x.te.length p.a) ∧ V.cell? ⟨w.heap.size + 1, 4, none⟩ = some (.int .i64 x.t.k) ∧ V.cell? ⟨w.heap.size + 1, 5, none⟩ = some (.int .i64 x.t.a) ∧ V.cell? ⟨w.heap.size + 1, 6, none⟩ = some (.string x.t.s) ∧ V.cell? ⟨w.heap.size + 1, 7, none⟩ = some (.int .i64 x.t.n) ∧ V.cell? ⟨w.heap.size + 1, 8, none⟩ = some (.slice p.F x.t.l.length p.C) ∧ V.cell? ⟨w.heap.size + 1, 9, none⟩ = some (.slice p.B x.co.length p.b) ∧ V.cell? ⟨w.heap.size + 1, 10, none⟩ = some (.slice p.D x.ro.length p.d)))
                  (first | exact ⟨hbk.out, HKEEP.out _ hbk.out⟩)
                  (first
                    | (go_at_call 19; (with_reducible refine (HSAME.out _ hbk.out).mono ?_); rintro e w24 ⟨rfl, hb24⟩; have hbk := Lib.hid (hbk.out.trans (hb24.mono hbk.out.size)); clear hb24)
                    | (go_at_call 7; (with_reducible refine (HAWK.out _ hbk.out).mono ?_); rintro e w24 ⟨rfl, hb24⟩; have hbk := Lib.hid (hbk.out.trans (hb24.mono hbk.out.size)); clear hb24))
                all_goals
                  go_wp2_with fail
                  go_ret
                  exact ⟨rfl, HB23.out.trans (hbk.out.mono HB23.out.size)⟩
            · have hS0 : textS true (declX x) = ⟨#[]⟩ := by unfold textS; rw [if_neg (fun h => hX h.2)]
              have hE0 : textE true (declX x) = 2 := by unfold textE; rw [if_pos rfl, if_neg hX]
              rw [hS0, hE0] at HPD
              have hee : ((⟨#[]⟩ : ByteArray).toList == (⟨#[]⟩ : ByteArray).toList) = true := str_eq_true rfl
              clear hS0 hE0 hX hdr
              go_wp2_with fail
              refine HPD.out.mono ?_; rintro e w20 ⟨rfl, hb20⟩
              have HB20 := Lib.hid (HBW.out.trans (hb20.mono HBW.out.size))
              clear hb20
              go_wp2_with fail
              refine (awake_tabs (HT.out.below HB20.out)).mono ?_; rintro e w21 ⟨rfl, hb21⟩
              go_wp2_with fail
              go_ret
              exact ⟨rfl, HB20.out.trans (hb21.mono HB20.out.size)⟩
        | true =>
          obtain ⟨t', z, hsm, hz, hS, hE, hback⟩ := pat_again hr2 (HSZ.out (by first | rfl | trivial))
          obtain ⟨u, hu⟩ : ∃ u, tbytes (patX t) = u := ⟨_, rfl⟩
          rw [hr2, hS, hE, hu] at HPP
          rw [hu] at hback
          have HSM := Lib.hid hsm
          have HZ := Lib.hid hz
          have HBA := Lib.hid hback
          clear hsm hz hS hE hback hu hr2
          go_wp2_with fail
          refine (HPP.out _ HB5.out).mono ?_; rintro e w8 ⟨rfl, hb8⟩
          have HB8 := Lib.hid (HB5.out.trans (hb8.mono HB5.out.size))
          have HN8 := Lib.hid (HN5.out.below hb8 HN5.out.lt)
          have HD8 := Lib.hid (HD5.out.below hb8 HD5.out.lt)
          clear hb8 n0 n1 n2 n3 n4 hnl
          go_wp2_with fail
          refine (HBA.out _).mono ?_; rintro e w9 ⟨hb9, hok, -⟩
          obtain ⟨A9, c9, rfl, hl9, hc9, hn9⟩ := hok HZ.out
          clear hok
          obtain ⟨bs, os, F9, C9, hA, hq1, hq2, hq3, hq4⟩ := hn9 0 (by simp)
          subst hA
          have hq3 : Cells5 w9 bs os t' F9 C9 := by simpa using hq3
          have hq4 : IsNode w9 w8.heap.size w9.heap.size t' F9 C9 := hq4
          have HB9 := Lib.hid (HB8.out.trans (hb9.mono HB8.out.size))
          have HN9 := Lib.hid (HN8.out.below hb9 HN8.out.lt)
          have HD9 := Lib.hid (HD8.out.below hb9 HD8.out.lt)
          have HQ4 := Lib.hid hq4
          have hbs : bs < w9.heap.size := hq2
          have hnl := HN9.out.lt
          have HKEEP : Hid (∀ V, Below w9.heap.size w9 V → (V.cell? ⟨bs, os, none⟩ = some (.int .i64 t'.k) ∧ V.cell? ⟨bs, os + 1, none⟩ = some (.int .i64 t'.a) ∧ V.cell? ⟨bs, os + 2, none⟩ = some (.string t'.s) ∧ V.cell? ⟨bs, os + 3, none⟩ = some (.int .i64 t'.n) ∧ V.cell? ⟨bs, os + 4, none⟩ = some (.slice F9 t'.l.length C9)) ∧ (V.cell? ⟨w.heap.size, 0, none⟩ = some (.int .i64 t.k) ∧ V.cell? ⟨w.heap.size, 1, none⟩ = some (.int .i64 t.a) ∧ V.cell? ⟨w.heap.size, 2, none⟩ = some (.string t.s) ∧ V.cell? ⟨w.heap.size, 3, none⟩ = some (.int .i64 t.n) ∧ V.cell? ⟨w.heap.size, 4, none⟩ = some (.slice A t.l.length c))) :=
            Lib.hid (fun V hV => ⟨(hq3.kept hV hq2).all, (HN9.out.below hV HN9.out.lt).q5⟩)
          have HSAME : Hid (∀ V, Below w9.heap.size w9 V → Calls Tryz.prog 14 #[nodeV t' F9 C9, nodeV t A c] V fun e w' => e = .returned (.bool true) ∧ Below V.heap.size V w') := Lib.hid (fun V hV => by
            have := tSame_any t' t w8.heap.size w9.heap.size 0 w.heap.size F9 A C9 c V (HQ4.out.kept hV (Nat.le_refl _)) (HN.out.kept (HB9.out.trans (hV.mono HB9.out.size)) (Nat.le_refl _)) hV.size (Nat.le_trans HB9.out.size hV.size)
            rw [HSM.out] at this
            exact this)
          unfold nodeV at HSAME
          obtain ⟨y0, y1, y2, y3, y4⟩ := hq3.all
          obtain ⟨n0, n1, n2, n3, n4⟩ := HN9.out.q5
          have hbk := Lib.hid ((Below.refl w9.heap.size w9).drew)
          clear hb9 hn9 hq1 hq2 hq3 hq4 hl9 hc9
          go_upto_region 13 with fail
          go_cut [89] from 75 to 88 (fun s89 wx => s89 = .bool false ∧ Below w9.heap.size w9 wx)
          case first =>
            go_region_held3 (fun V => (V.cell? ⟨bs, os, none⟩ = some (.int .i64 t'.k) ∧ V.cell? ⟨bs, os + 1, none⟩ = some (.int .i64 t'.a) ∧ V.cell? ⟨bs, os + 2, none⟩ = some (.string t'.s) ∧ V.cell? ⟨bs, os + 3, none⟩ = some (.int .i64 t'.n) ∧ V.cell? ⟨bs, os + 4, none⟩ = some (.slice F9 t'.l.length C9)) ∧ (V.cell? ⟨w.heap.size, 0, none⟩ = some (.int .i64 t.k) ∧ V.cell? ⟨w.heap.size, 1, none⟩ = some (.int .i64 t.a) ∧ V.cell? ⟨w.heap.size, 2, none⟩ = some (.string t.s) ∧ V.cell? ⟨w.heap.size, 3, none⟩ = some (.int .i64 t.n) ∧ V.cell? ⟨w.heap.size, 4, none⟩ = some (.slice A t.l.length c)))
              (first | exact HKEEP.out _ hbk.out)
              (first
                | (go_at_call 14; (with_reducible refine (HSAME.out _ hbk.out).mono ?_); rintro e w10 ⟨rfl, hb10⟩; have hbk := Lib.hid (hbk.out.trans (hb10.mono hbk.out.size)); clear hb10))
            all_goals
              go_wp2_with fail
              go_meet
              case rel => exact ⟨rfl, hbk.out⟩
          case rest =>
            rename World => wx
            obtain ⟨rfl, hbx⟩ := hcut
            have HBW := Lib.hid (HB9.out.trans (hbx.mono HB9.out.size))
            have HBD := Lib.hid (HD9.out.below hbx HD9.out.lt)
            clear hbx y0 y1 y2 y3 y4 n0 n1 n2 n3 n4 hnl hbs hbk
            have HPD := Lib.hid (printDecl_any x 0 w.heap.size p wx (HD.out.kept HBW.out (Nat.le_refl _)) HBW.out.size (HT.out.below HBW.out).1 (HT.out.below HBW.out).2.1 (HT.out.below HBW.out).2.2.1 (HT.out.below HBW.out).2.2.2.1)
            unfold TextIs declV at HPD
            obtain ⟨d0, d1, d2, d3, d4, d5, d6, d7, d8, d9, d10⟩ := HBD.out.q11
            have hdl := HBD.out.lt
            cases hdr : declB x with
            | false =>
              rw [hdr, show textS false (declX x) = ⟨#[]⟩ from rfl, show textE false (declX x) = 5 from rfl] at HPD
              have hee : ((⟨#[]⟩ : ByteArray).toList == (⟨#[]⟩ : ByteArray).toList) = true := str_eq_true rfl
              clear hdr
              go_wp2_with fail
              refine HPD.out.mono ?_; rintro e w20 ⟨rfl, hb20⟩
              have HB20 := Lib.hid (HBW.out.trans (hb20.mono HBW.out.size))
              clear hb20
              go_wp2_with fail
              refine (awake_tabs (HT.out.below HB20.out)).mono ?_; rintro e w21 ⟨rfl, hb21⟩
              go_wp2_with fail
              go_ret
              exact ⟨rfl, HB20.out.trans (hb21.mono HB20.out.size)⟩
            | true =>
              rw [hdr] at HPD
              by_cases hX : (declX x).length ≤ 65535
              · obtain ⟨hS1, hS2, -, -⟩ := text_told hX
                obtain ⟨L, stop, E, htk, hgo⟩ := decl_again hdr hX
                rw [hS1, hS2] at HPD
                obtain ⟨u, hu⟩ : ∃ u, tbytes (declX x) = u := ⟨_, rfl⟩
                rw [hu] at HPD htk hgo
                have HTK := Lib.hid (fun V => tokens_any (htk V))
                obtain ⟨m, hm⟩ : ∃ m : Int, (if E = 0 then (L.length : Int) + 1 else 9999) = m := ⟨_, rfl⟩
                rw [hm] at HTK hgo
                clear hS1 hS2 hu hm htk hX hdr
                by_cases hbig : 8192 < m
                · have hdm : decide ((8192 : Int) < m) = true := decide_eq_true hbig
                  clear hbig hgo
                  go_wp2_with fail
                  refine HPD.out.mono ?_; rintro e w20 ⟨rfl, hb20⟩
                  have HB20 := Lib.hid (HBW.out.trans (hb20.mono HBW.out.size))
                  clear hb20
                  go_wp2_with fail
                  refine (HTK.out _).mono ?_; rintro e w22 ⟨rfl, hb22⟩
                  have HB22 := Lib.hid (HB20.out.trans (hb22.mono HB20.out.size))
                  clear hb22
                  go_wp2_with fail
                  refine (awake_tabs (HT.out.below HB22.out)).mono ?_; rintro e w21 ⟨rfl, hb21⟩
                  go_wp2_with fail
                  go_ret
                  exact ⟨rfl, HB22.out.trans (hb21.mono HB22.out.size)⟩
                · have hdm : decide ((8192 : Int) < m) = false := decide_eq_false hbig
                  obtain ⟨x', z, hsd, hz, hback⟩ := hgo (by omega)
                  have HSD := Lib.hid hsd
                  have HZ := Lib.hid hz
                  have HBA := Lib.hid hback
                  clear hbig hgo hsd hz hback
                  go_wp2_with fail
                  refine HPD.out.mono ?_; rintro e w20 ⟨rfl, hb20⟩
                  have HB20 := Lib.hid (HBW.out.trans (hb20.mono HBW.out.size))
                  have HD20 := Lib.hid (HBD.out.below hb20 HBD.out.lt)
                  clear hb20
                  go_wp2_with fail
                  refine (HTK.out _).mono ?_; rintro e w22 ⟨rfl, hb22⟩
                  have HB22 := Lib.hid (HB20.out.trans (hb22.mono HB20.out.size))
                  have HD22 := Lib.hid (HD20.out.below hb22 HD20.out.lt)
                  clear hb22
                  go_wp2_with fail
                  refine (HBA.out _).mono ?_; rintro e w23 ⟨hb23, hok, -⟩
                  obtain ⟨B, c2, rfl, hl2, hc2, hda2⟩ := hok HZ.out
                  clear hok
                  obtain ⟨bs, os, q, hA, hq1, hq2, hq3, hq4⟩ := (decls_in hda2) 0 (by simp)
                  subst hA
                  have HB23 := Lib.hid (HB22.out.trans (hb23.mono HB22.out.size))
                  have HD23 := Lib.hid (HD22.out.below hb23 HD22.out.lt)
                  have hq3 : CellsD w23 bs os x' q := by simpa using hq3
                  have hq4 : IsDecl w23 w22.heap.size w23.heap.size x' q := hq4
                  have HQ4 := Lib.hid hq4
                  have hbs : bs < w23.heap.size := hq2
                  have hdl3 := HD23.out.lt
                  have HDX := Lib.hid (HD.out.kept HB23.out (Nat.le_refl _))
                  have HKEEP : Hid (∀ V, Below w23.heap.size w23 V → (V.cell? ⟨bs, os, none⟩ = some (.int .i64 x'.k) ∧ V.cell? ⟨bs, os + 1, none⟩ = some (.int .i64 x'.a) ∧ V.cell? ⟨bs, os + 2, none⟩ = some (.string x'.s) ∧ V.cell? ⟨bs, os + 3, none⟩ = some (.slice q.A x'.te.length q.a) ∧ V.cell? ⟨bs, os + 4, none⟩ = some (.int .i64 x'.t.k) ∧ V.cell? ⟨bs, os + 5, none⟩ = some (.int .i64 x'.t.a) ∧ V.cell? ⟨bs, os + 6, none⟩ = some (.string x'.t.s) ∧ V.cell? ⟨bs, os + 7, none⟩ = some (.int .i64 x'.t.n) ∧ V.cell? ⟨bs, os + 8, none⟩ = some (.slice q.F x'.t.l.length q.C) ∧ V.cell? ⟨bs, os + 9, none⟩ = some (.slice q.B x'.co.length q.b) ∧ V.cell? ⟨bs, os + 10, none⟩ = some (.slice q.D x'.ro.length q.d)) ∧ (V.cell? ⟨w.heap.size + 1, 0, none⟩ = some (.int .i64 x.k) ∧ V.cell? ⟨w.heap.size + 1, 1, none⟩ = some (.int .i64 x.a) ∧ V.cell? ⟨w.heap.size + 1, 2, none⟩ = some (.string x.s) ∧ V.cell? ⟨w.heap.size + 1, 3, none⟩ = some (.slice p.A x.te.length p.a) ∧ V.cell? ⟨w.heap.size + 1, 4, none⟩ = some (.int .i64 x.t.k) ∧ V.cell? ⟨w.heap.size + 1, 5, none⟩ = some (.int .i64 x.t.a) ∧ V.cell? ⟨w.heap.size + 1, 6, none⟩ = some (.string x.t.s) ∧ V.cell? ⟨w.heap.size + 1, 7, none⟩ = some (.int .i64 x.t.n) ∧ V.cell? ⟨w.heap.size + 1, 8, none⟩ = some (.slice p.F x.t.l.length p.C) ∧ V.cell? ⟨w.heap.size + 1, 9, none⟩ = some (.slice p.B x.co.length p.b) ∧ V.cell? ⟨w.heap.size + 1, 10, none⟩ = some (.slice p.D x.ro.length p.d))) :=
                    Lib.hid (fun V hV => ⟨hq3.kept hV hq2, (HD23.out.below hV HD23.out.lt).q11⟩)
                  have HSAME : Hid (∀ V, Below w23.heap.size w23 V → Calls Tryz.prog 19 #[declV x' q, declV x p] V fun e w' => e = .returned (.bool true) ∧ Below V.heap.size V w') := Lib.hid (fun V hV => by
                    have := sameDecl_any x' x w22.heap.size w23.heap.size 0 w.heap.size q p V (HQ4.out.kept hV (Nat.le_refl _)) (HDX.out.kept hV HB23.out.size) hV.size (Nat.le_trans HB23.out.size hV.size)
                    rw [HSD.out] at this
                    exact this)
                  have HAWK : Hid (∀ V, Below w23.heap.size w23 V → Calls Tryz.prog 7 #[] V fun e w' => e = .returned (.bool true) ∧ Below V.heap.size V w') := Lib.hid (fun V hV => awake_tabs (HT.out.below (HB23.out.trans (hV.mono HB23.out.size))))
                  unfold declV at HSAME
                  obtain ⟨y0, y1, y2, y3, y4, y5, y6, y7, y8, y9, y10⟩ := hq3
                  obtain ⟨v0, v1, v2, v3, v4, v5, v6, v7, v8, v9, v10⟩ := HD23.out.q11
                  have hbk := Lib.hid ((Below.refl w23.heap.size w23).drew)
                  clear hb23 hda2 hq1 hq2 hq4 hl2 hc2 d0 d1 d2 d3 d4 d5 d6 d7 d8 d9 d10 hdl
                  go_wp2_with fail
                  go_region_held3 (fun V => Below w23.heap.size w23 V ∧ (V.cell? ⟨bs, os, none⟩ = some (.int .i64 x'.k) ∧ V.cell? ⟨bs, os + 1, none⟩ = some (.int .i64 x'.a) ∧ V.cell? ⟨bs, os + 2, none⟩ = some (.string x'.s) ∧ V.cell? ⟨bs, os + 3, none⟩ = some (.slice q.A x'.te.length q.a) ∧ V.cell? ⟨bs, os + 4, none⟩ = some (.int .i64 x'.t.k) ∧ V.cell? ⟨bs, os + 5, none⟩ = some (.int .i64 x'.t.a) ∧ V.cell? ⟨bs, os + 6, none⟩ = some (.string x'.t.s) ∧ V.cell? ⟨bs, os + 7, none⟩ = some (.int .i64 x'.t.n) ∧ V.cell? ⟨bs, os + 8, none⟩ = some (.slice q.F x'.t.l.length q.C) ∧ V.cell? ⟨bs, os + 9, none⟩ = some (.slice q.B x'.co.length q.b) ∧ V.cell? ⟨bs, os + 10, none⟩ = some (.slice q.D x'.ro.length q.d)) ∧ (V.cell? ⟨w.heap.size + 1, 0, none⟩ = some (.int .i64 x.k) ∧ V.cell? ⟨w.heap.size + 1, 1, none⟩ = some (.int .i64 x.a) ∧ V.cell? ⟨w.heap.size + 1, 2, none⟩ = some (.string x.s) ∧ V.cell? ⟨w.heap.size + 1, 3, none⟩ = some (.slice p.A x.te.length p.a) ∧ V.cell? ⟨w.heap.size + 1, 4, none⟩ = some (.int .i64 x.t.k) ∧ V.cell? ⟨w.heap.size + 1, 5, none⟩ = some (.int .i64 x.t.a) ∧ V.cell? ⟨w.heap.size + 1, 6, none⟩ = some (.string x.t.s) ∧ V.cell? ⟨w.heap.size + 1, 7, none⟩ = some (.int .i64 x.t.n) ∧ V.cell? ⟨w.heap.size + 1, 8, none⟩ = some (.slice p.F x.t.l.length p.C) ∧ V.cell? ⟨w.heap.size + 1, 9, none⟩ = some (.slice p.B x.co.length p.b) ∧ V.cell? ⟨w.heap.size + 1, 10, none⟩ = some (.slice p.D x.ro.length p.d)))
                    (first | exact ⟨hbk.out, HKEEP.out _ hbk.out⟩)
                    (first
                      | (go_at_call 19; (with_reducible refine (HSAME.out _ hbk.out).mono ?_); rintro e w24 ⟨rfl, hb24⟩; have hbk := Lib.hid (hbk.out.trans (hb24.mono hbk.out.size)); clear hb24)
                      | (go_at_call 7; (with_reducible refine (HAWK.out _ hbk.out).mono ?_); rintro e w24 ⟨rfl, hb24⟩; have hbk := Lib.hid (hbk.out.trans (hb24.mono hbk.out.size)); clear hb24))
                  all_goals
                    go_wp2_with fail
                    go_ret
                    exact ⟨rfl, HB23.out.trans (hbk.out.mono HB23.out.size)⟩
              · have hS0 : textS true (declX x) = ⟨#[]⟩ := by unfold textS; rw [if_neg (fun h => hX h.2)]
                have hE0 : textE true (declX x) = 2 := by unfold textE; rw [if_pos rfl, if_neg hX]
                rw [hS0, hE0] at HPD
                have hee : ((⟨#[]⟩ : ByteArray).toList == (⟨#[]⟩ : ByteArray).toList) = true := str_eq_true rfl
                clear hS0 hE0 hX hdr
                go_wp2_with fail
                refine HPD.out.mono ?_; rintro e w20 ⟨rfl, hb20⟩
                have HB20 := Lib.hid (HBW.out.trans (hb20.mono HBW.out.size))
                clear hb20
                go_wp2_with fail
                refine (awake_tabs (HT.out.below HB20.out)).mono ?_; rintro e w21 ⟨rfl, hb21⟩
                go_wp2_with fail
                go_ret
                exact ⟨rfl, HB20.out.trans (hb21.mono HB20.out.size)⟩

end Go.Proofs.YteaojmcfppbgiaaGreatDoor
