/- parse: a variable with its type, and what stands beneath it; a name with the patterns behind it. -/
import Derived.Test.YteaojmcfppbgiaaGreatDoorB4
import Derived.Test.YteaojmcfppbgiaaGreatDoorB3
import Derived.Deep.RegionHeld3
import Derived.ProofKit
namespace Go.Proofs.YteaojmcfppbgiaaGreatDoor
open Go.RowKit
set_option linter.unusedVariables false
set_option maxRecDepth 100000

theorem Rd.txt {w : World} {r g : Nat} {L : List Tk} {cap : Nat} {s : St} (h : Rd w r g L cap s) (k : Nat) : (tk L k).2.1.size ≤ maxLen := by
  by_cases hk : k < L.length
  · exact h.toks.txt k hk
  · have e : tk L k = (0, ⟨#[]⟩, 0) := by unfold tk; rw [List.getD_eq_getElem?_getD, List.getElem?_eq_none (by omega)]; rfl
    rw [e]; decide

set_option maxHeartbeats 4000000 in
theorem bound_c {r g : Nat} {L : List Tk} {cap : Nat} {s : St} {kd ad : Int} {t u : RT} {s1 s2 s3 s4 s5 s6 s7 : St} {z : Nat} (h1 : takeS L ⟨#[40]⟩ s = s1) (hz : (varS L s1).k = z) (h2 : stepS L (varS L s1) = s2) (h3 : takeS L ⟨#[58]⟩ s2 = s3) (he : One 77 r g L cap s3 t s4) (h5 : takeS L ⟨#[41]⟩ s4 = s5) (h6 : takeS L ⟨#[45, 62]⟩ s5 = s6) (hu : One 77 r g L cap s6 u s7) : Bnd kd ad r g L cap s (.node kd ad (tk L z).2.1 0 [t, u]) s7 := by
  intro w h
  have HR := Lib.hid h
  have hrl := h.bk.lt
  have HTXZ := Lib.hid (h.txt z)
  have HT1 := Lib.hid (fun V (hV : Rd V r g L cap s) => take_moves hV ⟨#[40]⟩)
  have HV := Lib.hid (fun V (hV : Rd V r g L cap s1) => takeVar_moves hV)
  have HT2 := Lib.hid (fun V (hV : Rd V r g L cap s2) => take_moves hV ⟨#[58]⟩)
  have HT3 := Lib.hid (fun V (hV : Rd V r g L cap s4) => take_moves hV ⟨#[41]⟩)
  have HT4 := Lib.hid (fun V (hV : Rd V r g L cap s5) => take_moves hV ⟨#[45, 62]⟩)
  have HE := Lib.hid he
  have HU := Lib.hid hu
  unfold One TreeR nodeV at HE HU
  unfold tkV at HV
  rw [h1] at HT1
  rw [hz, h2] at HV
  rw [h3] at HT2
  rw [h5] at HT3
  rw [h6] at HT4
  clear h h1 hz h2 h3 he h5 h6 hu
  go_enter Tryz.func112, Tryz.ntmps112
  go_wp2_with fail
  refine (HT1.out _ (HR.out.alloc _)).mono ?_; rintro e w1 ⟨rfl, hr, hk⟩
  have hs1 := hk.size
  simp at hs1
  have HR1 := Lib.hid hr
  have HK1 := Lib.hid ((Kp.refl r (w.alloc (.cells #[.int .i64 0, .int .i64 0, .string ⟨#[]⟩, .int .i64 0, .slice none 0 0] 36))).trans hk)
  clear hr hk
  go_wp2_with fail
  refine (HV.out _ HR1.out).mono ?_; rintro e w2 ⟨rfl, hr, hk⟩
  have hs2 := hk.size
  try simp at hs2
  have HR2 := Lib.hid hr
  have HK2 := Lib.hid (HK1.out.trans hk)
  clear hr hk
  go_wp2_with fail
  refine (HT2.out _ HR2.out).mono ?_; rintro e w3 ⟨rfl, hr, hk⟩
  have hs3 := hk.size
  try simp at hs3
  have HR3 := Lib.hid hr
  have HK3 := Lib.hid (HK2.out.trans hk)
  clear hr hk
  go_wp2_with fail
  refine (HE.out _ HR3.out).mono ?_; rintro e w4 ⟨A4, c4, rfl, hn, hr, hk⟩
  have hs4 := hk.size
  try simp at hs4
  have HN4 : Hid (IsNode w4 (w.heap.size + 1) w4.heap.size t A4 c4) := Lib.hid (hn.wide (by first | omega | (simp; done) | (simp; omega)) (Nat.le_refl _))
  have HNR4 := Lib.hid hn
  have HR4 := Lib.hid hr
  have HK4 := Lib.hid (HK3.out.trans hk)
  clear hn hr hk
  go_wp2_with fail
  have HN4_b := Lib.hid (IsNode.allocw HN4.out (.cells #[.int .i64 t.k, .int .i64 t.a, .string t.s, .int .i64 t.n, .slice A4 t.l.length c4] 36))
  clear HN4
  have HN4 := HN4_b
  clear HN4_b
  have BX4 : Hid (Bk (w4.alloc (.cells #[.int .i64 t.k, .int .i64 t.a, .string t.s, .int .i64 t.n, .slice A4 t.l.length c4] 36)) w4.heap.size 36 #[.int .i64 t.k, .int .i64 t.a, .string t.s, .int .i64 t.n, .slice A4 t.l.length c4]) := Lib.hid (Bk.new w4 36 #[.int .i64 t.k, .int .i64 t.a, .string t.s, .int .i64 t.n, .slice A4 t.l.length c4])
  refine (HT3.out _ (HR4.out.alloc (.cells #[.int .i64 t.k, .int .i64 t.a, .string t.s, .int .i64 t.n, .slice A4 t.l.length c4] 36))).mono ?_; rintro e w5 ⟨rfl, hr, hk⟩
  have hs5 := hk.size
  try simp at hs5
  have HN4_5 := Lib.hid (IsNode.kpw HN4.out hk (by omega))
  clear HN4
  have HN4 := HN4_5
  clear HN4_5
  have BX4_5 := Lib.hid (BX4.out.kp hk (by simp; try omega))
  clear BX4
  have BX4 := BX4_5
  clear BX4_5
  have HR5 := Lib.hid hr
  have HK5 := Lib.hid ((HK4.out.alloc (.cells #[.int .i64 t.k, .int .i64 t.a, .string t.s, .int .i64 t.n, .slice A4 t.l.length c4] 36)).trans hk)
  clear hr hk
  go_wp2_with fail
  refine (HT4.out _ HR5.out).mono ?_; rintro e w6 ⟨rfl, hr, hk⟩
  have hs6 := hk.size
  try simp at hs6
  have HN4_6 := Lib.hid (IsNode.kpw HN4.out hk (by omega))
  clear HN4
  have HN4 := HN4_6
  clear HN4_6
  have BX4_6 := Lib.hid (BX4.out.kp hk (by simp; try omega))
  clear BX4
  have BX4 := BX4_6
  clear BX4_6
  have HR6 := Lib.hid hr
  have HK6 := Lib.hid (HK5.out.trans hk)
  clear hr hk
  go_wp2_with fail
  obtain ⟨BX4c0, BX4c1, BX4c2, BX4c3, BX4c4⟩ := BX4.out.c5
  have BX4l := BX4.out.lt
  have hneb : w.heap.size ≠ w4.heap.size := by omega
  have hneb2 : w4.heap.size ≠ w.heap.size := by omega
  have HRD := Lib.hid (HR6.out.below ((Below.refl _ _).drew))
  have HKD := Lib.hid (Kp.drew HK6.out)
  go_region_held3 (fun w' => w'.cell? ⟨w4.heap.size, 0, none⟩ = some (.int .i64 t.k) ∧ w'.cell? ⟨w4.heap.size, 1, none⟩ = some (.int .i64 t.a) ∧ w'.cell? ⟨w4.heap.size, 2, none⟩ = some (.string t.s) ∧ w'.cell? ⟨w4.heap.size, 3, none⟩ = some (.int .i64 t.n) ∧ w'.cell? ⟨w4.heap.size, 4, none⟩ = some (.slice A4 t.l.length c4))
    (first | go_keep | exact HKc.out)
    (first
      | (go_at_call 77
         refine (HU.out _ HRD.out).mono ?_
         rintro e w7 ⟨A7, c7, rfl, hn, hr, hk⟩
         have hs7 := hk.size
         simp at hs7
         have HNB := Lib.hid (IsNode.kpw (show IsNode w6.drew (w.heap.size + 1) w6.drew.heap.size t A4 c4 from HN4.out.kept ((Below.refl w6.heap.size w6).drew) (Nat.le_refl _)) hk (by omega))
         have HNJ : Hid (IsNode w7 (w.heap.size + 1) w7.heap.size u A7 c7) := Lib.hid (hn.wide (by simp; try omega) (Nat.le_refl _))
         have HBJ := Lib.hid ((show Bk w6.drew w4.heap.size 36 #[.int .i64 t.k, .int .i64 t.a, .string t.s, .int .i64 t.n, .slice A4 t.l.length c4] from BX4.out).kp hk (by omega))
         have HKc := Lib.hid HBJ.out.c5
         have hts : ∀ p ∈ ([(t, A4, c4), (u, A7, c7)] : List (RT × Option Addr × Nat)), IsNode w7 (w.heap.size + 1) w7.heap.size p.1 p.2.1 p.2.2 := by
           intro p hp
           simp at hp
           rcases hp with rfl | rfl
           · exact HNB.out
           · exact HNJ.out
         obtain ⟨⟨d0, d1, d2, d3, d4⟩, hfz, hl9, hbg, hfin⟩ := row_box kd ad (tk L z).2.1 0 [(t, A4, c4), (u, A7, c7)] (HKD.out.trans hk) hrl hr HTXZ.out (by simp) hts #[.int .i64 t.k, .int .i64 t.a, .string t.s, .int .i64 t.n, .slice A4 t.l.length c4, .int .i64 u.k, .int .i64 u.a, .string u.s, .int .i64 u.n, .slice A7 u.l.length c7] rfl 2 rfl
         obtain ⟨e0, e1, e2, e3, e4⟩ := HBJ.out.c5
         have el := HBJ.out.lt
         have HFIN := Lib.hid hfin
         unfold five at hbg
         have HS0 := Lib.hid (hbg.cell 0)
         have HS1 := Lib.hid (hbg.cell 1)
         have HS2 := Lib.hid (hbg.cell 2)
         have HS3 := Lib.hid (hbg.cell 3)
         have HS4 := Lib.hid (hbg.cell 4)
         clear hbg hfin hts hn hr hk))
  all_goals
    go_wp2_with fail
    refine bodyPost_ret (v := .agg #[.int .i64 (kd), .int .i64 (ad), .string ((tk L z).2.1), .int .i64 (0), .slice (some ⟨w7.heap.size, 0, none⟩) 2 2]) (by simp [results, Tryz.results112, go_sem, HS0.out, HS1.out, HS2.out, HS3.out, HS4.out]) rfl ?_
    obtain ⟨z1, z2, z3⟩ := HFIN.out
    exact ⟨some ⟨w7.heap.size, 0, none⟩, 2, rfl, z1, z2, z3⟩

end Go.Proofs.YteaojmcfppbgiaaGreatDoor

/- parse: a name with the patterns behind it. -/
namespace Go.Proofs.YteaojmcfppbgiaaGreatDoor
open Go.RowKit
set_option linter.unusedVariables false
set_option maxRecDepth 100000

theorem node_of_list {w : World} {lo hi : Nat} {A : Option Addr} {c : Nat} {l : List RT} (k a : Int) (s : ByteArray) (n : Int) (hs : s.size ≤ maxLen) (h1 : l.length ≤ c) (h2 : c ≤ maxLen) (h : NodesAt w lo hi A l) : IsNode w lo hi (.node k a s n l) A c := by
  have hx := Classical.axiomOfChoice (r := fun (i : Nat) (p : Option Addr × Nat) => ∀ hi' : i < l.length, ∃ b o, A = some ⟨b, o, none⟩ ∧ lo ≤ b ∧ b < hi ∧ Cells5 w b (o + i * 5) l[i] p.1 p.2 ∧ IsNode w lo hi l[i] p.1 p.2) (fun i => by
    by_cases hi' : i < l.length
    · obtain ⟨b, o, F, C, x⟩ := h i hi'
      exact ⟨(F, C), fun _ => ⟨b, o, x⟩⟩
    · exact ⟨(none, 0), fun h => absurd h hi'⟩)
  obtain ⟨f, hf⟩ := hx
  refine NodeIn.mk k a s n l A c (fun i => (f i).1) (fun i => (f i).2) hs h1 h2 (fun h0 => ?_) (fun i hi' => ?_)
  · obtain ⟨b, o, hA, h3, h4, _, _⟩ := hf 0 h0
    refine ⟨b, o, hA, ⟨h3, h4⟩, fun i hi' => ?_⟩
    obtain ⟨b', o', hA', _, _, h7, _⟩ := hf i hi'
    rw [hA] at hA'
    injection hA' with hA'
    injection hA' with e1 e2
    subst e1 e2
    exact h7
  · obtain ⟨_, _, _, _, _, _, h8⟩ := hf i hi'
    exact h8

set_option maxHeartbeats 4000000 in
theorem appl_nil {r g : Nat} {L : List Tk} {cap : Nat} {s : St} {ad : Int} {l : List RT} {s2 : St} (hl : l.length = 0) (hc : Chain L (One 120 r g L cap) (ptB L) 8192 0 (stepS L s) l s2) : App1 ad r g L cap s (.node 6 (tk L s.k).2.2 (tk L s.k).2.1 0 []) s2 := by
  intro w h
  have HR := Lib.hid h
  have hrl := h.bk.lt
  have HTX := Lib.hid (h.txt s.k)
  have HS := Lib.hid (fun V (hV : Rd V r g L cap s) => step_moves hV)
  unfold tkV at HS
  have HL := Lib.hid (fun V (hV : Rd V r g L cap (stepS L s)) => list_pats0 hV hc)
  unfold ListR at HL
  obtain ⟨s1, hs1⟩ : ∃ x, stepS L s = x := ⟨_, rfl⟩
  obtain ⟨z, hz⟩ : ∃ z, s.k = z := ⟨_, rfl⟩
  rw [hs1] at HS HL
  rw [hz] at HS HTX ⊢
  have hb : ((l.length : Int) == 0) = true := by simp [hl]
  clear h hc hs1 hz
  go_enter Tryz.func181, Tryz.ntmps181
  go_wp2_with fail
  refine (HS.out _ (HR.out.alloc _)).mono ?_; rintro e w1 ⟨rfl, hr, hk⟩
  have hs1 := hk.size
  simp at hs1
  have HR1 := Lib.hid hr
  have HK1 := Lib.hid ((Kp.refl r (w.alloc (.cells #[.int .i64 0, .int .i64 0, .string ⟨#[]⟩, .int .i64 0, .slice none 0 0] 36))).trans hk)
  clear hr hk
  go_wp2_with fail
  have BX1 : Hid (Bk (w1.alloc (.cells #[.int .i64 (tk L z).1, .string (tk L z).2.1, .int .i64 (tk L z).2.2] 143)) w1.heap.size 143 #[.int .i64 (tk L z).1, .string (tk L z).2.1, .int .i64 (tk L z).2.2]) := Lib.hid (Bk.new w1 143 #[.int .i64 (tk L z).1, .string (tk L z).2.1, .int .i64 (tk L z).2.2])
  refine (HL.out _ (HR1.out.alloc (.cells #[.int .i64 (tk L z).1, .string (tk L z).2.1, .int .i64 (tk L z).2.2] 143))).mono ?_; rintro e w2 ⟨A2, c2, rfl, hl1, hl2, hns, hr, hk⟩
  have hs2 := hk.size
  try simp at hs2
  have BX1_2 := Lib.hid (BX1.out.kp hk (by simp; try omega))
  clear BX1
  have BX1 := BX1_2
  clear BX1_2
  have HLN2 := Lib.hid hl1
  have HLM2 := Lib.hid hl2
  have HNS2 := Lib.hid hns
  have HR2 := Lib.hid hr
  have HK2 := Lib.hid ((HK1.out.alloc (.cells #[.int .i64 (tk L z).1, .string (tk L z).2.1, .int .i64 (tk L z).2.2] 143)).trans hk)
  clear hl1 hl2 hns hr hk
  obtain ⟨BX1c0, BX1c1, BX1c2⟩ := BX1.out.c3
  have BX1l := BX1.out.lt
  obtain ⟨⟨d0, d1, d2, d3, d4⟩, hfz, hl9, hbf, hfin⟩ := node_box (k := 6) (a := ((tk L z).2.2 : Int)) (s := (tk L z).2.1) (n := 0) (l := ([] : List RT)) (A := none) (m := 0) (c := 0) HK2.out hrl HR2.out (by first | rfl | simp) (node_leaf _ _ _ _ HTX.out)
  skip
  have HFIN := Lib.hid hfin
  have hbg := hbf
  unfold five at hbg
  have HS0 := Lib.hid (hbg.cell 0)
  have HS1 := Lib.hid (hbg.cell 1)
  have HS2 := Lib.hid (hbg.cell 2)
  have HS3 := Lib.hid (hbg.cell 3)
  have HS4 := Lib.hid (hbg.cell 4)
  clear hbf hbg hfin
  go_wp2_with fail
  refine bodyPost_ret (v := .agg #[.int .i64 (6), .int .i64 (((tk L z).2.2 : Int)), .string ((tk L z).2.1), .int .i64 (0), .slice none 0 0]) (by simp [results, Tryz.results181, go_sem, HS0.out, HS1.out, HS2.out, HS3.out, HS4.out]) rfl ?_
  obtain ⟨z1, z2, z3⟩ := HFIN.out
  exact ⟨none, 0, by first | rfl | simp [nodeV, RT.k, RT.a, RT.s, RT.n, RT.l], z1, z2, z3⟩

set_option maxHeartbeats 4000000 in
theorem appl_cons {r g : Nat} {L : List Tk} {cap : Nat} {s : St} {ad : Int} {l : List RT} {s2 : St} (hl : l.length ≠ 0) (hc : Chain L (One 120 r g L cap) (ptB L) 8192 0 (stepS L s) l s2) : App1 ad r g L cap s (.node 8 ad (tk L s.k).2.1 0 l) s2 := by
  intro w h
  have HR := Lib.hid h
  have hrl := h.bk.lt
  have HTX := Lib.hid (h.txt s.k)
  have HS := Lib.hid (fun V (hV : Rd V r g L cap s) => step_moves hV)
  unfold tkV at HS
  have HL := Lib.hid (fun V (hV : Rd V r g L cap (stepS L s)) => list_pats0 hV hc)
  unfold ListR at HL
  obtain ⟨s1, hs1⟩ : ∃ x, stepS L s = x := ⟨_, rfl⟩
  obtain ⟨z, hz⟩ : ∃ z, s.k = z := ⟨_, rfl⟩
  rw [hs1] at HS HL
  rw [hz] at HS HTX ⊢
  have hb : ((l.length : Int) == 0) = false := by simp; exact fun e => hl (by rw [e]; rfl)
  clear h hc hs1 hz
  go_enter Tryz.func181, Tryz.ntmps181
  go_wp2_with fail
  refine (HS.out _ (HR.out.alloc _)).mono ?_; rintro e w1 ⟨rfl, hr, hk⟩
  have hs1 := hk.size
  simp at hs1
  have HR1 := Lib.hid hr
  have HK1 := Lib.hid ((Kp.refl r (w.alloc (.cells #[.int .i64 0, .int .i64 0, .string ⟨#[]⟩, .int .i64 0, .slice none 0 0] 36))).trans hk)
  clear hr hk
  go_wp2_with fail
  have BX1 : Hid (Bk (w1.alloc (.cells #[.int .i64 (tk L z).1, .string (tk L z).2.1, .int .i64 (tk L z).2.2] 143)) w1.heap.size 143 #[.int .i64 (tk L z).1, .string (tk L z).2.1, .int .i64 (tk L z).2.2]) := Lib.hid (Bk.new w1 143 #[.int .i64 (tk L z).1, .string (tk L z).2.1, .int .i64 (tk L z).2.2])
  refine (HL.out _ (HR1.out.alloc (.cells #[.int .i64 (tk L z).1, .string (tk L z).2.1, .int .i64 (tk L z).2.2] 143))).mono ?_; rintro e w2 ⟨A2, c2, rfl, hl1, hl2, hns, hr, hk⟩
  have hs2 := hk.size
  try simp at hs2
  have BX1_2 := Lib.hid (BX1.out.kp hk (by simp; try omega))
  clear BX1
  have BX1 := BX1_2
  clear BX1_2
  have HLN2 := Lib.hid hl1
  have HLM2 := Lib.hid hl2
  have HNS2 := Lib.hid hns
  have HR2 := Lib.hid hr
  have HK2 := Lib.hid ((HK1.out.alloc (.cells #[.int .i64 (tk L z).1, .string (tk L z).2.1, .int .i64 (tk L z).2.2] 143)).trans hk)
  clear hl1 hl2 hns hr hk
  obtain ⟨BX1c0, BX1c1, BX1c2⟩ := BX1.out.c3
  have BX1l := BX1.out.lt
  obtain ⟨⟨d0, d1, d2, d3, d4⟩, hfz, hl9, hbf, hfin⟩ := node_box (k := 8) (a := ad) (s := (tk L z).2.1) (n := 0) (l := l) (A := A2) (m := l.length) (c := c2) HK2.out hrl HR2.out (by first | rfl | simp) ((node_of_list _ _ _ _ HTX.out HLN2.out HLM2.out HNS2.out).wide (by simp; try omega) (Nat.le_refl _))
  skip
  have HFIN := Lib.hid hfin
  have hbg := hbf
  unfold five at hbg
  have HS0 := Lib.hid (hbg.cell 0)
  have HS1 := Lib.hid (hbg.cell 1)
  have HS2 := Lib.hid (hbg.cell 2)
  have HS3 := Lib.hid (hbg.cell 3)
  have HS4 := Lib.hid (hbg.cell 4)
  clear hbf hbg hfin
  go_wp2_with fail
  refine bodyPost_ret (v := .agg #[.int .i64 (8), .int .i64 (ad), .string ((tk L z).2.1), .int .i64 (0), .slice A2 l.length c2]) (by simp [results, Tryz.results181, go_sem, HS0.out, HS1.out, HS2.out, HS3.out, HS4.out]) rfl ?_
  obtain ⟨z1, z2, z3⟩ := HFIN.out
  exact ⟨A2, c2, by first | rfl | simp [nodeV, RT.k, RT.a, RT.s, RT.n, RT.l], z1, z2, z3⟩

end Go.Proofs.YteaojmcfppbgiaaGreatDoor

/- parse: an application, from the left on. -/
namespace Go.Proofs.YteaojmcfppbgiaaGreatDoor
open Go.RowKit
set_option linter.unusedVariables false
set_option maxRecDepth 100000

def mkApp (n a : RT) : RT := .node 5 n.a ⟨#[]⟩ 0 [n, a]
theorem pair_in {W : World} {P : Nat → Prop} {b : Nat} {t u : RT} {A F : Option Addr} {c C : Nat} (k a : Int) (s : ByteArray) (n : Int) (hs : s.size ≤ maxLen) (hb : P b)
    (hc : Bk W b 36 #[.int .i64 t.k, .int .i64 t.a, .string t.s, .int .i64 t.n, .slice A t.l.length c, .int .i64 u.k, .int .i64 u.a, .string u.s, .int .i64 u.n, .slice F u.l.length C])
    (ht : NodeIn W P t A c) (hu : NodeIn W P u F C) : NodeIn W P (.node k a s n [t, u]) (some ⟨b, 0, none⟩) 2 := by
  refine NodeIn.mk k a s n [t, u] (some ⟨b, 0, none⟩) 2 (fun i => if i = 0 then A else F) (fun i => if i = 0 then c else C) hs (by simp) (by decide) (fun _ => ⟨b, 0, rfl, hb, fun i hi => ?_⟩) (fun i hi => ?_)
  · match i, hi with
    | 0, _ => exact ⟨hc.cell 0, hc.cell 1, hc.cell 2, hc.cell 3, hc.cell 4⟩
    | 1, _ => exact ⟨hc.cell 5, hc.cell 6, hc.cell 7, hc.cell 8, hc.cell 9⟩
    | i + 2, hi => exact absurd hi (by simp)
  · match i, hi with
    | 0, _ => exact ht
    | 1, _ => exact hu
    | i + 2, hi => exact absurd hi (by simp)

set_option maxHeartbeats 4000000 in
theorem app_c {r g : Nat} {L : List Tk} {cap : Nat} {s s1 s2 : St} {t : RT} {l : List RT} (he : One 155 r g L cap s t s1) (hc : Chain L (One 155 r g L cap) (agB L) 8192 0 s1 l s2) : One 115 r g L cap s (l.foldl mkApp t) s2 := by
  intro w h
  have HR := Lib.hid h
  have hrl := h.bk.lt
  have hl8 : l.length ≤ 8192 := by have := chain_most hc (Nat.zero_le _); omega
  have HE := Lib.hid he
  unfold One TreeR nodeV at HE
  have HL := Lib.hid (fun V (hV : Rd V r g L cap s1) => list_atoms hV hc)
  unfold ListR at HL
  clear h he hc
  go_enter Tryz.func115, Tryz.ntmps115
  go_wp2_with fail
  refine (HE.out _ (HR.out.alloc _)).mono ?_; rintro e w1 ⟨A1, c1, rfl, hn, hr, hk⟩
  have hs1 := hk.size
  simp at hs1
  have HN1 : Hid (IsNode w1 (w.heap.size + 1) w1.heap.size t A1 c1) := Lib.hid (hn.wide (by first | omega | (simp; done) | (simp; omega)) (Nat.le_refl _))
  have HNR1 := Lib.hid hn
  have HR1 := Lib.hid hr
  have HK1 := Lib.hid ((Kp.refl r (w.alloc (.cells #[.int .i64 0, .int .i64 0, .string ⟨#[]⟩, .int .i64 0, .slice none 0 0] 36))).trans hk)
  clear hn hr hk
  go_wp2_with fail
  have HN1_b := Lib.hid (IsNode.allocw HN1.out (.cells #[.int .i64 t.k, .int .i64 t.a, .string t.s, .int .i64 t.n, .slice A1 t.l.length c1] 36))
  clear HN1
  have HN1 := HN1_b
  clear HN1_b
  have BX1 : Hid (Bk (w1.alloc (.cells #[.int .i64 t.k, .int .i64 t.a, .string t.s, .int .i64 t.n, .slice A1 t.l.length c1] 36)) w1.heap.size 36 #[.int .i64 t.k, .int .i64 t.a, .string t.s, .int .i64 t.n, .slice A1 t.l.length c1]) := Lib.hid (Bk.new w1 36 #[.int .i64 t.k, .int .i64 t.a, .string t.s, .int .i64 t.n, .slice A1 t.l.length c1])
  have HNX := HNR1
  refine (HL.out _ (HR1.out.alloc (.cells #[.int .i64 t.k, .int .i64 t.a, .string t.s, .int .i64 t.n, .slice A1 t.l.length c1] 36))).mono ?_; rintro e w2 ⟨A2, c2, rfl, hl1, hl2, hns, hr, hk⟩
  have hs2 := hk.size
  try simp at hs2
  have HN1_2 := Lib.hid (IsNode.kpw HN1.out hk (by omega))
  clear HN1
  have HN1 := HN1_2
  clear HN1_2
  have BX1_2 := Lib.hid (BX1.out.kp hk (by simp; try omega))
  clear BX1
  have BX1 := BX1_2
  clear BX1_2
  have HLN2 := Lib.hid hl1
  have HLM2 := Lib.hid hl2
  have HNS2 := Lib.hid hns
  have HR2 := Lib.hid hr
  have HKX := Lib.hid hk
  have HK2 := Lib.hid ((HK1.out.alloc (.cells #[.int .i64 t.k, .int .i64 t.a, .string t.s, .int .i64 t.n, .slice A1 t.l.length c1] 36)).trans hk)
  clear hl1 hl2 hns hr hk
  have HTIN : Hid (NodeIn w2 (fun b => w.heap.size + 1 ≤ b ∧ b < w2.heap.size ∧ b ≠ w1.heap.size) t A1 c1) := Lib.hid (by
    have h0 : NodeIn w1 (fun b => (w.alloc (.cells #[.int .i64 0, .int .i64 0, .string ⟨#[]⟩, .int .i64 0, .slice none 0 0] 36)).heap.size ≤ b ∧ b < w1.heap.size) t A1 c1 := HNX.out
    have hk2 : Kp r (w1.alloc (.cells #[.int .i64 t.k, .int .i64 t.a, .string t.s, .int .i64 t.n, .slice A1 t.l.length c1] 36)) w2 := HKX.out
    refine NodeIn.imp (fun b o hb => ?_) (fun b hb => ⟨by simpa using hb.1, by omega, by omega⟩) h0
    have hbr : w.heap.size + 1 ≤ b := by simpa using hb.1
    rw [hk2.cell o (by simp; omega) (by omega)]
    exact ((Below.refl w1.heap.size w1).alloc (Nat.le_refl _) _).cell (p := ⟨b, o, none⟩) (show b < w1.heap.size by omega))
  have HLE : Hid (l.length ≤ 8192) := Lib.hid hl8
  clear HNX HKX HN1 HE HL hl8
  go_wp2_with fail
  go_loopw [15] (fun iv wr => ∃ (i : Nat) (acc : RT) (A : Option Addr) (c : Nat), i ≤ l.length ∧ iv = .int .i64 i ∧ w2.heap.size ≤ wr.heap.size ∧ Hid (acc = (l.take i).foldl mkApp t) ∧ Hid (Bk wr w1.heap.size 36 #[.int .i64 acc.k, .int .i64 acc.a, .string acc.s, .int .i64 acc.n, .slice A acc.l.length c]) ∧ Hid (NodeIn wr (fun b => w.heap.size + 1 ≤ b ∧ b < wr.heap.size ∧ b ≠ w1.heap.size) acc A c) ∧
      Hid (NodesAt wr (w1.heap.size + 1) w2.heap.size A2 l) ∧ Hid (Rd wr r g L cap s2) ∧ Hid (Kp r (w.alloc (.cells #[.int .i64 0, .int .i64 0, .string ⟨#[]⟩, .int .i64 0, .slice none 0 0] 36)) wr)) (fun iv _ => l.length - (intOf iv).toNat)
  case atStart => exact ⟨0, t, A1, c1, Nat.zero_le _, rfl, Nat.le_refl _, Lib.hid (by rw [List.take_zero]; rfl), BX1, HTIN, Lib.hid (by have := HNS2.out; simpa using this), HR2, HK2⟩
  case round =>
    clear HTIN BX1 HNS2 HR2 HK2
    obtain ⟨i, acc, A, c, hi1, rfl, hwr, HACC, HBK, HIN, HNS, HRD, HKP⟩ := hrel
    obtain ⟨k0, k1, k2, k3, k4⟩ := HBK.out.c5
    have hbl := HBK.out.lt
    have hfz : ∀ o, wr.frozen? ⟨w1.heap.size, o, none⟩ = false := fun o => HBK.out.cold o
    by_cases hil : i < l.length
    case neg =>
      obtain rfl : i = l.length := by omega
      have HT : Hid (acc = l.foldl mkApp t) := Lib.hid (by rw [HACC.out, List.take_length])
      have HND : Hid (IsNode wr (w.heap.size + 1) wr.heap.size acc A c) := Lib.hid (HIN.out.imp (fun _ _ _ => rfl) (fun b hb => ⟨hb.1, hb.2.1⟩))
      obtain ⟨⟨d0, d1, d2, d3, d4⟩, hfz, hl9, hbf, hfin⟩ := node_box (k := acc.k) (a := acc.a) (s := acc.s) (n := acc.n) (l := acc.l) (A := A) (m := acc.l.length) (c := c) HKP.out hrl HRD.out (by first | rfl | simp) (by rw [← RT.eta acc]; exact HND.out)
      rw [← RT.eta acc] at hfin
      have HFIN := Lib.hid hfin
      have hbg := hbf
      unfold five at hbg
      have HS0 := Lib.hid (hbg.cell 0)
      have HS1 := Lib.hid (hbg.cell 1)
      have HS2 := Lib.hid (hbg.cell 2)
      have HS3 := Lib.hid (hbg.cell 3)
      have HS4 := Lib.hid (hbg.cell 4)
      clear hbf hbg hfin
      go_wp2_with fail
      refine bodyPost_ret (v := .agg #[.int .i64 (acc.k), .int .i64 (acc.a), .string (acc.s), .int .i64 (acc.n), .slice A acc.l.length c]) (by simp [results, Tryz.results115, go_sem, HS0.out, HS1.out, HS2.out, HS3.out, HS4.out]) rfl ?_
      obtain ⟨z1, z2, z3⟩ := HFIN.out
      rw [← HT.out]
      exact ⟨A, c, by first | rfl | simp [nodeV, RT.k, RT.a, RT.s, RT.n, RT.l], z1, z2, z3⟩
    obtain ⟨b, o, F, C, hA, hb1, hb2, hx, hnode⟩ := HNS.out i hil
    subst hA
    obtain ⟨x0, x1, x2, x3, x4⟩ := hx
    have HTK : Hid (l.take (i + 1) = l.take i ++ [l[i]]) := Lib.hid (take_snoc hil)
    have hi1' : (i : Int) < (l.length : Int) := by omega
    have hi8 : i ≤ 8192 := by have := HLE.out; omega
    have HY := Lib.hid hnode
    obtain ⟨y, hy⟩ : ∃ y, l[i] = y := ⟨_, rfl⟩
    simp only [hy] at x0 x1 x2 x3 x4 HTK HY
    have hbb : b < wr.heap.size := by omega
    have hbn : b ≠ w1.heap.size := by omega
    have HFIN : Hid (w2.heap.size ≤ (((five wr w1.heap.size (.int .i64 5) (.int .i64 acc.a) (.string ⟨#[]⟩) (.int .i64 0) (.slice (some ⟨wr.heap.size + 1, 0, none⟩) 2 2)).alloc (.cells #[.int .i64 y.k, .int .i64 y.a, .string y.s, .int .i64 y.n, .slice F y.l.length C] 36)).alloc (.cells #[.int .i64 acc.k, .int .i64 acc.a, .string acc.s, .int .i64 acc.n, .slice A acc.l.length c, .int .i64 y.k, .int .i64 y.a, .string y.s, .int .i64 y.n, .slice F y.l.length C] 36)).heap.size ∧ Bk (((five wr w1.heap.size (.int .i64 5) (.int .i64 acc.a) (.string ⟨#[]⟩) (.int .i64 0) (.slice (some ⟨wr.heap.size + 1, 0, none⟩) 2 2)).alloc (.cells #[.int .i64 y.k, .int .i64 y.a, .string y.s, .int .i64 y.n, .slice F y.l.length C] 36)).alloc (.cells #[.int .i64 acc.k, .int .i64 acc.a, .string acc.s, .int .i64 acc.n, .slice A acc.l.length c, .int .i64 y.k, .int .i64 y.a, .string y.s, .int .i64 y.n, .slice F y.l.length C] 36)) w1.heap.size 36 #[.int .i64 (mkApp acc y).k, .int .i64 (mkApp acc y).a, .string (mkApp acc y).s, .int .i64 (mkApp acc y).n, .slice (some ⟨wr.heap.size + 1, 0, none⟩) (mkApp acc y).l.length 2] ∧ NodeIn (((five wr w1.heap.size (.int .i64 5) (.int .i64 acc.a) (.string ⟨#[]⟩) (.int .i64 0) (.slice (some ⟨wr.heap.size + 1, 0, none⟩) 2 2)).alloc (.cells #[.int .i64 y.k, .int .i64 y.a, .string y.s, .int .i64 y.n, .slice F y.l.length C] 36)).alloc (.cells #[.int .i64 acc.k, .int .i64 acc.a, .string acc.s, .int .i64 acc.n, .slice A acc.l.length c, .int .i64 y.k, .int .i64 y.a, .string y.s, .int .i64 y.n, .slice F y.l.length C] 36)) (fun b => w.heap.size + 1 ≤ b ∧ b < (((five wr w1.heap.size (.int .i64 5) (.int .i64 acc.a) (.string ⟨#[]⟩) (.int .i64 0) (.slice (some ⟨wr.heap.size + 1, 0, none⟩) 2 2)).alloc (.cells #[.int .i64 y.k, .int .i64 y.a, .string y.s, .int .i64 y.n, .slice F y.l.length C] 36)).alloc (.cells #[.int .i64 acc.k, .int .i64 acc.a, .string acc.s, .int .i64 acc.n, .slice A acc.l.length c, .int .i64 y.k, .int .i64 y.a, .string y.s, .int .i64 y.n, .slice F y.l.length C] 36)).heap.size ∧ b ≠ w1.heap.size) (mkApp acc y) (some ⟨wr.heap.size + 1, 0, none⟩) 2 ∧
        NodesAt (((five wr w1.heap.size (.int .i64 5) (.int .i64 acc.a) (.string ⟨#[]⟩) (.int .i64 0) (.slice (some ⟨wr.heap.size + 1, 0, none⟩) 2 2)).alloc (.cells #[.int .i64 y.k, .int .i64 y.a, .string y.s, .int .i64 y.n, .slice F y.l.length C] 36)).alloc (.cells #[.int .i64 acc.k, .int .i64 acc.a, .string acc.s, .int .i64 acc.n, .slice A acc.l.length c, .int .i64 y.k, .int .i64 y.a, .string y.s, .int .i64 y.n, .slice F y.l.length C] 36)) (w1.heap.size + 1) w2.heap.size (some ⟨b, o, none⟩) l ∧ Rd (((five wr w1.heap.size (.int .i64 5) (.int .i64 acc.a) (.string ⟨#[]⟩) (.int .i64 0) (.slice (some ⟨wr.heap.size + 1, 0, none⟩) 2 2)).alloc (.cells #[.int .i64 y.k, .int .i64 y.a, .string y.s, .int .i64 y.n, .slice F y.l.length C] 36)).alloc (.cells #[.int .i64 acc.k, .int .i64 acc.a, .string acc.s, .int .i64 acc.n, .slice A acc.l.length c, .int .i64 y.k, .int .i64 y.a, .string y.s, .int .i64 y.n, .slice F y.l.length C] 36)) r g L cap s2 ∧ Kp r (w.alloc (.cells #[.int .i64 0, .int .i64 0, .string ⟨#[]⟩, .int .i64 0, .slice none 0 0] 36)) (((five wr w1.heap.size (.int .i64 5) (.int .i64 acc.a) (.string ⟨#[]⟩) (.int .i64 0) (.slice (some ⟨wr.heap.size + 1, 0, none⟩) 2 2)).alloc (.cells #[.int .i64 y.k, .int .i64 y.a, .string y.s, .int .i64 y.n, .slice F y.l.length C] 36)).alloc (.cells #[.int .i64 acc.k, .int .i64 acc.a, .string acc.s, .int .i64 acc.n, .slice A acc.l.length c, .int .i64 y.k, .int .i64 y.a, .string y.s, .int .i64 y.n, .slice F y.l.length C] 36))) := Lib.hid (by
      obtain ⟨G, hG⟩ : ∃ G, five wr w1.heap.size (.int .i64 5) (.int .i64 acc.a) (.string ⟨#[]⟩) (.int .i64 0) (.slice (some ⟨wr.heap.size + 1, 0, none⟩) 2 2) = G := ⟨_, rfl⟩
      have hsz : G.heap.size = wr.heap.size := by rw [← hG]; unfold five; rw [size_five]
      have hbl5 : Below w1.heap.size wr G := by rw [← hG]; exact (((((Below.refl w1.heap.size wr).setCell (Nat.le_refl _) _).setCell (Nat.le_refl _) _).setCell (Nat.le_refl _) _).setCell (Nat.le_refl _) _).setCell (Nat.le_refl _) _
      have hfar : ∀ b' o', b' ≠ w1.heap.size → G.cell? ⟨b', o', none⟩ = wr.cell? ⟨b', o', none⟩ := by
        intro b' o' hne
        have hne' : ∀ j, (⟨w1.heap.size, j, none⟩ : Addr) ≠ ⟨b', o', none⟩ := fun j e => by injection e with e; exact hne e.symm
        rw [← hG]
        unfold five
        rw [World.cell?_setCell_other _ _ _ _ (hne' _), World.cell?_setCell_other _ _ _ _ (hne' _), World.cell?_setCell_other _ _ _ _ (hne' _), World.cell?_setCell_other _ _ _ _ (hne' _), World.cell?_setCell_other _ _ _ _ (hne' _)]
      have hbk5 : Bk G w1.heap.size 36 #[.int .i64 5, .int .i64 acc.a, .string ⟨#[]⟩, .int .i64 0, .slice (some ⟨wr.heap.size + 1, 0, none⟩) 2 2] := by rw [← hG]; exact ((((HBK.out.at_ 0 _).at_ 1 _).at_ 2 _).at_ 3 _).at_ 4 _
      rw [hG]
      have hal : ∀ b' o', b' < wr.heap.size → ((G.alloc (.cells #[.int .i64 y.k, .int .i64 y.a, .string y.s, .int .i64 y.n, .slice F y.l.length C] 36)).alloc (.cells #[.int .i64 acc.k, .int .i64 acc.a, .string acc.s, .int .i64 acc.n, .slice A acc.l.length c, .int .i64 y.k, .int .i64 y.a, .string y.s, .int .i64 y.n, .slice F y.l.length C] 36)).cell? ⟨b', o', none⟩ = G.cell? ⟨b', o', none⟩ := fun b' o' hb' => (((Below.refl wr.heap.size G).alloc (by omega) _).alloc (by simp; omega) _).cell (p := ⟨b', o', none⟩) hb'
      have hfin : ∀ b' o', b' < wr.heap.size → b' ≠ w1.heap.size → ((G.alloc (.cells #[.int .i64 y.k, .int .i64 y.a, .string y.s, .int .i64 y.n, .slice F y.l.length C] 36)).alloc (.cells #[.int .i64 acc.k, .int .i64 acc.a, .string acc.s, .int .i64 acc.n, .slice A acc.l.length c, .int .i64 y.k, .int .i64 y.a, .string y.s, .int .i64 y.n, .slice F y.l.length C] 36)).cell? ⟨b', o', none⟩ = wr.cell? ⟨b', o', none⟩ := fun b' o' h1 h2 => (hal b' o' h1).trans (hfar b' o' h2)
      have hnew : Bk ((G.alloc (.cells #[.int .i64 y.k, .int .i64 y.a, .string y.s, .int .i64 y.n, .slice F y.l.length C] 36)).alloc (.cells #[.int .i64 acc.k, .int .i64 acc.a, .string acc.s, .int .i64 acc.n, .slice A acc.l.length c, .int .i64 y.k, .int .i64 y.a, .string y.s, .int .i64 y.n, .slice F y.l.length C] 36)) (wr.heap.size + 1) 36 #[.int .i64 acc.k, .int .i64 acc.a, .string acc.s, .int .i64 acc.n, .slice A acc.l.length c, .int .i64 y.k, .int .i64 y.a, .string y.s, .int .i64 y.n, .slice F y.l.length C] := by
        have := Bk.new (G.alloc (.cells #[.int .i64 y.k, .int .i64 y.a, .string y.s, .int .i64 y.n, .slice F y.l.length C] 36)) 36 #[.int .i64 acc.k, .int .i64 acc.a, .string acc.s, .int .i64 acc.n, .slice A acc.l.length c, .int .i64 y.k, .int .i64 y.a, .string y.s, .int .i64 y.n, .slice F y.l.length C]
        simpa [hsz] using this
      have hs2 : ((G.alloc (.cells #[.int .i64 y.k, .int .i64 y.a, .string y.s, .int .i64 y.n, .slice F y.l.length C] 36)).alloc (.cells #[.int .i64 acc.k, .int .i64 acc.a, .string acc.s, .int .i64 acc.n, .slice A acc.l.length c, .int .i64 y.k, .int .i64 y.a, .string y.s, .int .i64 y.n, .slice F y.l.length C] 36)).heap.size = wr.heap.size + 2 := by simp [hsz]
      refine ⟨by omega, (hbk5.alloc _).alloc _, ?_, ?_, ?_, ?_⟩
      · refine pair_in 5 acc.a ⟨#[]⟩ 0 (by decide) (by rw [hs2]; omega) hnew ?_ ?_
        · exact HIN.out.imp (fun b' o' hb' => hfin b' o' hb'.2.1 hb'.2.2) (fun b' hb' => ⟨hb'.1, by omega, hb'.2.2⟩)
        · exact NodeIn.imp (fun b' o' hb' => hfin b' o' (by omega) (by omega)) (fun b' hb' => ⟨by omega, by omega, by omega⟩) HY.out
      · intro j hj
        obtain ⟨b', o', F', C', hA', hb1', hb2', hx', hn'⟩ := HNS.out j hj
        obtain ⟨y0, y1, y2, y3, y4⟩ := hx'
        have e := fun q => hfin b' q (by omega) (by omega)
        exact ⟨b', o', F', C', hA', hb1', hb2', ⟨by rw [e, y0], by rw [e, y1], by rw [e, y2], by rw [e, y3], by rw [e, y4]⟩, hn'.imp (fun b'' o'' h1 h2 => hfin b'' o'' (by omega) (by omega)) (Nat.le_refl _) (Nat.le_refl _)⟩
      · exact ((HRD.out.under hbl5 (by omega)).alloc _).alloc _
      · exact (((HKP.out.next (hbl5.mono (by simp; omega))).alloc _).alloc _))
    clear HBK HIN HNS HRD HKP HY hnode hy
    unfold five at HFIN
    go_wp2_with fail
    go_roundw
    case rel =>
      obtain ⟨f1, f2, f3, f4, f5, f6⟩ := HFIN.out
      exact ⟨i + 1, mkApp acc y, some ⟨wr.heap.size + 1, 0, none⟩, 2, by omega, rfl, f1, Lib.hid (by rw [HTK.out, List.foldl_append, ← HACC.out]; rfl), Lib.hid f2, Lib.hid f3, Lib.hid f4, Lib.hid f5, Lib.hid f6⟩
    case measure => simp [intOf]; omega

end Go.Proofs.YteaojmcfppbgiaaGreatDoor

/- What parse reads, as a relation over the tokens: each step of the grammar; and that the program's functions do just this. -/
namespace Go.Proofs.YteaojmcfppbgiaaGreatDoor
open Go.RowKit
set_option linter.unusedVariables false
set_option maxRecDepth 100000

/-- What is being read. -/
inductive Job
  | expr
  | bound (kd a : Int)
  | app
  | atom
  | atoms (n : Nat)
  | pat
  | encl
  | appl (a : Int)
  | pats (n : Nat)
def openT : ByteArray := ⟨#[40]⟩
def closeT : ByteArray := ⟨#[41]⟩
def colonT : ByteArray := ⟨#[58]⟩
def arrowT : ByteArray := ⟨#[45, 62]⟩
def lamT : ByteArray := ⟨#[92]⟩
def dotT : ByteArray := ⟨#[46]⟩
def setT : ByteArray := ⟨#[83, 101, 116]⟩
inductive RE (L : List Tk) : Job → St → List RT → St → Prop
  | lam {s s2 : St} {t : RT} : mkB L s.k lamT = true → RE L (.bound 4 (tk L s.k).2.2) (stepS L s) [t] s2 → RE L .expr s [t] s2
  | pi {s s2 : St} {t : RT} : mkB L s.k lamT = false → fnB L s.k = true → RE L (.bound 3 (tk L s.k).2.2) s [t] s2 → RE L .expr s [t] s2
  | plain {s s2 : St} {t : RT} : mkB L s.k lamT = false → fnB L s.k = false → RE L .app s [t] s2 → mkB L s2.k arrowT = false → RE L .expr s [t] s2
  | arr {s s2 s3 : St} {t u : RT} : mkB L s.k lamT = false → fnB L s.k = false → RE L .app s [t] s2 → mkB L s2.k arrowT = true → RE L .expr (stepS L s2) [u] s3 → RE L .expr s [.node 3 t.a ⟨#[95]⟩ 0 [t, u]] s3
  | bound {kd a : Int} {s s1 s2 s3 s4 s5 s6 s7 : St} {z : Nat} {t u : RT} : takeS L openT s = s1 → (varS L s1).k = z → stepS L (varS L s1) = s2 → takeS L colonT s2 = s3 → RE L .expr s3 [t] s4 → takeS L closeT s4 = s5 → takeS L arrowT s5 = s6 → RE L .expr s6 [u] s7 →
      RE L (.bound kd a) s [.node kd a (tk L z).2.1 0 [t, u]] s7
  | app {s s1 s2 : St} {t : RT} {l : List RT} : RE L .atom s [t] s1 → RE L (.atoms 0) s1 l s2 → RE L .app s [l.foldl mkApp t] s2
  | atomsStop {n : Nat} {s : St} : ¬ (s.e = 0 ∧ agB L s.k = true) → RE L (.atoms n) s [] s
  | atomsFull {n : Nat} {s : St} : s.e = 0 → agB L s.k = true → n = 8192 → RE L (.atoms n) s [] (failS L s (tk L s.k).2.2 2)
  | atomsNext {n : Nat} {s s1 s2 : St} {t : RT} {l : List RT} : s.e = 0 → agB L s.k = true → n ≠ 8192 → RE L .atom s [t] s1 → RE L (.atoms (n + 1)) s1 l s2 → RE L (.atoms n) s (t :: l) s2
  | atomName {s : St} : nmdB L s.k = true → RE L .atom s [.node 1 (tk L s.k).2.2 (tk L s.k).2.1 0 []] (stepS L s)
  | atomSet {s s2 : St} {v : Nat} : nmdB L s.k = false → kyB L s.k setT = true → LevelR L (stepS L s) v s2 → RE L .atom s [.node 2 (tk L s.k).2.2 ⟨#[]⟩ v []] s2
  | atomPar {s s2 : St} {t : RT} : nmdB L s.k = false → kyB L s.k setT = false → mkB L s.k openT = true → RE L .expr (stepS L s) [t] s2 → RE L .atom s [t] (takeS L closeT s2)
  | atomBad {s : St} : nmdB L s.k = false → kyB L s.k setT = false → mkB L s.k openT = false → RE L .atom s [.node 0 0 ⟨#[]⟩ 0 []] (badS L s)
  | patName {s : St} : nmdB L s.k = true → RE L .pat s [.node 6 (tk L s.k).2.2 (tk L s.k).2.1 0 []] (stepS L s)
  | patAny {s : St} : nmdB L s.k = false → loB L s.k = true → RE L .pat s [.node 7 (tk L s.k).2.2 ⟨#[]⟩ 0 []] (stepS L s)
  | patDot {s s2 : St} {t : RT} : nmdB L s.k = false → loB L s.k = false → mkB L s.k dotT = true → RE L .atom (stepS L s) [t] s2 → RE L .pat s [.node 10 (tk L s.k).2.2 ⟨#[]⟩ 0 [t]] s2
  | patPar {s s2 : St} {t : RT} : nmdB L s.k = false → loB L s.k = false → mkB L s.k dotT = false → mkB L s.k openT = true → RE L .encl s [t] s2 → RE L .pat s [t] s2
  | patBad {s : St} : nmdB L s.k = false → loB L s.k = false → mkB L s.k dotT = false → mkB L s.k openT = false → RE L .pat s [.node 0 0 ⟨#[]⟩ 0 []] (badS L s)
  | encName {s s2 : St} {t : RT} : nmdB L (stepS L s).k = true → RE L (.appl (tk L s.k).2.2) (stepS L s) [t] s2 → RE L .encl s [t] (takeS L closeT s2)
  | encNone {s : St} : nmdB L (stepS L s).k = false → mkB L (stepS L s).k closeT = true → RE L .encl s [.node 9 (tk L s.k).2.2 ⟨#[]⟩ 0 []] (takeS L closeT (stepS L s))
  | encPat {s s2 : St} {t : RT} : nmdB L (stepS L s).k = false → mkB L (stepS L s).k closeT = false → RE L .pat (stepS L s) [t] s2 → RE L .encl s [t] (takeS L closeT s2)
  | applNil {a : Int} {s s2 : St} {l : List RT} : l.length = 0 → RE L (.pats 0) (stepS L s) l s2 → RE L (.appl a) s [.node 6 (tk L s.k).2.2 (tk L s.k).2.1 0 []] s2
  | applCons {a : Int} {s s2 : St} {l : List RT} : l.length ≠ 0 → RE L (.pats 0) (stepS L s) l s2 → RE L (.appl a) s [.node 8 a (tk L s.k).2.1 0 l] s2
  | patsStop {n : Nat} {s : St} : ¬ (s.e = 0 ∧ ptB L s.k = true) → RE L (.pats n) s [] s
  | patsFull {n : Nat} {s : St} : s.e = 0 → ptB L s.k = true → n = 8192 → RE L (.pats n) s [] (failS L s (tk L s.k).2.2 2)
  | patsNext {n : Nat} {s s1 s2 : St} {t : RT} {l : List RT} : s.e = 0 → ptB L s.k = true → n ≠ 8192 → RE L .pat s [t] s1 → RE L (.pats (n + 1)) s1 l s2 → RE L (.pats n) s (t :: l) s2

/-- What the program's function of a job does. -/
def JobOk (r g : Nat) (L : List Tk) (cap : Nat) : Job → St → List RT → St → Prop
  | .expr, s, l, s' => ∃ t, l = [t] ∧ One 77 r g L cap s t s'
  | .bound kd a, s, l, s' => ∃ t, l = [t] ∧ Bnd kd a r g L cap s t s'
  | .app, s, l, s' => ∃ t, l = [t] ∧ One 115 r g L cap s t s'
  | .atom, s, l, s' => ∃ t, l = [t] ∧ One 155 r g L cap s t s'
  | .atoms n, s, l, s' => Chain L (One 155 r g L cap) (agB L) 8192 n s l s'
  | .pat, s, l, s' => ∃ t, l = [t] ∧ One 120 r g L cap s t s'
  | .encl, s, l, s' => ∃ t, l = [t] ∧ One 158 r g L cap s t s'
  | .appl a, s, l, s' => ∃ t, l = [t] ∧ App1 a r g L cap s t s'
  | .pats n, s, l, s' => Chain L (One 120 r g L cap) (ptB L) 8192 n s l s'

theorem one_of {P : RT → Prop} {t : RT} (h : ∃ t', [t] = [t'] ∧ P t') : P t := by
  obtain ⟨t', e, h⟩ := h
  injection e with e _
  subst e
  exact h

theorem re_ok {r g : Nat} {L : List Tk} {cap : Nat} {j : Job} {s s' : St} {l : List RT} (h : RE L j s l s') : JobOk r g L cap j s l s' := by
  induction h with
  | lam h1 _ ih => exact ⟨_, rfl, expr_lam h1 (one_of ih)⟩
  | pi h1 h2 _ ih => exact ⟨_, rfl, expr_pi h1 h2 (one_of ih)⟩
  | plain h1 h2 _ h3 ih => exact ⟨_, rfl, expr_app h1 h2 (one_of ih) h3⟩
  | arr h1 h2 _ h3 _ ih1 ih2 => exact ⟨_, rfl, expr_arr h1 h2 (one_of ih1) h3 (one_of ih2)⟩
  | bound h1 h2 h3 h4 _ h5 h6 _ ih1 ih2 => exact ⟨_, rfl, bound_c h1 h2 h3 h4 (one_of ih1) h5 h6 (one_of ih2)⟩
  | app _ _ ih1 ih2 => exact ⟨_, rfl, app_c (one_of ih1) ih2⟩
  | atomsStop h1 => exact .stop h1
  | atomsFull h1 h2 h3 => exact .full h1 h2 h3
  | atomsNext h1 h2 h3 _ _ ih1 ih2 => exact .next h1 h2 h3 (one_of ih1) ih2
  | atomName h1 => exact ⟨_, rfl, atom_name h1⟩
  | atomSet h1 h2 h3 => exact ⟨_, rfl, atom_set h1 h2 h3⟩
  | atomPar h1 h2 h3 _ ih => exact ⟨_, rfl, atom_par h1 h2 h3 (one_of ih)⟩
  | atomBad h1 h2 h3 => exact ⟨_, rfl, atom_bad h1 h2 h3⟩
  | patName h1 => exact ⟨_, rfl, pat_name h1⟩
  | patAny h1 h2 => exact ⟨_, rfl, pat_any h1 h2⟩
  | patDot h1 h2 h3 _ ih => exact ⟨_, rfl, pat_dot h1 h2 h3 (one_of ih)⟩
  | patPar h1 h2 h3 h4 _ ih => exact ⟨_, rfl, pat_par h1 h2 h3 h4 (one_of ih)⟩
  | patBad h1 h2 h3 h4 => exact ⟨_, rfl, pat_bad h1 h2 h3 h4⟩
  | encName h1 _ ih => exact ⟨_, rfl, enc_name h1 (one_of ih)⟩
  | encNone h1 h2 => exact ⟨_, rfl, enc_none h1 h2⟩
  | encPat h1 h2 _ ih => exact ⟨_, rfl, enc_pat h1 h2 (one_of ih)⟩
  | applNil h1 _ ih => exact ⟨_, rfl, appl_nil h1 ih⟩
  | applCons h1 _ ih => exact ⟨_, rfl, appl_cons h1 ih⟩
  | patsStop h1 => exact .stop h1
  | patsFull h1 h2 h3 => exact .full h1 h2 h3
  | patsNext h1 h2 h3 _ _ ih1 ih2 => exact .next h1 h2 h3 (one_of ih1) ih2

end Go.Proofs.YteaojmcfppbgiaaGreatDoor
