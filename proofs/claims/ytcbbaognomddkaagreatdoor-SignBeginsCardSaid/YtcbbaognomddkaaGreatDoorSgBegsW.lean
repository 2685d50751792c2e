/- The walk of SignBegins. -/
import Derived.Test.YtcbbaognomddkaaGreatDoorSgAddsW
namespace Go.Proofs.YtcbbaognomddkaaGreatDoor
open Go.RowKit
set_option linter.unusedVariables false
set_option maxRecDepth 100000

set_option maxHeartbeats 8000000 in
theorem begs_walk (l : List ET) (A : Option Addr) (n cap x : Nat) (w : World) (hx : x ≤ 255) (hn : l.length = n) (hlc : n ≤ cap) (hcap : cap ≤ maxLen) (he : EntsAt w 0 w.heap.size A l) (hS : ShapesM w) :
    Calls Tryz.prog 4 #[.slice A n cap, .int .u8 x] w fun e w' => e = .returned (.bool true) ∧ Below w.heap.size w w' := by
  have CA := Lib.hid (fun (V : World) (hV : Below w.heap.size w V) => awakeS_any V (hS.kept hV))
  have CL := Lib.hid (light_any A n cap)
  by_cases h1 : n ≤ 300
  case neg =>
    have t1 : decide (n ≤ 300) = false := decide_eq_false h1
    rw [t1] at CL
    clear h1 t1 hn hlc he hS hx hcap
    go_enter Tryz.func4, Tryz.ntmps4
    go_wp2_with fail
    refine (CL.out _).mono ?_
    rintro e w1 ⟨rfl, rfl⟩
    go_wp2_with fail
    refine (CA.out _ (Below.refl _ _)).mono ?_
    rintro e w2 ⟨rfl, hb⟩
    go_wp2_with fail
    go_ret
    exact ⟨rfl, hb⟩
  have t1 : decide (n ≤ 300) = true := decide_eq_true h1
  rw [t1] at CL
  obtain ⟨F, hF⟩ : ∃ F, formedB l = F := ⟨_, rfl⟩
  have CF : Hid (Calls Tryz.prog 10 #[.slice A n cap] w fun e w' => e = .returned (.bool F) ∧ Below w.heap.size w w') := Lib.hid (by
    have h := RFormed_any l A cap 0 w.heap.size w (by omega) (by omega) he (Nat.le_refl _) hS
    rw [← formed_same, hF, hn] at h
    exact h)
  cases F with
  | false =>
    clear h1 t1 hn hlc he hS hF hx hcap
    go_enter Tryz.func4, Tryz.ntmps4
    go_wp2_with fail
    refine (CL.out _).mono ?_
    rintro e w1 ⟨rfl, rfl⟩
    go_wp2_with fail
    refine CF.out.mono ?_
    rintro e w1 ⟨rfl, hb1⟩
    go_wp2_with fail
    refine (CA.out _ hb1).mono ?_
    rintro e w2 ⟨rfl, hb⟩
    go_wp2_with fail
    go_ret
    exact ⟨rfl, hb1.trans (hb.mono hb1.size)⟩
  | true =>
  by_cases h0 : n = 0
  · subst h0
    clear h1 t1 hn hlc he hS hF hx hcap
    go_enter Tryz.func4, Tryz.ntmps4
    go_wp2_with fail
    refine (CL.out _).mono ?_
    rintro e w1 ⟨rfl, rfl⟩
    go_wp2_with fail
    refine CF.out.mono ?_
    rintro e w1 ⟨rfl, hb1⟩
    go_wp2_with fail
    refine (CA.out _ hb1).mono ?_
    rintro e w2 ⟨rfl, hb⟩
    go_wp2_with fail
    go_ret
    exact ⟨rfl, hb1.trans (hb.mono hb1.size)⟩
  have t3 : ((n : Int) == 0) = false := by rw [beq_eq_false_iff_ne]; omega
  have hll : (n : Int) ≤ 600 := by omega
  have HFT := Lib.hid hF
  have HE := Lib.hid he
  have HN := Lib.hid hn
  have HS := Lib.hid hS
  have hnc : (n : Int) ≤ (cap : Int) := by omega
  have hxx : (x : Int) ≤ 255 := by omega
  clear h1 t1 hn hlc he hS hF
  go_enter Tryz.func4, Tryz.ntmps4
  go_wp2_with fail
  refine (CL.out _).mono ?_
  rintro e w1 ⟨rfl, rfl⟩
  go_wp2_with fail
  refine CF.out.mono ?_
  rintro e w1 ⟨rfl, hb1⟩
  have HB1 := Lib.hid hb1
  clear hb1 CF CL
  obtain ⟨k, hk⟩ : ∃ k : Nat, (x : Int) % (n : Int) = (k : Int) := ⟨((x : Int) % (n : Int)).toNat, by have := Int.emod_nonneg (x : Int) (show (n : Int) ≠ 0 by omega); omega⟩
  have hkn : k < n := by have := Int.emod_lt_of_pos (x : Int) (show (0 : Int) < (n : Int) by omega); omega
  have HK := Lib.hid hk
  clear hk
  go_upto_region 4 with fail
  rw [HK.out]
  have hkl : k < l.length := by rw [HN.out]; exact hkn
  obtain ⟨b, o, p, hA, _, hbz, hxk, hent⟩ := (HE.out k hkl).kept HB1.out (Nat.le_refl _)
  subst hA
  have hbw : b < w1.heap.size := by have := HB1.out.size; omega
  have x0 := hxk.c0
  obtain ⟨kk, hkk⟩ : ∃ z, l[k].k = z := ⟨_, rfl⟩
  rw [hkk] at x0
  have hkn' : (k : Int) < (n : Int) := by omega
  have HKK := Lib.hid hkk
  clear hxk hent hkk
  by_cases k2 : kk = 2
  · have t2 : (kk == 2) = true := by simpa using k2
    clear k2
    go_wp2_with fail
    refine (CA.out _ HB1.out).mono ?_
    rintro e w2 ⟨rfl, hb⟩
    go_wp2_with fail
    go_ret
    exact ⟨rfl, HB1.out.trans (hb.mono HB1.out.size)⟩
  have t2 : (kk == 2) = false := by simpa using k2
  by_cases k4 : kk = 4
  · have t4 : (kk == 4) = true := by simpa using k4
    clear k2 k4
    go_wp2_with fail
    refine (CA.out _ HB1.out).mono ?_
    rintro e w2 ⟨rfl, hb⟩
    go_wp2_with fail
    go_ret
    exact ⟨rfl, HB1.out.trans (hb.mono HB1.out.size)⟩
  have t4 : (kk == 4) = false := by simpa using k4
  have HFB := Lib.hid (show formedB (l.take k) = true from formed_take hkl (by rw [HKK.out]; exact k2) (by rw [HKK.out]; exact k4) HFT.out)
  have HER := Lib.hid (show errA (l.take k) (l.drop k) = 0 from begins hkl (by rw [HKK.out]; exact k2) (by rw [HKK.out]; exact k4) HFT.out)
  have HTL := Lib.hid (show (l.take k).length = k by rw [List.length_take]; omega)
  have HDL := Lib.hid (show (l.drop k).length = n - k by rw [List.length_drop, HN.out])
  have C1 := Lib.hid (show Calls Tryz.prog 11 #[.slice (some ⟨b, o, none⟩) k cap] w1 fun e w' => e = .returned (.bool true) ∧ Below w1.heap.size w1 w' from by
    have h := SFormed_any (l.take k) (some ⟨b, o, none⟩) cap 0 w.heap.size w1 (by rw [HTL.out]; omega) (by rw [HTL.out]; omega) ((HE.out.kept HB1.out (Nat.le_refl _)).take k) HB1.out.size (HS.out.kept HB1.out)
    rw [HFB.out, HTL.out] at h
    exact h)
  clear k2 k4 HKK hkl
  have hkc : (k : Int) ≤ (cap : Int) := by omega
  have hck : ¬ cap = k := by omega
  have C2 := Lib.hid (fun (V : World) (hV : Below w.heap.size w V) => (show Calls Tryz.prog 7 #[.slice (some ⟨b, o, none⟩) k cap, .slice (some ⟨b, o + k * 15, none⟩) (n - k) (cap - k)] V (GivesA (outS (l.take k) (l.drop k)) 0 V) from by
    have h := sadd_any (l.take k) (l.drop k) (some ⟨b, o, none⟩) (some ⟨b, o + k * 15, none⟩) cap (cap - k) 0 w.heap.size 0 w.heap.size V (by rw [HTL.out]; omega) (by rw [HDL.out]; omega) (by rw [HTL.out]; omega) ((HE.out.kept hV (Nat.le_refl _)).take k) ((HE.out.kept hV (Nat.le_refl _)).drop k) hV.size hV.size (HS.out.kept hV)
    rw [HER.out, HTL.out, HDL.out] at h
    exact h))
  have hkn2 : (k : Int) ≤ (n : Int) := by omega
  go_wp2_with fail
  refine C1.out.mono ?_
  rintro e w2 ⟨rfl, hb2⟩
  have HB2 := Lib.hid (HB1.out.trans (hb2.mono HB1.out.size))
  clear hb2 C1 x0
  have HOS : Hid (outS (l.take k) (l.drop k) = l.map copyE) := Lib.hid (by unfold outS; rw [if_pos HER.out, List.take_append_drop])
  rw [HOS.out] at C2
  have HML := Lib.hid (show (l.map copyE).length = n by rw [List.length_map, HN.out])
  unfold GivesA at C2
  rw [HML.out] at C2
  go_upto_region 8 with fail
  have hbk := Lib.hid ((Below.refl w2.heap.size w2).drew)
  go_cut [6, 7] from 50 to 59 (fun s6 s7 wx => ∃ B c, s6 = .slice B n c ∧ s7 = .int .i64 0 ∧ EntsAt wx 0 wx.heap.size B (l.map copyE) ∧ n ≤ c ∧ Below w.heap.size w wx)
  case first =>
    go_region_law
      (first
       | (go_simp; go_at_call 7
          refine (C2.out _ (HB2.out.trans (hbk.out.mono HB2.out.size))).mono ?_
          rintro e w3 ⟨B, c, rfl, he3, hc3, hb3⟩
          have HR := Lib.hid (show EntsAt w3 0 w3.heap.size B (l.map copyE) ∧ n ≤ c ∧ Below w.heap.size w w3 from ⟨he3, hc3, (HB2.out.trans (hbk.out.mono HB2.out.size)).trans (hb3.mono (HB2.out.trans (hbk.out.mono HB2.out.size)).size)⟩)
          clear he3 hc3 hb3))
    all_goals
      go_wp2_with fail
      go_meet
      case rel => exact ⟨B, c, rfl, rfl, HR.out⟩
  case rest =>
    obtain ⟨B, c, rfl, rfl, he3, hc3, hb3⟩ := hcut
    have HE3 := Lib.hid he3
    have HB3 := Lib.hid hb3
    have hncc : (n : Int) ≤ (c : Int) := by omega
    have CS := Lib.hid (show Calls Tryz.prog 9 #[.slice B n c, .slice (some ⟨b, o, none⟩) n cap] wc fun e w' => e = .returned (.bool true) ∧ Below wc.heap.size wc w' from by
      have h := rsame_yes (l.map copyE) l B (some ⟨b, o, none⟩) c cap 0 wc.heap.size 0 w.heap.size wc (by rw [HML.out]; omega) (by rw [HML.out, HN.out]) he3 (HE.out.kept hb3 (Nat.le_refl _)) (Nat.le_refl _) hb3.size (fun i h h' => by rw [List.getElem_map]; exact same_symm (same_copyE _))
      rw [HML.out, HN.out] at h
      exact h)
    have CN := Lib.hid (fun (s : ByteArray) (V : World) (hV : Below wc.heap.size wc V) => (show Calls Tryz.prog 12 #[.slice B n c, .string s] V fun e w' => (∃ r, e = .returned (findE r) ∧ FindIs (l.map copyE) s r) ∧ V = w' from by
      have h := sfind_any (l.map copyE) B c 0 wc.heap.size s V (by rw [HML.out]; omega) (HE3.out.kept hV (Nat.le_refl _)) hV.size
      rw [HML.out] at h
      exact h))
    have HDN := Lib.hid (show distB (namesE l) = true from by
      have h := HFT.out
      unfold formedB at h
      simp only [Bool.and_eq_true] at h
      exact h.2.1)
    clear he3 hc3 hb3 hkn2 hkc hck hkn'
    go_wp2_with fail
    refine CS.out.mono ?_
    rintro e w4 ⟨rfl, hb4⟩
    have HB4 := Lib.hid hb4
    clear hb4 CS
    go_wp2_with fail
    go_loopw [8] (fun iv wr => ∃ i : Nat, i ≤ n ∧ iv = .int .i64 i ∧ Below wc.heap.size wc wr) (fun iv _ => n - (intOf iv).toNat)
    case atStart => exact ⟨0, Nat.zero_le _, rfl, HB4.out⟩
    case round =>
      obtain ⟨i, hi1, rfl, hB⟩ := hrel
      have HBW := Lib.hid (HB3.out.trans (hB.mono HB3.out.size))
      by_cases hin : i < n
      · have hil : i < l.length := by rw [HN.out]; exact hin
        obtain ⟨b', o', p', hA, _, hbz', hxi, hent'⟩ := (HE.out.kept HBW.out (Nat.le_refl _)) i hil
        injection hA with hA
        injection hA with e1 e2 e3
        subst e1 e2
        have hbw' : b < wr.heap.size := by have := HBW.out.size; omega
        have x1 := hxi.c1
        have HFA := Lib.hid (fun (r : Int) (h : FindIs (l.map copyE) l[i].s r) => find_at HDN.out hil h)
        obtain ⟨s, hs⟩ : ∃ s, l[i].s = s := ⟨_, rfl⟩
        rw [hs] at x1 HFA
        have hi0' : (i : Int) < (n : Int) := by omega
        have HBB := Lib.hid hB
        clear hs hxi hent' hB
        go_wp2_with fail
        refine (CN.out s _ HBB.out).mono ?_
        rintro e w5 ⟨⟨r, rfl, hr⟩, rfl⟩
        obtain rfl := HFA.out r hr
        have HFE := Lib.hid (show findE (i : Int) = .tuple #[.int .i64 i, .int .i64 0] from by unfold findE; rw [if_neg (by omega)])
        rw [HFE.out]
        clear hr
        go_wp2_with fail
        go_roundw
        case rel => exact ⟨i + 1, by omega, by go_num, HBB.out⟩
        case measure => simp [intOf]; omega
      · obtain rfl : i = n := by omega
        go_wp2_with fail
        refine (CA.out _ HBW.out).mono ?_
        rintro e w6 ⟨rfl, hb6⟩
        go_wp2_with fail
        go_ret
        exact ⟨rfl, HBW.out.trans (hb6.mono HBW.out.size)⟩

end Go.Proofs.YtcbbaognomddkaaGreatDoor
