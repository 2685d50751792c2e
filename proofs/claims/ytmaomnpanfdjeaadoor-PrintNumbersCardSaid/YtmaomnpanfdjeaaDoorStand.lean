/- tree.stands: what is a right node, by the table of shapes: the document's rule, for every tree that is not too great. -/
import Derived.Test.YtmaomnpanfdjeaaDoorGood
import Derived.Test.YtmaomnpanfdjeaaDoorAllN
namespace Go.Proofs.YtmaomnpanfdjeaaDoor
open Go.RowKit
set_option linter.unusedVariables false

def StandsIs (t : RT) : Prop := ∀ (what : Int) (lo hi : Nat) (A : Option Addr) (cap : Nat) (w : World), IsNode w lo hi t A cap → hi ≤ w.heap.size → Shapes w → t.size ≤ 8192 → what = 1 ∨ what = 2 →
    Calls Tryd.prog 33 #[nodeV t A cap, .int .i64 what] w fun e w' => e = .returned (.bool (goodB t (decide (what = 2)))) ∧ Below w.heap.size w w'

/-- The closure that asks each Sub. -/
theorem stands1_any (t : RT) (ht : StandsIs t) (q : Int) (g lo hi : Nat) (A : Option Addr) (cap : Nat) (w : World) (h : IsNode w lo hi t A cap) (hhi : hi ≤ w.heap.size) (hS : Shapes w) (hz : t.size ≤ 8192) (hq : q = 1 ∨ q = 2)
    (hc : w.cell? ⟨g, 5, none⟩ = some (.int .i64 q)) :
    Calls Tryd.prog 45 #[nodeV t A cap, .pointer (some ⟨g, 0, none⟩)] w fun e w' => e = .returned (.bool (goodB t (decide (q = 2)))) ∧ Below w.heap.size w w' := by
  have hlt : g < w.heap.size := World.block_lt_of_cell? w _ hc
  have HT := Lib.hid ht
  have HS := Lib.hid hS
  have HZ := Lib.hid hz
  have HQ := Lib.hid hq
  obtain ⟨r, hr⟩ : ∃ r, goodB t (decide (q = 2)) = r := ⟨_, rfl⟩
  have HR := Lib.hid hr
  rw [hr]
  clear ht hS hz hq hr
  have hv := nodeV_node
  clear hv
  unfold nodeV
  go_enter Tryd.func45, Tryd.ntmps45
  go_wp2_with fail
  refine (HT.out q lo hi A cap _ (h.alloc hhi _) (by simp; omega) (HS.out.below ((Below.refl _ _).alloc (Nat.le_refl _) _)) HZ.out HQ.out).mono ?_
  rintro e w1 ⟨rfl, hb⟩
  rw [HR.out]
  go_wp2_with fail
  go_ret
  exact ⟨rfl, ((Below.refl _ _).alloc (Nat.le_refl _) _).trans (hb.mono (by simp))⟩

theorem topB_not {k : Int} {s : ByteArray} {n : Int} {p : Bool} (l : List RT) (a : Int) (h : topB k s n l.length p = false) : goodB (.node k a s n l) p = false := by
  rw [goodB_node, h]; rfl

set_option maxHeartbeats 1000000 in
theorem stands_any : ∀ t, StandsIs t := by
  intro t
  induction t using RT.ind with
  | h k a s n l ih =>
    intro what lo hi A cap w h hhi hS hsz hw
    obtain ⟨hs, hl, hm⟩ := h.bounds
    rw [size_node] at hsz
    have hll := sizeL_len l
    have HSZ := Lib.hid hsz
    have HLL : Hid (l.length ≤ 8192) := Lib.hid (by omega)
    have IH := Lib.hid ih
    have HN : Hid (NodesAt w lo hi A l) := Lib.hid (h.sub)
    have HS := Lib.hid hS
    have hlt := hS.lt
    have HW := Lib.hid hw
    have HM := Lib.hid (Nat.le_trans hl hm)
    unfold maxLen at hm hs
    clear ih h hS hsz hll hw
    rw [nodeV_node]
    by_cases hk1 : k < 1
    · rw [topB_not l a (by unfold topB; rw [decide_eq_false (by omega : ¬ 1 ≤ k)]; rfl)]
      go_enter Tryd.func33, Tryd.ntmps33
      go_wp2_with fail
      go_ret
      exact ⟨rfl, (Below.refl _ _).alloc (Nat.le_refl _) _⟩
    by_cases hk2 : 10 < k
    · rw [topB_not l a (by unfold topB; rw [decide_eq_false (by omega : ¬ k ≤ 10)]; simp)]
      go_enter Tryd.func33, Tryd.ntmps33
      go_wp2_with fail
      go_ret
      exact ⟨rfl, (Below.refl _ _).alloc (Nat.le_refl _) _⟩
    obtain ⟨K, rfl⟩ : ∃ K : Nat, k = (K : Int) := ⟨k.toNat, by omega⟩
    have hK1 : 1 ≤ K := by omega
    have hK2 : K ≤ 10 := by omega
    have HK1 := Lib.hid hK1
    have HK2 := Lib.hid hK2
    have hK2' : (K : Int) < 11 := by omega
    obtain ⟨v0, hv0⟩ : ∃ v, shp K 0 = v := ⟨_, rfl⟩
    obtain ⟨v1, hv1⟩ : ∃ v, shp K 1 = v := ⟨_, rfl⟩
    obtain ⟨v2, hv2⟩ : ∃ v, shp K 2 = v := ⟨_, rfl⟩
    obtain ⟨v3, hv3⟩ : ∃ v, shp K 3 = v := ⟨_, rfl⟩
    obtain ⟨v4, hv4⟩ : ∃ v, shp K 4 = v := ⟨_, rfl⟩
    obtain ⟨v5, hv5⟩ : ∃ v, shp K 5 = v := ⟨_, rfl⟩
    have c0 := HS.out K 0 (by omega) (by omega)
    have c1 := HS.out K 1 (by omega) (by omega)
    have c2 := HS.out K 2 (by omega) (by omega)
    have c3 := HS.out K 3 (by omega) (by omega)
    have c4 := HS.out K 4 (by omega) (by omega)
    have c5 := HS.out K 5 (by omega) (by omega)
    rw [Nat.add_zero, hv0] at c0
    rw [hv1] at c1
    rw [hv2] at c2
    rw [hv3] at c3
    rw [hv4] at c4
    rw [hv5] at c5
    have HV0 := Lib.hid hv0
    have HV1 := Lib.hid hv1
    have HV2 := Lib.hid hv2
    have HV3 := Lib.hid hv3
    have HV4 := Lib.hid hv4
    have HV5 := Lib.hid hv5
    clear hv0 hv1 hv2 hv3 hv4 hv5
    have hnz := hs
    have hKa : (1 : Int) ≤ (K : Int) := by omega
    have hKb : (K : Int) ≤ 10 := by omega
    have d1 : decide ((K : Int) < 1) = false := decide_eq_false (by omega)
    have d2 : decide ((10 : Int) < (K : Int)) = false := decide_eq_false (by omega)
    clear hk1 hk2
    have E0 : Hid (decide (v0 = what) = (decide ((5 : Int) < K) == decide (what = 2))) := by
      show _ = _
      rw [← HV0.out, shp_is hK1 hK2]
      rcases HW.out with rfl | rfl
      · by_cases h5 : 5 < K
        · have : (5 : Int) < K := by omega
          simp [h5, this]
        · have : ¬ (5 : Int) < K := by omega
          simp [h5, this]
      · by_cases h5 : 5 < K
        · have : (5 : Int) < K := by omega
          simp [h5, this]
        · have : ¬ (5 : Int) < K := by omega
          simp [h5, this]
    have EK : Hid (decide (1 ≤ (K : Int)) = true ∧ decide ((K : Int) ≤ 10) = true) := ⟨decide_eq_true (by omega), decide_eq_true (by omega)⟩
    by_cases hvw : v0 = what
    case neg =>
      rw [topB_not l a (by unfold topB; rw [EK.out.1, EK.out.2, ← E0.out, decide_eq_false hvw]; rfl)]
      have t0 : (v0 != what) = true := by simpa using hvw
      clear hvw
      go_enter Tryd.func33, Tryd.ntmps33
      go_wp2_with fail
      go_ret
      exact ⟨rfl, ((Below.refl _ _).alloc (Nat.le_refl _) _).alloc (by simp) _⟩
    have t0 : (v0 != what) = false := by simpa using hvw
    rw [decide_eq_true hvw] at E0
    clear hvw
    have hbr := bears_any s v1
    rw [← HV1.out, shp_name hK1 hK2, HV1.out] at hbr
    have hW2 : ∀ o1 o2, Below w.heap.size w ((w.alloc o1).alloc o2) := fun o1 o2 => ((Below.refl _ _).alloc (Nat.le_refl _) _).alloc (by simp) _
    have HW2 := Lib.hid hW2
    cases hnm : namedB (K : Int) s with
    | false =>
      rw [topB_not l a (by unfold topB; rw [EK.out.1, EK.out.2, ← E0.out, hnm]; simp)]
      rw [hnm] at hbr
      have HB := Lib.hid hbr
      clear hbr hnm hW2
      go_enter Tryd.func33, Tryd.ntmps33
      go_wp2_with fail
      refine (HB.out _ hs).mono ?_
      rintro e w1 ⟨rfl, hb⟩
      go_wp2_with fail
      go_ret
      exact ⟨rfl, (HW2.out _ _).trans (hb.mono (by simp; omega))⟩
    | true =>
      rw [hnm] at hbr
      have HB := Lib.hid hbr
      have HNM := Lib.hid hnm
      obtain ⟨r, hr⟩ : ∃ r, goodB (.node (K : Int) a s n l) (decide (what = 2)) = r := ⟨_, rfl⟩
      rw [hr]
      have HG := Lib.hid hr
      clear hbr hnm hW2 hr
      go_enter Tryd.func33, Tryd.ntmps33
      go_wp2_with fail
      refine (HB.out _ hs).mono ?_
      rintro e w1 ⟨rfl, hb⟩
      have hz1 := hb.size
      simp at hz1
      have hcell : ∀ p : Addr, p.block < w.heap.size + 1 + 1 → w1.cell? p = ((w.alloc (.cells #[.int .i64 (K : Int), .int .i64 a, .string s, .int .i64 n, .slice A l.length cap] 24)).alloc (.cells #[.int .i64 v0, .int .i64 v1, .int .i64 v2, .int .i64 v3, .int .i64 v4, .int .i64 v5] 70)).cell? p := fun p hp => hb.cell (p := p) (by simpa using hp)
      have hB1 := (HW2.out _ _).trans (hb.mono (by simp; omega))
      have HB1 := Lib.hid hB1
      have HBb := Lib.hid hb
      clear hB1 hb
      by_cases hn0 : n < 0
      · have e0 : numB (K : Int) n = false := by
          cases e : numB (K : Int) n with
          | false => rfl
          | true => have := (shp_num hK1 hK2 n).1 e; omega
        have hr0 : Hid (r = false) := Lib.hid (HG.out.symm.trans (topB_not l a (by unfold topB; rw [EK.out.1, EK.out.2, ← E0.out, HNM.out, e0]; simp)))
        clear e0
        go_wp2_with fail
        go_ret
        exact ⟨by rw [hr0.out]; rfl, HB1.out⟩
      by_cases hn2 : v2 < n
      · have e0 : numB (K : Int) n = false := by
          cases e : numB (K : Int) n with
          | false => rfl
          | true => have := (shp_num hK1 hK2 n).1 e; have := HV2.out; omega
        have hr0 : Hid (r = false) := Lib.hid (HG.out.symm.trans (topB_not l a (by unfold topB; rw [EK.out.1, EK.out.2, ← E0.out, HNM.out, e0]; simp)))
        clear e0
        go_wp2_with fail
        go_ret
        exact ⟨by rw [hr0.out]; rfl, HB1.out⟩
      have e0 : Hid (numB (K : Int) n = true) := (shp_num hK1 hK2 n).2 ⟨by omega, by have := HV2.out; omega⟩
      by_cases hm3 : (l.length : Int) < v3
      · have e1 : manyB (K : Int) l.length = false := by
          cases e : manyB (K : Int) l.length with
          | false => rfl
          | true => have := (shp_many hK1 hK2 HLL.out).1 e; have := HV3.out; omega
        have hr0 : Hid (r = false) := Lib.hid (HG.out.symm.trans (topB_not l a (by unfold topB; rw [EK.out.1, EK.out.2, ← E0.out, e1]; simp)))
        clear e1
        go_wp2_with fail
        go_ret
        exact ⟨by rw [hr0.out]; rfl, HB1.out⟩
      by_cases hm4 : v4 < (l.length : Int)
      · have e1 : manyB (K : Int) l.length = false := by
          cases e : manyB (K : Int) l.length with
          | false => rfl
          | true => have := (shp_many hK1 hK2 HLL.out).1 e; have := HV4.out; omega
        have hr0 : Hid (r = false) := Lib.hid (HG.out.symm.trans (topB_not l a (by unfold topB; rw [EK.out.1, EK.out.2, ← E0.out, e1]; simp)))
        clear e1
        go_wp2_with fail
        go_ret
        exact ⟨by rw [hr0.out]; rfl, HB1.out⟩
      have e1 : Hid (manyB (K : Int) l.length = true) := (shp_many hK1 hK2 HLL.out).2 ⟨by have := HV3.out; omega, by have := HV4.out; omega⟩
      have hres : goodB (.node (K : Int) a s n l) (decide (what = 2)) = allB (atB (fun t => goodB t (decide (v5 = 2))) l) l.length := by
        rw [goodB_node, goodL_at]
        have et : topB (K : Int) s n l.length (decide (what = 2)) = true := by
          unfold topB; rw [EK.out.1, EK.out.2, ← E0.out, HNM.out, e0.out, e1.out]; rfl
        rw [et, Bool.true_and]
        by_cases h0 : 0 < l.length
        · rw [← HV5.out, (shp_sub hK1 hK2 h0 e1.out).2]
        · have : l = [] := List.eq_nil_of_length_eq_zero (by omega)
          subst this
          rw [goodL_all, goodL_all]; rfl
      have hall := all_stands l A cap lo hi ⟨w.heap.size + 1, 0, none⟩ (atB (fun t => goodB t (decide (v5 = 2))) l) w1 HM.out (HN.out.kept HB1.out hhi) (by omega) (fun i hi' lo' hi2 F C W hW hx hh => by
        have e5 : W.cell? ⟨w.heap.size + 1, 5, none⟩ = some (.int .i64 v5) := by
          rw [hW.cell (p := ⟨w.heap.size + 1, 5, none⟩) (by show w.heap.size + 1 < w1.heap.size; omega), hcell ⟨w.heap.size + 1, 5, none⟩ (by show w.heap.size + 1 < w.heap.size + 1 + 1; omega)]
          have := World.cell?_alloc_mark (w.alloc (.cells #[.int .i64 (K : Int), .int .i64 a, .string s, .int .i64 n, .slice A l.length cap] 24))
          simp at this
          rw [this]; rfl
        have hq : v5 = 1 ∨ v5 = 2 := by have := (shp_sub hK1 hK2 (by omega : 0 < l.length) e1.out).1; rw [HV5.out] at this; exact this
        have hmem : l[i] ∈ l := List.getElem_mem hi'
        have hsz := size_mem hmem
        have := stands1_any l[i] (IH.out _ hmem) v5 (w.heap.size + 1) lo' hi2 F C W hx hh (HS.out.below (HB1.out.trans (hW.mono HB1.out.size))) (by have := HSZ.out; omega) hq e5
        rw [atB_of _ hi']
        exact this)
      have HA := Lib.hid hall
      have HR := Lib.hid (HG.out.symm.trans hres)
      clear hres hall
      go_wp2_with fail
      refine HA.out.mono ?_
      rintro e w2 ⟨rfl, hb2⟩
      go_wp2_with fail
      go_ret
      exact ⟨by rw [HR.out]; rfl, HB1.out.trans (hb2.mono HB1.out.size)⟩

end Go.Proofs.YtmaomnpanfdjeaaDoor
