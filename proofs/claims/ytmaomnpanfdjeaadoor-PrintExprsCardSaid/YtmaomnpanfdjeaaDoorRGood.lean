/- scholiumref04.good: the document's rule, for every tree. -/
import Derived.Test.YtmaomnpanfdjeaaDoorGood
import Derived.Deep.RegionHeld3
namespace Go.Proofs.YtmaomnpanfdjeaaDoor
open Go.RowKit
set_option linter.unusedVariables false

theorem goodL_take {l : List RT} {p : Bool} {i : Nat} (h : i < l.length) : goodL (l.take (i + 1)) p = (goodL (l.take i) p && goodB l[i] p) := by
  rw [goodL_all, goodL_all, take_snoc h, List.all_append]; simp
theorem goodL_no {l : List RT} {p : Bool} {i : Nat} (h : i < l.length) (hg : goodB l[i] p = false) : goodL l p = false := by
  cases e : goodL l p with
  | false => rfl
  | true =>
    rw [goodL_all, List.all_eq_true] at e
    have := e _ (List.getElem_mem h)
    rw [hg] at this; cases this

set_option maxHeartbeats 2000000 in
theorem good_any : ∀ (t : RT) (p : Bool) (lo hi : Nat) (A : Option Addr) (cap : Nat) (w : World), IsNode w lo hi t A cap → hi ≤ w.heap.size →
    Calls Tryd.prog 26 #[nodeV t A cap, .bool p] w fun e w' => e = .returned (.bool (goodB t p)) ∧ Below w.heap.size w w' := by
  intro t
  induction t using RT.ind with
  | h k a s n l ih =>
    intro p lo hi A cap w h hhi
    obtain ⟨hs, hl, hm⟩ := h.bounds
    have IH := Lib.hid ih
    have HN : Hid (NodesAt w lo hi A l) := Lib.hid (h.sub)
    unfold maxLen at hm hs
    clear ih h
    rw [nodeV_node]
    obtain ⟨r, hr⟩ : ∃ r, goodB (.node k a s n l) p = r := ⟨_, rfl⟩
    rw [hr]
    have HG := Lib.hid hr
    clear hr
    have topF : topB k s n l.length p = false → r = false := fun h => by rw [← HG.out, goodB_node, h]; rfl
    have TOP := Lib.hid topF
    clear topF
    by_cases hk1 : k < 1
    · have HR := Lib.hid (TOP.out (by unfold topB; rw [decide_eq_false (by omega : ¬ 1 ≤ k)]; rfl))
      go_enter Tryd.func26, Tryd.ntmps26
      go_wp2_with fail
      go_ret
      exact ⟨by rw [HR.out]; rfl, (Below.refl _ _).alloc (Nat.le_refl _) _⟩
    by_cases hk2 : 10 < k
    · have HR := Lib.hid (TOP.out (by unfold topB; rw [decide_eq_false (by omega : ¬ k ≤ 10)]; simp))
      go_enter Tryd.func26, Tryd.ntmps26
      go_wp2_with fail
      go_ret
      exact ⟨by rw [HR.out]; rfl, (Below.refl _ _).alloc (Nat.le_refl _) _⟩
    have EK : Hid (decide (1 ≤ k) = true ∧ decide (k ≤ 10) = true) := ⟨decide_eq_true (by omega), decide_eq_true (by omega)⟩
    have d1 : decide (k < 1) = false := decide_eq_false hk1
    have d2 : decide (10 < k) = false := decide_eq_false hk2
    have hka : 1 ≤ k := by omega
    have hkb : k ≤ 10 := by omega
    clear hk1 hk2
    obtain ⟨q, hq⟩ : ∃ q, decide (5 < k) = q := ⟨_, rfl⟩
    cases hpq : (q == p) with
    | false =>
      have HR := Lib.hid (TOP.out (by unfold topB; rw [EK.out.1, EK.out.2, hq, hpq]; rfl))
      go_enter Tryd.func26, Tryd.ntmps26
      go_wp2_with fail
      go_ret
      exact ⟨by rw [HR.out]; rfl, (Below.refl _ _).alloc (Nat.le_refl _) _⟩
    | true =>
    have E0 : Hid ((decide (5 < k) == p) = true) := Lib.hid (by rw [hq]; exact hpq)
    have hW1 : ∀ o1, Below w.heap.size w (w.alloc o1) := fun o1 => (Below.refl _ _).alloc (Nat.le_refl _) _
    have HW1 := Lib.hid hW1
    clear hW1
    have HMN := Lib.hid (many_any k l.length)
    cases hmn : manyB k l.length with
    | false =>
      have HR := Lib.hid (TOP.out (by unfold topB; rw [EK.out.1, EK.out.2, E0.out, hmn]; rfl))
      rw [hmn] at HMN
      clear hmn
      go_enter Tryd.func26, Tryd.ntmps26
      go_wp2_with fail
      refine (HMN.out _).mono ?_
      rintro e w1 ⟨rfl, rfl⟩
      go_wp2_with fail
      go_ret
      exact ⟨by rw [HR.out]; rfl, HW1.out _⟩
    | true =>
    rw [hmn] at HMN
    have E1 := Lib.hid hmn
    clear hmn
    have hnm := named_any k s
    cases hnb : namedB k s with
    | false =>
      have HR := Lib.hid (TOP.out (by unfold topB; rw [EK.out.1, EK.out.2, E0.out, hnb]; simp))
      rw [hnb] at hnm
      have HNM := Lib.hid hnm
      clear hnb hnm
      go_enter Tryd.func26, Tryd.ntmps26
      go_wp2_with fail
      refine (HMN.out _).mono ?_
      rintro e w1 ⟨rfl, rfl⟩
      go_wp2_with fail
      refine (HNM.out _ hs).mono ?_
      rintro e w1 ⟨rfl, hb⟩
      go_wp2_with fail
      go_ret
      exact ⟨by rw [HR.out]; rfl, (HW1.out _).trans (hb.mono (by simp))⟩
    | true =>
    rw [hnb] at hnm
    have HNM := Lib.hid hnm
    have E2 := Lib.hid hnb
    clear hnb hnm
    go_enter Tryd.func26, Tryd.ntmps26
    go_wp2_with fail
    refine (HMN.out _).mono ?_
    rintro e w1 ⟨rfl, rfl⟩
    go_wp2_with fail
    refine (HNM.out _ hs).mono ?_
    rintro e w1 ⟨rfl, hb⟩
    have hz1 := hb.size
    simp at hz1
    have hcell : ∀ p : Addr, p.block < w.heap.size + 1 → w1.cell? p = (w.alloc (.cells #[.int .i64 k, .int .i64 a, .string s, .int .i64 n, .slice A l.length cap] 27)).cell? p := fun p hp => hb.cell (p := p) (by simpa using hp)
    have hB1 := (HW1.out _).trans (hb.mono (by simp))
    have HB1 := Lib.hid hB1
    clear hB1 hb
    cases hnu : numB k n with
    | false =>
      have HR := Lib.hid (TOP.out (by unfold topB; rw [EK.out.1, EK.out.2, E0.out, E1.out, E2.out, hnu]; rfl))
      unfold numB at hnu
      by_cases h2 : k = 2
      · subst h2
        simp at hnu
        have hor : n < 0 ∨ (¬ n < 0 ∧ 7 < n) := by omega
        clear hnu
        rcases hor with h0 | ⟨h0, h7⟩
        · go_wp2_with fail
          go_ret
          exact ⟨by rw [HR.out]; rfl, HB1.out⟩
        · go_wp2_with fail
          go_ret
          exact ⟨by rw [HR.out]; rfl, HB1.out⟩
      · rw [if_neg h2] at hnu
        have t1 : (k == 2) = false := by simp; omega
        have t2 : (k != 2) = true := by simp; omega
        have t3 : (n != 0) = true := by simpa using hnu
        clear hnu h2
        go_wp2_with fail
        go_ret
        exact ⟨by rw [HR.out]; rfl, HB1.out⟩
    | true =>
      have ET : Hid (topB k s n l.length p = true) := Lib.hid (by unfold topB; rw [EK.out.1, EK.out.2, E0.out, E1.out, E2.out, hnu]; rfl)
      have HR : Hid (r = goodL l (decide (k = 8))) := Lib.hid (by rw [← HG.out, goodB_node, ET.out]; rfl)
      have hcs : Hid ((k = 2 ∧ (k == 2) = true ∧ (k != 2) = false ∧ decide (n < 0) = false ∧ decide (7 < n) = false) ∨ ((k == 2) = false ∧ (k != 2) = true ∧ (n != 0) = false)) := by
        show _ ∨ _
        unfold numB at hnu
        by_cases h2 : k = 2
        · left
          rw [if_pos h2] at hnu
          simp at hnu
          exact ⟨h2, by simpa using h2, by simpa using h2, decide_eq_false (by omega), decide_eq_false (by omega)⟩
        · right
          rw [if_neg h2] at hnu
          exact ⟨by simpa using h2, by simpa using h2, by simpa using hnu⟩
      clear hnu
      obtain ⟨g8, hg8⟩ : ∃ g, (k == 8) = g := ⟨_, rfl⟩
      have HG8 : Hid (decide (k = 8) = g8) := Lib.hid (by rw [← hg8]; by_cases h8 : k = 8 <;> simp [h8])
      rw [HG8.out] at HR
      rcases hcs.out with ⟨rfl, u1, u2, u3, u4⟩ | ⟨u1, u2, u3⟩
      · go_wp2_with fail
        go_loopw [5] (fun iv wr => ∃ i : Nat, i ≤ l.length ∧ iv = .int .i64 i ∧ Below w.heap.size w wr ∧ wr.cell? ⟨w.heap.size, 0, none⟩ = some (.int .i64 2) ∧ wr.cell? ⟨w.heap.size, 4, none⟩ = some (.slice A l.length cap) ∧ w.heap.size < wr.heap.size ∧ Hid (goodL (l.take i) g8 = true))
          (fun iv _ => l.length - (intOf iv).toNat)
        case atStart =>
          refine ⟨0, Nat.zero_le _, rfl, HB1.out, ?_, ?_, by omega, Lib.hid (by rw [List.take_zero, goodL_all]; rfl)⟩
          · rw [hcell _ (by show w.heap.size < _; omega), World.cell?_alloc_mark]; rfl
          · rw [hcell _ (by show w.heap.size < _; omega), World.cell?_alloc_mark]; rfl
        case round =>
          obtain ⟨i, hi1, rfl, hB, y0, y4, hlt, HGL⟩ := hrel
          have hz := hB.size
          clear hcell
          by_cases hil : i < l.length
          · obtain ⟨b, o, F, C, hA, hb1, hb2, hx, hnode⟩ := (HN.out i hil).kept hB hhi
            subst hA
            obtain ⟨x0, x1, x2, x3, x4⟩ := hx
            have hmem : l[i] ∈ l := List.getElem_mem hil
            have hgt := goodL_take (p := g8) hil
            have hIH := IH.out l[i] hmem g8 lo hi F C
            have hno := fun hg => goodL_no (p := g8) hil hg
            obtain ⟨v, hv⟩ : ∃ v, goodB l[i] g8 = v := ⟨_, rfl⟩
            rw [hv, HGL.out, Bool.true_and] at hgt
            rw [hv] at hIH hno
            have HGT := Lib.hid hgt
            have HIH := Lib.hid hIH
            have HNO := Lib.hid hno
            clear hgt hIH hno hv
            have hi1' : (i : Int) < (l.length : Int) := by omega
            have hi0' : (0 : Int) ≤ (i : Int) := by omega
            have hBr := fun W' (hW : Below wr.heap.size wr W') => hW
            go_wp2_with fail
            go_region_held3 (fun w' => w'.cell? ⟨w.heap.size, 0, none⟩ = some (.int .i64 2) ∧ w'.cell? ⟨w.heap.size, 4, none⟩ = some (.slice (some ⟨b, o, none⟩) l.length cap) ∧
                w'.cell? ⟨b, o + i * 5, none⟩ = some (.int .i64 l[i].k) ∧ w'.cell? ⟨b, o + i * 5 + 1, none⟩ = some (.int .i64 l[i].a) ∧ w'.cell? ⟨b, o + i * 5 + 2, none⟩ = some (.string l[i].s) ∧ w'.cell? ⟨b, o + i * 5 + 3, none⟩ = some (.int .i64 l[i].n) ∧ w'.cell? ⟨b, o + i * 5 + 4, none⟩ = some (.slice F l[i].l.length C))
              (first | go_keep | (refine ⟨?_, ?_, ?_, ?_, ?_, ?_, ?_⟩ <;> ((rw [hb3.cell (by show _ < _; simp; omega)]; assumption))))
              (first | (go_at_call 26; refine (HIH.out _ (hnode.kept ((Below.refl _ _).drew) (by omega)) (by simp; omega)).mono ?_; rintro e w3 ⟨rfl, hb3⟩))
            have hB3 := hB.drew.trans (hb3.mono hz)
            have hc3 : ∀ q, w3.cell? ⟨w.heap.size, q, none⟩ = wr.cell? ⟨w.heap.size, q, none⟩ := fun q => hb3.cell (p := ⟨w.heap.size, q, none⟩) hlt
            have HY0 := Lib.hid ((hc3 0).trans y0)
            have HY4 := Lib.hid ((hc3 4).trans y4)
            have HLT := Lib.hid (Nat.lt_of_lt_of_le hlt hb3.size)
            have HB3 := Lib.hid hB3
            clear hc3 hB3 hb3
            cases v with
            | true =>
              go_wp2_with fail
              go_roundw
              case rel => exact ⟨i + 1, by omega, rfl, HB3.out, HY0.out, HY4.out, HLT.out, HGT⟩
              case measure => simp [intOf]; omega
            | false =>
              have HN2 := Lib.hid (HR.out.trans (HNO.out rfl))
              clear HNO
              go_wp2_with fail
              go_ret
              exact ⟨by rw [HN2.out]; rfl, HB3.out⟩
          · obtain rfl : i = l.length := by omega
            rw [List.take_length] at HGL
            go_wp2_with fail
            go_ret
            exact ⟨by rw [HR.out, HGL.out]; rfl, hB⟩
      · go_wp2_with fail
        go_loopw [5] (fun iv wr => ∃ i : Nat, i ≤ l.length ∧ iv = .int .i64 i ∧ Below w.heap.size w wr ∧ wr.cell? ⟨w.heap.size, 0, none⟩ = some (.int .i64 k) ∧ wr.cell? ⟨w.heap.size, 4, none⟩ = some (.slice A l.length cap) ∧ w.heap.size < wr.heap.size ∧ Hid (goodL (l.take i) g8 = true))
          (fun iv _ => l.length - (intOf iv).toNat)
        case atStart =>
          refine ⟨0, Nat.zero_le _, rfl, HB1.out, ?_, ?_, by omega, Lib.hid (by rw [List.take_zero, goodL_all]; rfl)⟩
          · rw [hcell _ (by show w.heap.size < _; omega), World.cell?_alloc_mark]; rfl
          · rw [hcell _ (by show w.heap.size < _; omega), World.cell?_alloc_mark]; rfl
        case round =>
          obtain ⟨i, hi1, rfl, hB, y0, y4, hlt, HGL⟩ := hrel
          have hz := hB.size
          clear hcell
          by_cases hil : i < l.length
          · obtain ⟨b, o, F, C, hA, hb1, hb2, hx, hnode⟩ := (HN.out i hil).kept hB hhi
            subst hA
            obtain ⟨x0, x1, x2, x3, x4⟩ := hx
            have hmem : l[i] ∈ l := List.getElem_mem hil
            have hgt := goodL_take (p := g8) hil
            have hIH := IH.out l[i] hmem g8 lo hi F C
            have hno := fun hg => goodL_no (p := g8) hil hg
            obtain ⟨v, hv⟩ : ∃ v, goodB l[i] g8 = v := ⟨_, rfl⟩
            rw [hv, HGL.out, Bool.true_and] at hgt
            rw [hv] at hIH hno
            have HGT := Lib.hid hgt
            have HIH := Lib.hid hIH
            have HNO := Lib.hid hno
            clear hgt hIH hno hv
            have hi1' : (i : Int) < (l.length : Int) := by omega
            have hi0' : (0 : Int) ≤ (i : Int) := by omega
            have hBr := fun W' (hW : Below wr.heap.size wr W') => hW
            go_wp2_with fail
            go_region_held3 (fun w' => w'.cell? ⟨w.heap.size, 0, none⟩ = some (.int .i64 k) ∧ w'.cell? ⟨w.heap.size, 4, none⟩ = some (.slice (some ⟨b, o, none⟩) l.length cap) ∧
                w'.cell? ⟨b, o + i * 5, none⟩ = some (.int .i64 l[i].k) ∧ w'.cell? ⟨b, o + i * 5 + 1, none⟩ = some (.int .i64 l[i].a) ∧ w'.cell? ⟨b, o + i * 5 + 2, none⟩ = some (.string l[i].s) ∧ w'.cell? ⟨b, o + i * 5 + 3, none⟩ = some (.int .i64 l[i].n) ∧ w'.cell? ⟨b, o + i * 5 + 4, none⟩ = some (.slice F l[i].l.length C))
              (first | go_keep | (refine ⟨?_, ?_, ?_, ?_, ?_, ?_, ?_⟩ <;> ((rw [hb3.cell (by show _ < _; simp; omega)]; assumption))))
              (first | (go_at_call 26; refine (HIH.out _ (hnode.kept ((Below.refl _ _).drew) (by omega)) (by simp; omega)).mono ?_; rintro e w3 ⟨rfl, hb3⟩))
            have hB3 := hB.drew.trans (hb3.mono hz)
            have hc3 : ∀ q, w3.cell? ⟨w.heap.size, q, none⟩ = wr.cell? ⟨w.heap.size, q, none⟩ := fun q => hb3.cell (p := ⟨w.heap.size, q, none⟩) hlt
            have HY0 := Lib.hid ((hc3 0).trans y0)
            have HY4 := Lib.hid ((hc3 4).trans y4)
            have HLT := Lib.hid (Nat.lt_of_lt_of_le hlt hb3.size)
            have HB3 := Lib.hid hB3
            clear hc3 hB3 hb3
            cases v with
            | true =>
              go_wp2_with fail
              go_roundw
              case rel => exact ⟨i + 1, by omega, rfl, HB3.out, HY0.out, HY4.out, HLT.out, HGT⟩
              case measure => simp [intOf]; omega
            | false =>
              have HN2 := Lib.hid (HR.out.trans (HNO.out rfl))
              clear HNO
              go_wp2_with fail
              go_ret
              exact ⟨by rw [HN2.out]; rfl, HB3.out⟩
          · obtain rfl : i = l.length := by omega
            rw [List.take_length] at HGL
            go_wp2_with fail
            go_ret
            exact ⟨by rw [HR.out, HGL.out]; rfl, hB⟩

end Go.Proofs.YtmaomnpanfdjeaaDoor
