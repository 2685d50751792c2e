/- scholiumref07.good, scholiumref07.Shaped: the document's rule, for every term. -/
import Derived.Test.YtcbbaognomddkaaGreatDoorM2
import Derived.Test.YtcbbaognomddkaaGreatDoorM6
namespace Go.Proofs.YtcbbaognomddkaaGreatDoor
open Go.RowKit
set_option linter.unusedVariables false
set_option maxRecDepth 100000

/-- The document's switch, kind by kind. -/
def kindCase (k : Int) : Prop := k = 1 ∨ k = 2 ∨ k = 3 ∨ k = 4 ∨ k = 5 ∨ k = 6 ∨ k = 7 ∨ k = 8
theorem ttop_first {k n : Int} {l : List TM} (hk : kindCase k) (h3 : l.length = manyM k) (h4 : 0 ≤ n) (h5 : n ≤ mostM k) : ttopB k n l = (!decide (k = 7) || firstM l) := by
  have h1 : 1 ≤ k := by unfold kindCase at hk; omega
  have h2 : k ≤ 8 := by unfold kindCase at hk; omega
  unfold ttopB
  rw [decide_eq_true h1, decide_eq_true h2, decide_eq_true h3, decide_eq_true h4, decide_eq_true h5]
  simp

set_option maxHeartbeats 2000000 in
theorem good_k1 (n : Int) (l : List TM) (ih : ∀ t ∈ l, ∀ (lo hi : Nat) (A : Option Addr) (cap : Nat) (w : World), IsTerm w lo hi t A cap → hi ≤ w.heap.size →
      Calls Tryz.prog 51 #[termV t A cap] w fun e w' => e = .returned (.bool (tgoodB t)) ∧ Below w.heap.size w w')
    (lo hi : Nat) (A : Option Addr) (cap : Nat) (w : World) (h : IsTerm w lo hi (.node 1 n l) A cap) (hhi : hi ≤ w.heap.size) :
    Calls Tryz.prog 51 #[.agg #[.int .i64 1, .int .i64 n, .slice A l.length cap]] w fun e w' => e = .returned (.bool (tgoodB (.node 1 n l))) ∧ Below w.heap.size w w' := by
  obtain ⟨hl, hm⟩ := h.bounds
  have IH := Lib.hid ih
  have HN : Hid (TermsAt w lo hi A l) := Lib.hid (h.sub)
  unfold maxLen at hm
  clear ih h
  obtain ⟨r, hr⟩ : ∃ r, tgoodB (.node 1 n l) = r := ⟨_, rfl⟩
  rw [hr]
  have HG := Lib.hid hr
  clear hr
  have topF : ¬ (l.length = 0 ∧ 0 ≤ n ∧ n ≤ 1048576) → r = false := fun hx => by
    rw [← HG.out, tgoodB_node]
    cases e : ttopB 1 n l with
    | false => rfl
    | true =>
      obtain ⟨_, _, h3, h4, h5, _⟩ := ttop_facts e
      exact (hx ⟨h3, h4, h5⟩).elim
  have TOP := Lib.hid topF
  clear topF
  have HW1 := Lib.hid (fun o1 => (Below.refl w.heap.size w).alloc (Nat.le_refl _) o1)
  by_cases hlen : l.length = 0
  case neg =>
    have HR := Lib.hid (TOP.out (fun h => hlen h.1))
    have e0 : ((l.length : Int) != 0) = true := by rw [bne_iff_ne]; omega
    clear hlen HN IH
    go_enter Tryz.func51, Tryz.ntmps51
    go_wp2_with fail
    go_ret
    exact ⟨by rw [HR.out]; rfl, HW1.out _⟩
  have e0 : ((l.length : Int) != 0) = false := by rw [show (l.length : Int) = 0 by omega]; rfl
  by_cases hn0 : n < 0
  · have HR := Lib.hid (TOP.out (by omega))
    have e1 : decide (n < 0) = true := decide_eq_true hn0
    clear hlen hn0 HN IH
    go_enter Tryz.func51, Tryz.ntmps51
    go_wp2_with fail
    go_ret
    exact ⟨by rw [HR.out]; rfl, HW1.out _⟩
  have e1 : decide (n < 0) = false := decide_eq_false hn0
  by_cases hn1 : 1048576 < n
  · have HR := Lib.hid (TOP.out (by omega))
    have e2 : decide ((1048576 : Int) < n) = true := decide_eq_true hn1
    clear hlen hn0 hn1 HN IH
    go_enter Tryz.func51, Tryz.ntmps51
    go_wp2_with fail
    go_ret
    exact ⟨by rw [HR.out]; rfl, HW1.out _⟩
  have e2 : decide ((1048576 : Int) < n) = false := decide_eq_false hn1
  have HR : Hid (r = tgoodL l) := Lib.hid (by
    rw [← HG.out, tgoodB_node, ttop_first (by unfold kindCase; omega) hlen (by omega) (show n ≤ 1048576 by omega)]
    simp)
  have HLEN := Lib.hid hlen
  clear hlen hn0 hn1 TOP HG
  go_enter Tryz.func51, Tryz.ntmps51
  go_wp2_with fail
  go_loopw [5] (fun iv wr => ∃ i : Nat, i ≤ l.length ∧ iv = .int .i64 i ∧ Below w.heap.size w wr ∧ wr.cell? ⟨w.heap.size, 2, none⟩ = some (.slice A l.length cap) ∧ w.heap.size < wr.heap.size ∧ Hid (tgoodL (l.take i) = true))
    (fun iv _ => l.length - (intOf iv).toNat)
  case atStart => exact ⟨0, Nat.zero_le _, rfl, HW1.out _, by simp, by simp, Lib.hid (by rw [List.take_zero, tgoodL_all]; rfl)⟩
  case round =>
    obtain ⟨i, hi1, rfl, hB, y2, hlt, HGL⟩ := hrel
    obtain rfl : i = 0 := by have := HLEN.out; omega
    have HE := Lib.hid (show l = [] from List.eq_nil_of_length_eq_zero HLEN.out)
    go_wp2_with fail
    go_ret
    exact ⟨by rw [HR.out, HE.out, tgoodL_all]; rfl, hB⟩

set_option maxHeartbeats 2000000 in
theorem good_k2 (n : Int) (l : List TM) (ih : ∀ t ∈ l, ∀ (lo hi : Nat) (A : Option Addr) (cap : Nat) (w : World), IsTerm w lo hi t A cap → hi ≤ w.heap.size →
      Calls Tryz.prog 51 #[termV t A cap] w fun e w' => e = .returned (.bool (tgoodB t)) ∧ Below w.heap.size w w')
    (lo hi : Nat) (A : Option Addr) (cap : Nat) (w : World) (h : IsTerm w lo hi (.node 2 n l) A cap) (hhi : hi ≤ w.heap.size) :
    Calls Tryz.prog 51 #[.agg #[.int .i64 2, .int .i64 n, .slice A l.length cap]] w fun e w' => e = .returned (.bool (tgoodB (.node 2 n l))) ∧ Below w.heap.size w w' := by
  obtain ⟨hl, hm⟩ := h.bounds
  have IH := Lib.hid ih
  have HN : Hid (TermsAt w lo hi A l) := Lib.hid (h.sub)
  unfold maxLen at hm
  clear ih h
  obtain ⟨r, hr⟩ : ∃ r, tgoodB (.node 2 n l) = r := ⟨_, rfl⟩
  rw [hr]
  have HG := Lib.hid hr
  clear hr
  have topF : ¬ (l.length = 0 ∧ 0 ≤ n ∧ n ≤ 7) → r = false := fun hx => by
    rw [← HG.out, tgoodB_node]
    cases e : ttopB 2 n l with
    | false => rfl
    | true =>
      obtain ⟨_, _, h3, h4, h5, _⟩ := ttop_facts e
      exact (hx ⟨h3, h4, h5⟩).elim
  have TOP := Lib.hid topF
  clear topF
  have HW1 := Lib.hid (fun o1 => (Below.refl w.heap.size w).alloc (Nat.le_refl _) o1)
  by_cases hlen : l.length = 0
  case neg =>
    have HR := Lib.hid (TOP.out (fun h => hlen h.1))
    have e0 : ((l.length : Int) != 0) = true := by rw [bne_iff_ne]; omega
    clear hlen HN IH
    go_enter Tryz.func51, Tryz.ntmps51
    go_wp2_with fail
    go_ret
    exact ⟨by rw [HR.out]; rfl, HW1.out _⟩
  have e0 : ((l.length : Int) != 0) = false := by rw [show (l.length : Int) = 0 by omega]; rfl
  by_cases hn0 : n < 0
  · have HR := Lib.hid (TOP.out (by omega))
    have e1 : decide (n < 0) = true := decide_eq_true hn0
    clear hlen hn0 HN IH
    go_enter Tryz.func51, Tryz.ntmps51
    go_wp2_with fail
    go_ret
    exact ⟨by rw [HR.out]; rfl, HW1.out _⟩
  have e1 : decide (n < 0) = false := decide_eq_false hn0
  by_cases hn1 : 7 < n
  · have HR := Lib.hid (TOP.out (by omega))
    have e2 : decide ((7 : Int) < n) = true := decide_eq_true hn1
    clear hlen hn0 hn1 HN IH
    go_enter Tryz.func51, Tryz.ntmps51
    go_wp2_with fail
    go_ret
    exact ⟨by rw [HR.out]; rfl, HW1.out _⟩
  have e2 : decide ((7 : Int) < n) = false := decide_eq_false hn1
  have HR : Hid (r = tgoodL l) := Lib.hid (by
    rw [← HG.out, tgoodB_node, ttop_first (by unfold kindCase; omega) hlen (by omega) (show n ≤ 7 by omega)]
    simp)
  have HLEN := Lib.hid hlen
  clear hlen hn0 hn1 TOP HG
  go_enter Tryz.func51, Tryz.ntmps51
  go_wp2_with fail
  go_loopw [5] (fun iv wr => ∃ i : Nat, i ≤ l.length ∧ iv = .int .i64 i ∧ Below w.heap.size w wr ∧ wr.cell? ⟨w.heap.size, 2, none⟩ = some (.slice A l.length cap) ∧ w.heap.size < wr.heap.size ∧ Hid (tgoodL (l.take i) = true))
    (fun iv _ => l.length - (intOf iv).toNat)
  case atStart => exact ⟨0, Nat.zero_le _, rfl, HW1.out _, by simp, by simp, Lib.hid (by rw [List.take_zero, tgoodL_all]; rfl)⟩
  case round =>
    obtain ⟨i, hi1, rfl, hB, y2, hlt, HGL⟩ := hrel
    obtain rfl : i = 0 := by have := HLEN.out; omega
    have HE := Lib.hid (show l = [] from List.eq_nil_of_length_eq_zero HLEN.out)
    go_wp2_with fail
    go_ret
    exact ⟨by rw [HR.out, HE.out, tgoodL_all]; rfl, hB⟩

set_option maxHeartbeats 2000000 in
theorem good_k3 (n : Int) (l : List TM) (ih : ∀ t ∈ l, ∀ (lo hi : Nat) (A : Option Addr) (cap : Nat) (w : World), IsTerm w lo hi t A cap → hi ≤ w.heap.size →
      Calls Tryz.prog 51 #[termV t A cap] w fun e w' => e = .returned (.bool (tgoodB t)) ∧ Below w.heap.size w w')
    (lo hi : Nat) (A : Option Addr) (cap : Nat) (w : World) (h : IsTerm w lo hi (.node 3 n l) A cap) (hhi : hi ≤ w.heap.size) :
    Calls Tryz.prog 51 #[.agg #[.int .i64 3, .int .i64 n, .slice A l.length cap]] w fun e w' => e = .returned (.bool (tgoodB (.node 3 n l))) ∧ Below w.heap.size w w' := by
  obtain ⟨hl, hm⟩ := h.bounds
  have IH := Lib.hid ih
  have HN : Hid (TermsAt w lo hi A l) := Lib.hid (h.sub)
  unfold maxLen at hm
  clear ih h
  obtain ⟨r, hr⟩ : ∃ r, tgoodB (.node 3 n l) = r := ⟨_, rfl⟩
  rw [hr]
  have HG := Lib.hid hr
  clear hr
  have topF : ¬ (l.length = 2 ∧ 0 ≤ n ∧ n ≤ 0) → r = false := fun hx => by
    rw [← HG.out, tgoodB_node]
    cases e : ttopB 3 n l with
    | false => rfl
    | true =>
      obtain ⟨_, _, h3, h4, h5, _⟩ := ttop_facts e
      exact (hx ⟨h3, h4, h5⟩).elim
  have TOP := Lib.hid topF
  clear topF
  have HW1 := Lib.hid (fun o1 => (Below.refl w.heap.size w).alloc (Nat.le_refl _) o1)
  by_cases hlen : l.length = 2
  case neg =>
    have HR := Lib.hid (TOP.out (fun h => hlen h.1))
    have e0 : ((l.length : Int) != 2) = true := by rw [bne_iff_ne]; omega
    clear hlen HN IH
    go_enter Tryz.func51, Tryz.ntmps51
    go_wp2_with fail
    go_ret
    exact ⟨by rw [HR.out]; rfl, HW1.out _⟩
  have e0 : ((l.length : Int) != 2) = false := by rw [show (l.length : Int) = 2 by omega]; rfl
  by_cases hn0 : n < 0
  · have HR := Lib.hid (TOP.out (by omega))
    have e1 : decide (n < 0) = true := decide_eq_true hn0
    clear hlen hn0 HN IH
    go_enter Tryz.func51, Tryz.ntmps51
    go_wp2_with fail
    go_ret
    exact ⟨by rw [HR.out]; rfl, HW1.out _⟩
  have e1 : decide (n < 0) = false := decide_eq_false hn0
  by_cases hn1 : 0 < n
  · have HR := Lib.hid (TOP.out (by omega))
    have e2 : decide ((0 : Int) < n) = true := decide_eq_true hn1
    clear hlen hn0 hn1 HN IH
    go_enter Tryz.func51, Tryz.ntmps51
    go_wp2_with fail
    go_ret
    exact ⟨by rw [HR.out]; rfl, HW1.out _⟩
  have e2 : decide ((0 : Int) < n) = false := decide_eq_false hn1
  have HR : Hid (r = tgoodL l) := Lib.hid (by
    rw [← HG.out, tgoodB_node, ttop_first (by unfold kindCase; omega) hlen (by omega) (show n ≤ 0 by omega)]
    simp)
  have HLEN := Lib.hid hlen
  clear hlen hn0 hn1 TOP HG
  go_enter Tryz.func51, Tryz.ntmps51
  go_wp2_with fail
  go_loopw [5] (fun iv wr => ∃ i : Nat, i ≤ l.length ∧ iv = .int .i64 i ∧ Below w.heap.size w wr ∧ wr.cell? ⟨w.heap.size, 2, none⟩ = some (.slice A l.length cap) ∧ w.heap.size < wr.heap.size ∧ Hid (tgoodL (l.take i) = true))
    (fun iv _ => l.length - (intOf iv).toNat)
  case atStart => exact ⟨0, Nat.zero_le _, rfl, HW1.out _, by simp, by simp, Lib.hid (by rw [List.take_zero, tgoodL_all]; rfl)⟩
  case round =>
    obtain ⟨i, hi1, rfl, hB, y2, hlt, HGL⟩ := hrel
    have hz := hB.size
    by_cases hil : i < l.length
    · obtain ⟨b, o, F, C, hA, hb1, hb2, hx, hnode⟩ := (HN.out i hil).kept hB hhi
      subst hA
      obtain ⟨x0, x1, x2⟩ := hx
      have hIH := IH.out l[i] (List.getElem_mem hil) lo hi F C
      have hgt := tgoodL_take hil
      have hno := fun hg => tgoodL_no hil hg
      obtain ⟨v, hv⟩ : ∃ v, tgoodB l[i] = v := ⟨_, rfl⟩
      rw [hv, HGL.out, Bool.true_and] at hgt
      rw [hv] at hIH hno
      have HGT := Lib.hid hgt
      have HNO := Lib.hid hno
      have HC := Lib.hid hIH
      have hi2 : (i : Int) < 2 := by have := HLEN.out; omega
      have hi3 : i < 2 := by have := HLEN.out; omega
      have hi4 : (i : Int) < (l.length : Int) := by omega
      clear hgt hno hIH hv IH HN
      cases v with
      | true =>
        go_wp2_with fail
        refine (HC.out _ hnode (by omega)).mono ?_
        rintro e w2 ⟨rfl, hb2'⟩
        have hy2 := (hb2'.cell (p := ⟨w.heap.size, 2, none⟩) hlt).trans y2
        have HB2 := Lib.hid (hB.trans (hb2'.mono hz))
        have hlt2 := Nat.lt_of_lt_of_le hlt hb2'.size
        clear hb2'
        go_wp2_with fail
        go_roundw
        case rel => exact ⟨i + 1, by omega, rfl, HB2.out, hy2, hlt2, HGT⟩
        case measure => simp [intOf]; omega
      | false =>
        have HR2 := Lib.hid (HNO.out rfl)
        go_wp2_with fail
        refine (HC.out _ hnode (by omega)).mono ?_
        rintro e w2 ⟨rfl, hb2'⟩
        go_wp2_with fail
        go_ret
        exact ⟨by rw [HR.out, HR2.out]; rfl, hB.trans (hb2'.mono hz)⟩
    · obtain rfl : i = l.length := by omega
      have hi2 : ¬ (l.length : Int) < 2 := by have := HLEN.out; omega
      have hi3 : ¬ l.length < 2 := by have := HLEN.out; omega
      have HGL2 : Hid (tgoodL l = true) := Lib.hid (by have := HGL.out; rw [List.take_length] at this; exact this)
      clear HN IH HGL
      go_wp2_with fail
      go_ret
      exact ⟨by rw [HR.out, HGL2.out]; rfl, hB⟩

set_option maxHeartbeats 2000000 in
theorem good_k4 (n : Int) (l : List TM) (ih : ∀ t ∈ l, ∀ (lo hi : Nat) (A : Option Addr) (cap : Nat) (w : World), IsTerm w lo hi t A cap → hi ≤ w.heap.size →
      Calls Tryz.prog 51 #[termV t A cap] w fun e w' => e = .returned (.bool (tgoodB t)) ∧ Below w.heap.size w w')
    (lo hi : Nat) (A : Option Addr) (cap : Nat) (w : World) (h : IsTerm w lo hi (.node 4 n l) A cap) (hhi : hi ≤ w.heap.size) :
    Calls Tryz.prog 51 #[.agg #[.int .i64 4, .int .i64 n, .slice A l.length cap]] w fun e w' => e = .returned (.bool (tgoodB (.node 4 n l))) ∧ Below w.heap.size w w' := by
  obtain ⟨hl, hm⟩ := h.bounds
  have IH := Lib.hid ih
  have HN : Hid (TermsAt w lo hi A l) := Lib.hid (h.sub)
  unfold maxLen at hm
  clear ih h
  obtain ⟨r, hr⟩ : ∃ r, tgoodB (.node 4 n l) = r := ⟨_, rfl⟩
  rw [hr]
  have HG := Lib.hid hr
  clear hr
  have topF : ¬ (l.length = 2 ∧ 0 ≤ n ∧ n ≤ 0) → r = false := fun hx => by
    rw [← HG.out, tgoodB_node]
    cases e : ttopB 4 n l with
    | false => rfl
    | true =>
      obtain ⟨_, _, h3, h4, h5, _⟩ := ttop_facts e
      exact (hx ⟨h3, h4, h5⟩).elim
  have TOP := Lib.hid topF
  clear topF
  have HW1 := Lib.hid (fun o1 => (Below.refl w.heap.size w).alloc (Nat.le_refl _) o1)
  by_cases hlen : l.length = 2
  case neg =>
    have HR := Lib.hid (TOP.out (fun h => hlen h.1))
    have e0 : ((l.length : Int) != 2) = true := by rw [bne_iff_ne]; omega
    clear hlen HN IH
    go_enter Tryz.func51, Tryz.ntmps51
    go_wp2_with fail
    go_ret
    exact ⟨by rw [HR.out]; rfl, HW1.out _⟩
  have e0 : ((l.length : Int) != 2) = false := by rw [show (l.length : Int) = 2 by omega]; rfl
  by_cases hn0 : n < 0
  · have HR := Lib.hid (TOP.out (by omega))
    have e1 : decide (n < 0) = true := decide_eq_true hn0
    clear hlen hn0 HN IH
    go_enter Tryz.func51, Tryz.ntmps51
    go_wp2_with fail
    go_ret
    exact ⟨by rw [HR.out]; rfl, HW1.out _⟩
  have e1 : decide (n < 0) = false := decide_eq_false hn0
  by_cases hn1 : 0 < n
  · have HR := Lib.hid (TOP.out (by omega))
    have e2 : decide ((0 : Int) < n) = true := decide_eq_true hn1
    clear hlen hn0 hn1 HN IH
    go_enter Tryz.func51, Tryz.ntmps51
    go_wp2_with fail
    go_ret
    exact ⟨by rw [HR.out]; rfl, HW1.out _⟩
  have e2 : decide ((0 : Int) < n) = false := decide_eq_false hn1
  have HR : Hid (r = tgoodL l) := Lib.hid (by
    rw [← HG.out, tgoodB_node, ttop_first (by unfold kindCase; omega) hlen (by omega) (show n ≤ 0 by omega)]
    simp)
  have HLEN := Lib.hid hlen
  clear hlen hn0 hn1 TOP HG
  go_enter Tryz.func51, Tryz.ntmps51
  go_wp2_with fail
  go_loopw [5] (fun iv wr => ∃ i : Nat, i ≤ l.length ∧ iv = .int .i64 i ∧ Below w.heap.size w wr ∧ wr.cell? ⟨w.heap.size, 2, none⟩ = some (.slice A l.length cap) ∧ w.heap.size < wr.heap.size ∧ Hid (tgoodL (l.take i) = true))
    (fun iv _ => l.length - (intOf iv).toNat)
  case atStart => exact ⟨0, Nat.zero_le _, rfl, HW1.out _, by simp, by simp, Lib.hid (by rw [List.take_zero, tgoodL_all]; rfl)⟩
  case round =>
    obtain ⟨i, hi1, rfl, hB, y2, hlt, HGL⟩ := hrel
    have hz := hB.size
    by_cases hil : i < l.length
    · obtain ⟨b, o, F, C, hA, hb1, hb2, hx, hnode⟩ := (HN.out i hil).kept hB hhi
      subst hA
      obtain ⟨x0, x1, x2⟩ := hx
      have hIH := IH.out l[i] (List.getElem_mem hil) lo hi F C
      have hgt := tgoodL_take hil
      have hno := fun hg => tgoodL_no hil hg
      obtain ⟨v, hv⟩ : ∃ v, tgoodB l[i] = v := ⟨_, rfl⟩
      rw [hv, HGL.out, Bool.true_and] at hgt
      rw [hv] at hIH hno
      have HGT := Lib.hid hgt
      have HNO := Lib.hid hno
      have HC := Lib.hid hIH
      have hi2 : (i : Int) < 2 := by have := HLEN.out; omega
      have hi3 : i < 2 := by have := HLEN.out; omega
      have hi4 : (i : Int) < (l.length : Int) := by omega
      clear hgt hno hIH hv IH HN
      cases v with
      | true =>
        go_wp2_with fail
        refine (HC.out _ hnode (by omega)).mono ?_
        rintro e w2 ⟨rfl, hb2'⟩
        have hy2 := (hb2'.cell (p := ⟨w.heap.size, 2, none⟩) hlt).trans y2
        have HB2 := Lib.hid (hB.trans (hb2'.mono hz))
        have hlt2 := Nat.lt_of_lt_of_le hlt hb2'.size
        clear hb2'
        go_wp2_with fail
        go_roundw
        case rel => exact ⟨i + 1, by omega, rfl, HB2.out, hy2, hlt2, HGT⟩
        case measure => simp [intOf]; omega
      | false =>
        have HR2 := Lib.hid (HNO.out rfl)
        go_wp2_with fail
        refine (HC.out _ hnode (by omega)).mono ?_
        rintro e w2 ⟨rfl, hb2'⟩
        go_wp2_with fail
        go_ret
        exact ⟨by rw [HR.out, HR2.out]; rfl, hB.trans (hb2'.mono hz)⟩
    · obtain rfl : i = l.length := by omega
      have hi2 : ¬ (l.length : Int) < 2 := by have := HLEN.out; omega
      have hi3 : ¬ l.length < 2 := by have := HLEN.out; omega
      have HGL2 : Hid (tgoodL l = true) := Lib.hid (by have := HGL.out; rw [List.take_length] at this; exact this)
      clear HN IH HGL
      go_wp2_with fail
      go_ret
      exact ⟨by rw [HR.out, HGL2.out]; rfl, hB⟩

set_option maxHeartbeats 2000000 in
theorem good_k5 (n : Int) (l : List TM) (ih : ∀ t ∈ l, ∀ (lo hi : Nat) (A : Option Addr) (cap : Nat) (w : World), IsTerm w lo hi t A cap → hi ≤ w.heap.size →
      Calls Tryz.prog 51 #[termV t A cap] w fun e w' => e = .returned (.bool (tgoodB t)) ∧ Below w.heap.size w w')
    (lo hi : Nat) (A : Option Addr) (cap : Nat) (w : World) (h : IsTerm w lo hi (.node 5 n l) A cap) (hhi : hi ≤ w.heap.size) :
    Calls Tryz.prog 51 #[.agg #[.int .i64 5, .int .i64 n, .slice A l.length cap]] w fun e w' => e = .returned (.bool (tgoodB (.node 5 n l))) ∧ Below w.heap.size w w' := by
  obtain ⟨hl, hm⟩ := h.bounds
  have IH := Lib.hid ih
  have HN : Hid (TermsAt w lo hi A l) := Lib.hid (h.sub)
  unfold maxLen at hm
  clear ih h
  obtain ⟨r, hr⟩ : ∃ r, tgoodB (.node 5 n l) = r := ⟨_, rfl⟩
  rw [hr]
  have HG := Lib.hid hr
  clear hr
  have topF : ¬ (l.length = 2 ∧ 0 ≤ n ∧ n ≤ 0) → r = false := fun hx => by
    rw [← HG.out, tgoodB_node]
    cases e : ttopB 5 n l with
    | false => rfl
    | true =>
      obtain ⟨_, _, h3, h4, h5, _⟩ := ttop_facts e
      exact (hx ⟨h3, h4, h5⟩).elim
  have TOP := Lib.hid topF
  clear topF
  have HW1 := Lib.hid (fun o1 => (Below.refl w.heap.size w).alloc (Nat.le_refl _) o1)
  by_cases hlen : l.length = 2
  case neg =>
    have HR := Lib.hid (TOP.out (fun h => hlen h.1))
    have e0 : ((l.length : Int) != 2) = true := by rw [bne_iff_ne]; omega
    clear hlen HN IH
    go_enter Tryz.func51, Tryz.ntmps51
    go_wp2_with fail
    go_ret
    exact ⟨by rw [HR.out]; rfl, HW1.out _⟩
  have e0 : ((l.length : Int) != 2) = false := by rw [show (l.length : Int) = 2 by omega]; rfl
  by_cases hn0 : n < 0
  · have HR := Lib.hid (TOP.out (by omega))
    have e1 : decide (n < 0) = true := decide_eq_true hn0
    clear hlen hn0 HN IH
    go_enter Tryz.func51, Tryz.ntmps51
    go_wp2_with fail
    go_ret
    exact ⟨by rw [HR.out]; rfl, HW1.out _⟩
  have e1 : decide (n < 0) = false := decide_eq_false hn0
  by_cases hn1 : 0 < n
  · have HR := Lib.hid (TOP.out (by omega))
    have e2 : decide ((0 : Int) < n) = true := decide_eq_true hn1
    clear hlen hn0 hn1 HN IH
    go_enter Tryz.func51, Tryz.ntmps51
    go_wp2_with fail
    go_ret
    exact ⟨by rw [HR.out]; rfl, HW1.out _⟩
  have e2 : decide ((0 : Int) < n) = false := decide_eq_false hn1
  have HR : Hid (r = tgoodL l) := Lib.hid (by
    rw [← HG.out, tgoodB_node, ttop_first (by unfold kindCase; omega) hlen (by omega) (show n ≤ 0 by omega)]
    simp)
  have HLEN := Lib.hid hlen
  clear hlen hn0 hn1 TOP HG
  go_enter Tryz.func51, Tryz.ntmps51
  go_wp2_with fail
  go_loopw [5] (fun iv wr => ∃ i : Nat, i ≤ l.length ∧ iv = .int .i64 i ∧ Below w.heap.size w wr ∧ wr.cell? ⟨w.heap.size, 2, none⟩ = some (.slice A l.length cap) ∧ w.heap.size < wr.heap.size ∧ Hid (tgoodL (l.take i) = true))
    (fun iv _ => l.length - (intOf iv).toNat)
  case atStart => exact ⟨0, Nat.zero_le _, rfl, HW1.out _, by simp, by simp, Lib.hid (by rw [List.take_zero, tgoodL_all]; rfl)⟩
  case round =>
    obtain ⟨i, hi1, rfl, hB, y2, hlt, HGL⟩ := hrel
    have hz := hB.size
    by_cases hil : i < l.length
    · obtain ⟨b, o, F, C, hA, hb1, hb2, hx, hnode⟩ := (HN.out i hil).kept hB hhi
      subst hA
      obtain ⟨x0, x1, x2⟩ := hx
      have hIH := IH.out l[i] (List.getElem_mem hil) lo hi F C
      have hgt := tgoodL_take hil
      have hno := fun hg => tgoodL_no hil hg
      obtain ⟨v, hv⟩ : ∃ v, tgoodB l[i] = v := ⟨_, rfl⟩
      rw [hv, HGL.out, Bool.true_and] at hgt
      rw [hv] at hIH hno
      have HGT := Lib.hid hgt
      have HNO := Lib.hid hno
      have HC := Lib.hid hIH
      have hi2 : (i : Int) < 2 := by have := HLEN.out; omega
      have hi3 : i < 2 := by have := HLEN.out; omega
      have hi4 : (i : Int) < (l.length : Int) := by omega
      clear hgt hno hIH hv IH HN
      cases v with
      | true =>
        go_wp2_with fail
        refine (HC.out _ hnode (by omega)).mono ?_
        rintro e w2 ⟨rfl, hb2'⟩
        have hy2 := (hb2'.cell (p := ⟨w.heap.size, 2, none⟩) hlt).trans y2
        have HB2 := Lib.hid (hB.trans (hb2'.mono hz))
        have hlt2 := Nat.lt_of_lt_of_le hlt hb2'.size
        clear hb2'
        go_wp2_with fail
        go_roundw
        case rel => exact ⟨i + 1, by omega, rfl, HB2.out, hy2, hlt2, HGT⟩
        case measure => simp [intOf]; omega
      | false =>
        have HR2 := Lib.hid (HNO.out rfl)
        go_wp2_with fail
        refine (HC.out _ hnode (by omega)).mono ?_
        rintro e w2 ⟨rfl, hb2'⟩
        go_wp2_with fail
        go_ret
        exact ⟨by rw [HR.out, HR2.out]; rfl, hB.trans (hb2'.mono hz)⟩
    · obtain rfl : i = l.length := by omega
      have hi2 : ¬ (l.length : Int) < 2 := by have := HLEN.out; omega
      have hi3 : ¬ l.length < 2 := by have := HLEN.out; omega
      have HGL2 : Hid (tgoodL l = true) := Lib.hid (by have := HGL.out; rw [List.take_length] at this; exact this)
      clear HN IH HGL
      go_wp2_with fail
      go_ret
      exact ⟨by rw [HR.out, HGL2.out]; rfl, hB⟩

set_option maxHeartbeats 2000000 in
theorem good_k6 (n : Int) (l : List TM) (ih : ∀ t ∈ l, ∀ (lo hi : Nat) (A : Option Addr) (cap : Nat) (w : World), IsTerm w lo hi t A cap → hi ≤ w.heap.size →
      Calls Tryz.prog 51 #[termV t A cap] w fun e w' => e = .returned (.bool (tgoodB t)) ∧ Below w.heap.size w w')
    (lo hi : Nat) (A : Option Addr) (cap : Nat) (w : World) (h : IsTerm w lo hi (.node 6 n l) A cap) (hhi : hi ≤ w.heap.size) :
    Calls Tryz.prog 51 #[.agg #[.int .i64 6, .int .i64 n, .slice A l.length cap]] w fun e w' => e = .returned (.bool (tgoodB (.node 6 n l))) ∧ Below w.heap.size w w' := by
  obtain ⟨hl, hm⟩ := h.bounds
  have IH := Lib.hid ih
  have HN : Hid (TermsAt w lo hi A l) := Lib.hid (h.sub)
  unfold maxLen at hm
  clear ih h
  obtain ⟨r, hr⟩ : ∃ r, tgoodB (.node 6 n l) = r := ⟨_, rfl⟩
  rw [hr]
  have HG := Lib.hid hr
  clear hr
  have topF : ¬ (l.length = 0 ∧ 0 ≤ n ∧ n ≤ 1048576) → r = false := fun hx => by
    rw [← HG.out, tgoodB_node]
    cases e : ttopB 6 n l with
    | false => rfl
    | true =>
      obtain ⟨_, _, h3, h4, h5, _⟩ := ttop_facts e
      exact (hx ⟨h3, h4, h5⟩).elim
  have TOP := Lib.hid topF
  clear topF
  have HW1 := Lib.hid (fun o1 => (Below.refl w.heap.size w).alloc (Nat.le_refl _) o1)
  by_cases hlen : l.length = 0
  case neg =>
    have HR := Lib.hid (TOP.out (fun h => hlen h.1))
    have e0 : ((l.length : Int) != 0) = true := by rw [bne_iff_ne]; omega
    clear hlen HN IH
    go_enter Tryz.func51, Tryz.ntmps51
    go_wp2_with fail
    go_ret
    exact ⟨by rw [HR.out]; rfl, HW1.out _⟩
  have e0 : ((l.length : Int) != 0) = false := by rw [show (l.length : Int) = 0 by omega]; rfl
  by_cases hn0 : n < 0
  · have HR := Lib.hid (TOP.out (by omega))
    have e1 : decide (n < 0) = true := decide_eq_true hn0
    clear hlen hn0 HN IH
    go_enter Tryz.func51, Tryz.ntmps51
    go_wp2_with fail
    go_ret
    exact ⟨by rw [HR.out]; rfl, HW1.out _⟩
  have e1 : decide (n < 0) = false := decide_eq_false hn0
  by_cases hn1 : 1048576 < n
  · have HR := Lib.hid (TOP.out (by omega))
    have e2 : decide ((1048576 : Int) < n) = true := decide_eq_true hn1
    clear hlen hn0 hn1 HN IH
    go_enter Tryz.func51, Tryz.ntmps51
    go_wp2_with fail
    go_ret
    exact ⟨by rw [HR.out]; rfl, HW1.out _⟩
  have e2 : decide ((1048576 : Int) < n) = false := decide_eq_false hn1
  have HR : Hid (r = tgoodL l) := Lib.hid (by
    rw [← HG.out, tgoodB_node, ttop_first (by unfold kindCase; omega) hlen (by omega) (show n ≤ 1048576 by omega)]
    simp)
  have HLEN := Lib.hid hlen
  clear hlen hn0 hn1 TOP HG
  go_enter Tryz.func51, Tryz.ntmps51
  go_wp2_with fail
  go_loopw [5] (fun iv wr => ∃ i : Nat, i ≤ l.length ∧ iv = .int .i64 i ∧ Below w.heap.size w wr ∧ wr.cell? ⟨w.heap.size, 2, none⟩ = some (.slice A l.length cap) ∧ w.heap.size < wr.heap.size ∧ Hid (tgoodL (l.take i) = true))
    (fun iv _ => l.length - (intOf iv).toNat)
  case atStart => exact ⟨0, Nat.zero_le _, rfl, HW1.out _, by simp, by simp, Lib.hid (by rw [List.take_zero, tgoodL_all]; rfl)⟩
  case round =>
    obtain ⟨i, hi1, rfl, hB, y2, hlt, HGL⟩ := hrel
    obtain rfl : i = 0 := by have := HLEN.out; omega
    have HE := Lib.hid (show l = [] from List.eq_nil_of_length_eq_zero HLEN.out)
    go_wp2_with fail
    go_ret
    exact ⟨by rw [HR.out, HE.out, tgoodL_all]; rfl, hB⟩

set_option maxHeartbeats 2000000 in
theorem good_k8 (n : Int) (l : List TM) (ih : ∀ t ∈ l, ∀ (lo hi : Nat) (A : Option Addr) (cap : Nat) (w : World), IsTerm w lo hi t A cap → hi ≤ w.heap.size →
      Calls Tryz.prog 51 #[termV t A cap] w fun e w' => e = .returned (.bool (tgoodB t)) ∧ Below w.heap.size w w')
    (lo hi : Nat) (A : Option Addr) (cap : Nat) (w : World) (h : IsTerm w lo hi (.node 8 n l) A cap) (hhi : hi ≤ w.heap.size) :
    Calls Tryz.prog 51 #[.agg #[.int .i64 8, .int .i64 n, .slice A l.length cap]] w fun e w' => e = .returned (.bool (tgoodB (.node 8 n l))) ∧ Below w.heap.size w w' := by
  obtain ⟨hl, hm⟩ := h.bounds
  have IH := Lib.hid ih
  have HN : Hid (TermsAt w lo hi A l) := Lib.hid (h.sub)
  unfold maxLen at hm
  clear ih h
  obtain ⟨r, hr⟩ : ∃ r, tgoodB (.node 8 n l) = r := ⟨_, rfl⟩
  rw [hr]
  have HG := Lib.hid hr
  clear hr
  have topF : ¬ (l.length = 0 ∧ 0 ≤ n ∧ n ≤ 1048576) → r = false := fun hx => by
    rw [← HG.out, tgoodB_node]
    cases e : ttopB 8 n l with
    | false => rfl
    | true =>
      obtain ⟨_, _, h3, h4, h5, _⟩ := ttop_facts e
      exact (hx ⟨h3, h4, h5⟩).elim
  have TOP := Lib.hid topF
  clear topF
  have HW1 := Lib.hid (fun o1 => (Below.refl w.heap.size w).alloc (Nat.le_refl _) o1)
  by_cases hlen : l.length = 0
  case neg =>
    have HR := Lib.hid (TOP.out (fun h => hlen h.1))
    have e0 : ((l.length : Int) != 0) = true := by rw [bne_iff_ne]; omega
    clear hlen HN IH
    go_enter Tryz.func51, Tryz.ntmps51
    go_wp2_with fail
    go_ret
    exact ⟨by rw [HR.out]; rfl, HW1.out _⟩
  have e0 : ((l.length : Int) != 0) = false := by rw [show (l.length : Int) = 0 by omega]; rfl
  by_cases hn0 : n < 0
  · have HR := Lib.hid (TOP.out (by omega))
    have e1 : decide (n < 0) = true := decide_eq_true hn0
    clear hlen hn0 HN IH
    go_enter Tryz.func51, Tryz.ntmps51
    go_wp2_with fail
    go_ret
    exact ⟨by rw [HR.out]; rfl, HW1.out _⟩
  have e1 : decide (n < 0) = false := decide_eq_false hn0
  by_cases hn1 : 1048576 < n
  · have HR := Lib.hid (TOP.out (by omega))
    have e2 : decide ((1048576 : Int) < n) = true := decide_eq_true hn1
    clear hlen hn0 hn1 HN IH
    go_enter Tryz.func51, Tryz.ntmps51
    go_wp2_with fail
    go_ret
    exact ⟨by rw [HR.out]; rfl, HW1.out _⟩
  have e2 : decide ((1048576 : Int) < n) = false := decide_eq_false hn1
  have HR : Hid (r = tgoodL l) := Lib.hid (by
    rw [← HG.out, tgoodB_node, ttop_first (by unfold kindCase; omega) hlen (by omega) (show n ≤ 1048576 by omega)]
    simp)
  have HLEN := Lib.hid hlen
  clear hlen hn0 hn1 TOP HG
  go_enter Tryz.func51, Tryz.ntmps51
  go_wp2_with fail
  go_loopw [5] (fun iv wr => ∃ i : Nat, i ≤ l.length ∧ iv = .int .i64 i ∧ Below w.heap.size w wr ∧ wr.cell? ⟨w.heap.size, 2, none⟩ = some (.slice A l.length cap) ∧ w.heap.size < wr.heap.size ∧ Hid (tgoodL (l.take i) = true))
    (fun iv _ => l.length - (intOf iv).toNat)
  case atStart => exact ⟨0, Nat.zero_le _, rfl, HW1.out _, by simp, by simp, Lib.hid (by rw [List.take_zero, tgoodL_all]; rfl)⟩
  case round =>
    obtain ⟨i, hi1, rfl, hB, y2, hlt, HGL⟩ := hrel
    obtain rfl : i = 0 := by have := HLEN.out; omega
    have HE := Lib.hid (show l = [] from List.eq_nil_of_length_eq_zero HLEN.out)
    go_wp2_with fail
    go_ret
    exact ⟨by rw [HR.out, HE.out, tgoodL_all]; rfl, hB⟩

set_option maxHeartbeats 2000000 in
theorem good_k7 (n : Int) (l : List TM) (ih : ∀ t ∈ l, ∀ (lo hi : Nat) (A : Option Addr) (cap : Nat) (w : World), IsTerm w lo hi t A cap → hi ≤ w.heap.size →
      Calls Tryz.prog 51 #[termV t A cap] w fun e w' => e = .returned (.bool (tgoodB t)) ∧ Below w.heap.size w w')
    (lo hi : Nat) (A : Option Addr) (cap : Nat) (w : World) (h : IsTerm w lo hi (.node 7 n l) A cap) (hhi : hi ≤ w.heap.size) :
    Calls Tryz.prog 51 #[.agg #[.int .i64 7, .int .i64 n, .slice A l.length cap]] w fun e w' => e = .returned (.bool (tgoodB (.node 7 n l))) ∧ Below w.heap.size w w' := by
  obtain ⟨hl, hm⟩ := h.bounds
  have IH := Lib.hid ih
  have HN : Hid (TermsAt w lo hi A l) := Lib.hid (h.sub)
  unfold maxLen at hm
  clear ih h
  obtain ⟨r, hr⟩ : ∃ r, tgoodB (.node 7 n l) = r := ⟨_, rfl⟩
  rw [hr]
  have HG := Lib.hid hr
  clear hr
  have topF : ¬ (l.length = 1 ∧ 0 ≤ n ∧ n ≤ 1048576) → r = false := fun hx => by
    rw [← HG.out, tgoodB_node]
    cases e : ttopB 7 n l with
    | false => rfl
    | true =>
      obtain ⟨_, _, h3, h4, h5, _⟩ := ttop_facts e
      exact (hx ⟨h3, h4, h5⟩).elim
  have TOP := Lib.hid topF
  clear topF
  have HW1 := Lib.hid (fun o1 => (Below.refl w.heap.size w).alloc (Nat.le_refl _) o1)
  by_cases hlen : l.length = 1
  case neg =>
    have HR := Lib.hid (TOP.out (fun h => hlen h.1))
    have e0 : ((l.length : Int) != 1) = true := by rw [bne_iff_ne]; omega
    clear hlen HN IH
    go_enter Tryz.func51, Tryz.ntmps51
    go_wp2_with fail
    go_ret
    exact ⟨by rw [HR.out]; rfl, HW1.out _⟩
  have e0 : ((l.length : Int) != 1) = false := by rw [show (l.length : Int) = 1 by omega]; rfl
  by_cases hn0 : n < 0
  · have HR := Lib.hid (TOP.out (by omega))
    have e1 : decide (n < 0) = true := decide_eq_true hn0
    clear hlen hn0 HN IH
    go_enter Tryz.func51, Tryz.ntmps51
    go_wp2_with fail
    go_ret
    exact ⟨by rw [HR.out]; rfl, HW1.out _⟩
  have e1 : decide (n < 0) = false := decide_eq_false hn0
  by_cases hn1 : 1048576 < n
  · have HR := Lib.hid (TOP.out (by omega))
    have e2 : decide ((1048576 : Int) < n) = true := decide_eq_true hn1
    clear hlen hn0 hn1 HN IH
    go_enter Tryz.func51, Tryz.ntmps51
    go_wp2_with fail
    go_ret
    exact ⟨by rw [HR.out]; rfl, HW1.out _⟩
  have e2 : decide ((1048576 : Int) < n) = false := decide_eq_false hn1
  have HLEN := Lib.hid hlen
  have hl0 : 0 < l.length := by omega
  have hl0' : (0 : Int) < (l.length : Int) := by omega
  obtain ⟨b0, o0, F0, C0, hA0, hb01, hb02, hx0, hnode0⟩ := HN.out 0 hl0
  obtain ⟨y0, y1, y3⟩ := hx0
  rw [Nat.zero_mul, Nat.add_zero] at y0 y1 y3
  subst hA0
  have hb03 : b0 < w.heap.size := by omega
  have HTOP : Hid (ttopB 7 n l = decide (l[0].k = 2)) := Lib.hid (by
    rw [ttop_first (by unfold kindCase; omega) (show l.length = 1 from HLEN.out) (by omega) (show n ≤ 1048576 by omega)]
    obtain ⟨u, rfl⟩ : ∃ u, l = [u] := List.length_eq_one_iff.1 HLEN.out
    rfl)
  by_cases hk2 : l[0].k = 2
  case neg =>
    have HR : Hid (r = false) := Lib.hid (by rw [← HG.out, tgoodB_node, HTOP.out, decide_eq_false hk2]; rfl)
    have e3 : (l[0].k != 2) = true := by simpa using hk2
    clear hlen hn0 hn1 TOP HG hk2
    go_enter Tryz.func51, Tryz.ntmps51
    go_wp2_with fail
    go_ret
    exact ⟨by rw [HR.out]; rfl, HW1.out _⟩
  have e3 : (l[0].k != 2) = false := by simpa using hk2
  have HR : Hid (r = tgoodL l) := Lib.hid (by rw [← HG.out, tgoodB_node, HTOP.out, decide_eq_true hk2]; rfl)
  clear hlen hn0 hn1 TOP HG hk2 HTOP
  go_enter Tryz.func51, Tryz.ntmps51
  go_wp2_with fail
  go_loopw [5] (fun iv wr => ∃ i : Nat, i ≤ l.length ∧ iv = .int .i64 i ∧ Below w.heap.size w wr ∧ wr.cell? ⟨w.heap.size, 2, none⟩ = some (.slice (some ⟨b0, o0, none⟩) l.length cap) ∧ w.heap.size < wr.heap.size ∧ Hid (tgoodL (l.take i) = true))
    (fun iv _ => l.length - (intOf iv).toNat)
  case atStart => exact ⟨0, Nat.zero_le _, rfl, HW1.out _, by simp, by simp, Lib.hid (by rw [List.take_zero, tgoodL_all]; rfl)⟩
  case round =>
    obtain ⟨i, hi1, rfl, hB, y2, hlt, HGL⟩ := hrel
    have hz := hB.size
    by_cases hil : i < l.length
    · obtain ⟨b, o, F, C, hA, hb1, hb2, hx, hnode⟩ := (HN.out i hil).kept hB hhi
      injection hA with hA
      injection hA with hA hA'
      subst hA hA'
      obtain ⟨x0, x1, x2⟩ := hx
      have hIH := IH.out l[i] (List.getElem_mem hil) lo hi F C
      have hgt := tgoodL_take hil
      have hno := fun hg => tgoodL_no hil hg
      obtain ⟨v, hv⟩ : ∃ v, tgoodB l[i] = v := ⟨_, rfl⟩
      rw [hv, HGL.out, Bool.true_and] at hgt
      rw [hv] at hIH hno
      have HGT := Lib.hid hgt
      have HNO := Lib.hid hno
      have HC := Lib.hid hIH
      have hi2 : (i : Int) < 1 := by have := HLEN.out; omega
      have hi3 : i < 1 := by have := HLEN.out; omega
      have hi4 : (i : Int) < (l.length : Int) := by omega
      clear hgt hno hIH hv IH HN
      cases v with
      | true =>
        go_wp2_with fail
        refine (HC.out _ hnode (by omega)).mono ?_
        rintro e w2 ⟨rfl, hb2'⟩
        have hy2 := (hb2'.cell (p := ⟨w.heap.size, 2, none⟩) hlt).trans y2
        have HB2 := Lib.hid (hB.trans (hb2'.mono hz))
        have hlt2 := Nat.lt_of_lt_of_le hlt hb2'.size
        clear hb2'
        go_wp2_with fail
        go_roundw
        case rel => exact ⟨i + 1, by omega, rfl, HB2.out, hy2, hlt2, HGT⟩
        case measure => simp [intOf]; omega
      | false =>
        have HR2 := Lib.hid (HNO.out rfl)
        go_wp2_with fail
        refine (HC.out _ hnode (by omega)).mono ?_
        rintro e w2 ⟨rfl, hb2'⟩
        go_wp2_with fail
        go_ret
        exact ⟨by rw [HR.out, HR2.out]; rfl, hB.trans (hb2'.mono hz)⟩
    · obtain rfl : i = l.length := by omega
      have hi2 : ¬ (l.length : Int) < 1 := by have := HLEN.out; omega
      have hi3 : ¬ l.length < 1 := by have := HLEN.out; omega
      have HGL2 : Hid (tgoodL l = true) := Lib.hid (by have := HGL.out; rw [List.take_length] at this; exact this)
      clear HN IH HGL
      go_wp2_with fail
      go_ret
      exact ⟨by rw [HR.out, HGL2.out]; rfl, hB⟩

set_option maxHeartbeats 2000000 in
theorem good_no (k n : Int) (l : List TM) (lo hi : Nat) (A : Option Addr) (cap : Nat) (w : World) (h : IsTerm w lo hi (.node k n l) A cap) (hhi : hi ≤ w.heap.size) (hk : ¬ kindCase k) :
    Calls Tryz.prog 51 #[.agg #[.int .i64 k, .int .i64 n, .slice A l.length cap]] w fun e w' => e = .returned (.bool (tgoodB (.node k n l))) ∧ Below w.heap.size w w' := by
  have HR : Hid (tgoodB (.node k n l) = false) := Lib.hid (by
    rw [tgoodB_node]
    cases e : ttopB k n l with
    | false => rfl
    | true =>
      obtain ⟨h1, h2, _⟩ := ttop_facts e
      exact (hk (by unfold kindCase; omega)).elim)
  unfold kindCase at hk
  have e1 : (k == 1) = false := by rw [beq_eq_false_iff_ne]; omega
  have e2 : (k == 2) = false := by rw [beq_eq_false_iff_ne]; omega
  have e3 : (k == 3) = false := by rw [beq_eq_false_iff_ne]; omega
  have e4 : (k == 4) = false := by rw [beq_eq_false_iff_ne]; omega
  have e5 : (k == 5) = false := by rw [beq_eq_false_iff_ne]; omega
  have e6 : (k == 6) = false := by rw [beq_eq_false_iff_ne]; omega
  have e7 : (k == 7) = false := by rw [beq_eq_false_iff_ne]; omega
  have e8 : (k == 8) = false := by rw [beq_eq_false_iff_ne]; omega
  clear h hk
  go_enter Tryz.func51, Tryz.ntmps51
  go_wp2_with fail
  go_ret
  exact ⟨by rw [HR.out]; rfl, (Below.refl _ _).alloc (Nat.le_refl _) _⟩

theorem tgood_any : ∀ (t : TM) (lo hi : Nat) (A : Option Addr) (cap : Nat) (w : World), IsTerm w lo hi t A cap → hi ≤ w.heap.size →
    Calls Tryz.prog 51 #[termV t A cap] w fun e w' => e = .returned (.bool (tgoodB t)) ∧ Below w.heap.size w w' := by
  intro t
  induction t using TM.ind with
  | h k n l ih =>
    intro lo hi A cap w h hhi
    rw [termV_node]
    by_cases hk : kindCase k
    · rcases hk with rfl | rfl | rfl | rfl | rfl | rfl | rfl | rfl
      · exact good_k1 n l ih lo hi A cap w h hhi
      · exact good_k2 n l ih lo hi A cap w h hhi
      · exact good_k3 n l ih lo hi A cap w h hhi
      · exact good_k4 n l ih lo hi A cap w h hhi
      · exact good_k5 n l ih lo hi A cap w h hhi
      · exact good_k6 n l ih lo hi A cap w h hhi
      · exact good_k7 n l ih lo hi A cap w h hhi
      · exact good_k8 n l ih lo hi A cap w h hhi
    · exact good_no k n l lo hi A cap w h hhi hk

theorem refShaped_any (t : TM) (lo hi : Nat) (A : Option Addr) (cap : Nat) (w : World) (h : IsTerm w lo hi t A cap) (hhi : hi ≤ w.heap.size) :
    Calls Tryz.prog 29 #[termV t A cap] w fun e w' => e = .returned (.bool (shapedB t)) ∧ Below w.heap.size w w' := by
  have HF := Lib.hid (refTDepth_any t lo hi A cap)
  have HG := Lib.hid (tgood_any t lo hi A cap)
  unfold shapedB tfitB
  obtain ⟨r, hr⟩ : ∃ r, tgoodB t = r := ⟨_, rfl⟩
  rw [hr] at HG ⊢
  obtain ⟨d, hd⟩ : ∃ d, tdeepN t = d := ⟨_, rfl⟩
  rw [hd] at HF ⊢
  clear hr hd
  unfold termV at HF HG ⊢
  by_cases hdd : d ≤ 128
  · have e : decide (d ≤ 128) = true := decide_eq_true hdd
    have e2 : (d : Int) ≤ 128 := by omega
    rw [e, Bool.true_and]
    clear e hdd
    go_enter Tryz.func29, Tryz.ntmps29
    go_wp2_with fail
    refine (HF.out _ (h.alloc hhi _) (by simp; omega)).mono ?_
    rintro e w1 ⟨rfl, hb1⟩
    have hz1 := hb1.size
    simp at hz1
    have hB1 := ((Below.refl _ _).alloc (Nat.le_refl _) _).trans (hb1.mono (by simp))
    have hcell := fun p hp => hb1.cell (p := p) hp
    go_wp2_with fail
    refine (HG.out _ ((h.alloc hhi _).kept hb1 (by simp; omega)) (by omega)).mono ?_
    rintro e w2 ⟨rfl, hb2⟩
    go_wp2_with fail
    go_ret
    exact ⟨rfl, hB1.trans (hb2.mono (by omega))⟩
  · have e : decide (d ≤ 128) = false := decide_eq_false hdd
    have e2 : ¬ (d : Int) ≤ 128 := by omega
    rw [e, Bool.false_and]
    clear e hdd HG
    go_enter Tryz.func29, Tryz.ntmps29
    go_wp2_with fail
    refine (HF.out _ (h.alloc hhi _) (by simp; omega)).mono ?_
    rintro e w1 ⟨rfl, hb1⟩
    go_wp2_with fail
    go_ret
    exact ⟨rfl, ((Below.refl _ _).alloc (Nat.le_refl _) _).trans (hb1.mono (by simp))⟩

end Go.Proofs.YtcbbaognomddkaaGreatDoor
