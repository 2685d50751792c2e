/- term.spare, term.Shaped: how many nodes are left of those that a term may have, if it is what it must be. -/
import Derived.Test.YtodmnollgejgeaaDoorTFormed
namespace Go.Proofs.YtodmnollgejgeaaDoor
open Go.RowKit
set_option linter.unusedVariables false
set_option maxRecDepth 100000

def fitsIn (t : TM) (n d : Nat) : Prop := tgoodB t = true ∧ t.size ≤ n ∧ t.depth ≤ d
instance (t : TM) (n d : Nat) : Decidable (fitsIn t n d) := by unfold fitsIn; exact inferInstance
def spareI (t : TM) (n d : Nat) : Int := if fitsIn t n d then ((n - t.size : Nat) : Int) else -1
theorem spareI_yes {t : TM} {n d : Nat} (h : fitsIn t n d) : spareI t n d = ((n - t.size : Nat) : Int) := if_pos h
theorem spareI_no {t : TM} {n d : Nat} (h : ¬ fitsIn t n d) : spareI t n d = -1 := if_neg h
theorem ret_int {a b : Int} (h : a = b) : Ending.returned (.int .i64 a) = .returned (.int .i64 b) := by rw [h]

def SpareRel (w : World) (l : List TM) (n d : Nat) (nv iv : Value) (wr : World) : Prop :=
  ∃ i m : Nat, i ≤ l.length ∧ iv = .int .i64 i ∧ nv = .int .i64 (m : Int) ∧ m ≤ 8192 ∧ Below w.heap.size w wr ∧ Hid (m + sizeM (l.take i) + 1 = n ∧ tgoodL (l.take i) = true ∧ depthM (l.take i) + 1 ≤ d)

set_option maxHeartbeats 1000000 in
theorem spare_any : ∀ (t : TM) (n d lo hi : Nat) (A : Option Addr) (cap : Nat) (w : World), IsTerm w lo hi t A cap → hi ≤ w.heap.size → ShapesM w → n ≤ 8192 → d ≤ 128 →
    Calls Tryd.prog 72 #[termV t A cap, .int .i64 (n : Int), .int .i64 (d : Int)] w fun e w' => e = .returned (.int .i64 (spareI t n d)) ∧ Below w.heap.size w w' := by
  intro t
  induction t using TM.ind with
  | h k v l ih =>
    intro n d lo hi A cap w h hhi hS hn hd
    obtain ⟨hl, hm⟩ := h.bounds
    have IH := Lib.hid ih
    have HN := Lib.hid h.sub
    have HFO := Lib.hid (fun W h1 h2 h3 => formed_any k v l lo hi A cap W h1 h2 h3)
    have HHI := Lib.hid (fun W (hb : Below w.heap.size w W) => h.kept hb hhi)
    have HSS := Lib.hid (fun W (hb : Below w.heap.size w W) => hS.kept hb)
    unfold maxLen at hm
    rw [termV_node]
    obtain ⟨r, hr⟩ : ∃ r, spareI (.node k v l) n d = r := ⟨_, rfl⟩
    rw [hr]
    have hfi : fitsIn (.node k v l) n d ↔ (ttopB k v l = true ∧ tgoodL l = true) ∧ sizeM l + 1 ≤ n ∧ depthM l + 1 ≤ d := by
      unfold fitsIn
      rw [tgoodB_node, tsize_node, tdepth_node, Bool.and_eq_true]
    have hno : ¬ ((ttopB k v l = true ∧ tgoodL l = true) ∧ sizeM l + 1 ≤ n ∧ depthM l + 1 ≤ d) → r = -1 := fun e => by rw [← hr]; exact spareI_no (fun h => e (hfi.1 h))
    have hyes : (ttopB k v l = true ∧ tgoodL l = true) ∧ sizeM l + 1 ≤ n ∧ depthM l + 1 ≤ d → r = ((n - (sizeM l + 1) : Nat) : Int) := fun e => by rw [← hr, spareI_yes (hfi.2 e), tsize_node]
    have HNO := Lib.hid hno
    have HYES := Lib.hid hyes
    have HW1 := Lib.hid (fun o1 => ((Below.refl w.heap.size w).alloc (Nat.le_refl _) o1))
    clear ih h hS hr hfi hno hyes
    by_cases hn0 : n = 0
    · have HR : Hid (r = -1) := Lib.hid (HNO.out (by omega))
      subst hn0
      clear IH HN hn hd
      go_enter Tryd.func72, Tryd.ntmps72
      go_wp2_with fail
      go_ret
      exact ⟨by rw [HR.out]; rfl, HW1.out _⟩
    have e0 : ((n : Int) == 0) = false := by simpa using hn0
    by_cases hd0 : d = 0
    · have HR : Hid (r = -1) := Lib.hid (HNO.out (by omega))
      subst hd0
      clear IH HN hn hd
      go_enter Tryd.func72, Tryd.ntmps72
      go_wp2_with fail
      go_ret
      exact ⟨by rw [HR.out]; rfl, HW1.out _⟩
    have e1 : ((d : Int) == 0) = false := by simpa using hd0
    obtain ⟨x, hx⟩ : ∃ x, ttopB k v l = x := ⟨_, rfl⟩
    rw [hx] at HFO HNO HYES
    clear hx
    cases x with
    | false =>
      have HR : Hid (r = -1) := Lib.hid (HNO.out (by simp))
      clear IH HN hn hd
      go_enter Tryd.func72, Tryd.ntmps72
      go_wp2_with fail
      refine (HFO.out _ (HHI.out _ (HW1.out _)) (by simp; omega) (HSS.out _ (HW1.out _))).mono ?_
      rintro e w1 ⟨rfl, hb1⟩
      go_wp2_with fail
      go_ret
      exact ⟨by rw [HR.out]; rfl, (HW1.out _).trans (hb1.mono (by simp))⟩
    | true =>
    have HBN : Hid (n ≤ 8192 ∧ d ≤ 128 ∧ 0 < n ∧ 0 < d) := Lib.hid ⟨hn, hd, by omega, by omega⟩
    have hn1 : (1 : Int) ≤ (n : Int) := by omega
    have hn2 : (n : Int) ≤ 8192 := by omega
    have hd1 : (1 : Int) ≤ (d : Int) := by omega
    have hd2 : (d : Int) ≤ 128 := by omega
    clear hn hd hn0 hd0
    go_enter Tryd.func72, Tryd.ntmps72
    go_wp2_with fail
    refine (HFO.out _ (HHI.out _ (HW1.out _)) (by simp; omega) (HSS.out _ (HW1.out _))).mono ?_
    rintro e w1 ⟨rfl, hb1⟩
    have hz1 := hb1.size
    simp at hz1
    have hcell := fun p hp => hb1.cell (p := p) hp
    have HB1 := Lib.hid ((HW1.out _).trans (hb1.mono (by simp)))
    clear hb1
    go_wp2_with fail
    go_loopw [1, 25] (SpareRel w l n d) (fun _ iv _ => l.length - (intOf iv).toNat)
    case atStart =>
      refine ⟨0, n - 1, Nat.zero_le _, rfl, int_of (by have := HBN.out; omega), by have := HBN.out; omega, HB1.out, Lib.hid ⟨?_, ?_, ?_⟩⟩
      · rw [List.take_zero, sizeM_nil]; have := HBN.out; omega
      · rw [List.take_zero, tgoodL_all]; rfl
      · rw [List.take_zero, depthM_nil]; have := HBN.out; omega
    case round =>
      obtain ⟨i, m, hi1, rfl, rfl, hm9, hB, HINV⟩ := hrel
      have hz := hB.size
      clear hcell
      by_cases hil : i < l.length
      · obtain ⟨b, o, F, C, rfl, hb1, hb2, hx, hnode⟩ := (HN.out i hil).kept hB hhi
        obtain ⟨x0, x1, x2⟩ := hx
        have hmem : l[i] ∈ l := List.getElem_mem hil
        have hs1 := sizeM_snoc hil
        have hd3 := depthM_snoc hil
        have hg1 := tgoodL_take hil
        have hIH := IH.out l[i] hmem m (d - 1) lo hi F C
        have hdd : ((d - 1 : Nat) : Int) = (d : Int) - 1 := by have := HBN.out; omega
        rw [hdd] at hIH
        have hgood : fitsIn l[i] m (d - 1) → Hid (m - l[i].size + sizeM (l.take (i + 1)) + 1 = n ∧ tgoodL (l.take (i + 1)) = true ∧ depthM (l.take (i + 1)) + 1 ≤ d) := fun e => by
          obtain ⟨g1, g2, g3⟩ := HINV.out
          obtain ⟨f1, f2, f3⟩ := e
          have := HBN.out
          exact Lib.hid ⟨by rw [hs1]; omega, by rw [hg1, g2, f1]; rfl, by rw [hd3]; omega⟩
        have hbad : ¬ fitsIn l[i] m (d - 1) → r = -1 := fun e => HNO.out (by
          rintro ⟨⟨_, f1⟩, f2, f3⟩
          obtain ⟨g1, g2, g3⟩ := HINV.out
          refine e ⟨tgoodL_at f1 hil, ?_, ?_⟩
          · have := sizeM_take_le l (i + 1)
            omega
          · have h1 : depthM (l.take (i + 1)) ≤ depthM l := by
              have := depthM_append (l.take (i + 1)) (l.drop (i + 1))
              rw [List.take_append_drop] at this
              omega
            omega)
        obtain ⟨q, hq⟩ : ∃ q, spareI l[i] m (d - 1) = q := ⟨_, rfl⟩
        rw [hq] at hIH
        have HC := Lib.hid hIH
        have HG := Lib.hid hgood
        have HBAD := Lib.hid hbad
        by_cases hf : fitsIn l[i] m (d - 1)
        · obtain ⟨m', hm'⟩ : ∃ m', m - l[i].size = m' := ⟨_, rfl⟩
          have HI2 := Lib.hid (HG.out hf)
          rw [spareI_yes hf, hm'] at hq
          rw [hm'] at HI2
          subst hq
          have hm2 : m' ≤ 8192 := by omega
          have e2 : decide ((m' : Int) < 0) = false := decide_eq_false (by omega)
          clear HINV hIH hgood hbad HG HBAD hf hm' hs1 hd3 hg1 hmem HN IH HNO HYES
          go_wp2_with fail
          refine (HC.out _ (hnode.alloc (by omega) _) (by simp; omega) (HSS.out _ (hB.alloc hz _)) hm9 (by have := HBN.out; omega)).mono ?_
          rintro e w2 ⟨rfl, hb2'⟩
          have HB2 := Lib.hid ((hB.alloc hz _).trans (hb2'.mono (by simp; omega)))
          clear hb2'
          go_wp2_with fail
          go_roundw
          case rel => exact ⟨i + 1, m', by omega, rfl, rfl, hm2, HB2.out, HI2.out⟩
          case measure => simp [intOf]; omega
        · have HR : Hid (r = -1) := Lib.hid (HBAD.out hf)
          rw [spareI_no hf] at hq
          subst hq
          clear HINV hIH hgood hbad HG HBAD hf hs1 hd3 hg1 hmem HN IH HNO HYES
          go_wp2_with fail
          refine (HC.out _ (hnode.alloc (by omega) _) (by simp; omega) (HSS.out _ (hB.alloc hz _)) hm9 (by have := HBN.out; omega)).mono ?_
          rintro e w2 ⟨rfl, hb2'⟩
          have HB2 := Lib.hid ((hB.alloc hz _).trans (hb2'.mono (by simp; omega)))
          clear hb2'
          go_wp2_with fail
          go_ret
          exact ⟨by rw [HR.out]; rfl, HB2.out⟩
      · obtain rfl : i = l.length := by omega
        have HR : Hid (r = (m : Int)) := Lib.hid (by
          obtain ⟨g1, g2, g3⟩ := HINV.out
          rw [List.take_length] at g1 g2 g3
          rw [HYES.out ⟨⟨by trivial, g2⟩, by omega, g3⟩]
          omega)
        clear HINV HN IH HNO HYES
        go_wp2_with fail
        go_ret
        exact ⟨by rw [HR.out]; rfl, hB⟩

theorem spare_shaped (t : TM) : decide (0 ≤ spareI t 8192 128) = shapedB t := by
  by_cases h : fitsIn t 8192 128
  · rw [spareI_yes h, shapedB_true.2 ⟨h.2.1, h.2.2, h.1⟩]
    exact decide_eq_true (by omega)
  · have : shapedB t = false := by
      cases e : shapedB t with
      | false => rfl
      | true => obtain ⟨h1, h2, h3⟩ := shapedB_true.1 e; exact (h ⟨h3, h1, h2⟩).elim
    rw [spareI_no h, this]; rfl

theorem shaped_any (t : TM) (lo hi : Nat) (A : Option Addr) (cap : Nat) (w : World) (h : IsTerm w lo hi t A cap) (hhi : hi ≤ w.heap.size) (hS : ShapesM w) :
    Calls Tryd.prog 44 #[termV t A cap] w fun e w' => e = .returned (.bool (shapedB t)) ∧ Below w.heap.size w w' := by
  have HC := Lib.hid (fun W h1 h2 h3 => spare_any t 8192 128 lo hi A cap W h1 h2 h3 (by omega) (by omega))
  rw [← spare_shaped]
  obtain ⟨z, hz⟩ : ∃ z, spareI t 8192 128 = z := ⟨_, rfl⟩
  rw [hz] at HC ⊢
  unfold termV at HC ⊢
  have hS1 := fun o => hS.kept ((Below.refl w.heap.size w).alloc (Nat.le_refl _) o)
  have HS1 := Lib.hid hS1
  clear hz hS hS1
  go_enter Tryd.func44, Tryd.ntmps44
  go_wp2_with fail
  refine (HC.out _ (h.alloc hhi _) (by simp; omega) (HS1.out _)).mono ?_
  rintro e w1 ⟨rfl, hb1⟩
  go_wp2_with fail
  go_ret
  exact ⟨rfl, ((Below.refl _ _).alloc (Nat.le_refl _) _).trans (hb1.mono (by simp))⟩

end Go.Proofs.YtodmnollgejgeaaDoor
