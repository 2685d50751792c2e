/- scholiumref04.equal, scholiumref04.Same, tree.Same. -/
import Derived.Test.YtpahohbpilgdnaaDoorSameN
import Derived.Test.YtpahohbpilgdnaaDoorRDepth
import Derived.Deep.QuietTactic
import Derived.BigQuiet
namespace Go.Proofs.YtpahohbpilgdnaaDoor
open Go.RowKit
set_option linter.unusedVariables false
set_option maxRecDepth 100000

theorem below_drawn {B : Nat} {a w : World} (h : Below B a w) (n : Nat) : Below B a (w.drewN n) := ⟨h.os, h.tape, h.output, h.size, h.block⟩

set_option maxHeartbeats 4000000 in
theorem equal_any : ∀ (t u : RT) (lo hi lo' hi' : Nat) (A A' : Option Addr) (cap cap' : Nat) (w : World), IsNode w lo hi t A cap → IsNode w lo' hi' u A' cap' → hi ≤ w.heap.size → hi' ≤ w.heap.size →
    Calls Tryd.prog 39 #[nodeV t A cap, nodeV u A' cap'] w fun e w' => e = .returned (.bool (same t u)) ∧ Below w.heap.size w w' := by
  intro t
  induction t using RT.ind with
  | h k a s n l ih =>
    rintro ⟨k', a', s', n', l'⟩ lo hi lo' hi' A A' cap cap' w h h' hhi hhi'
    obtain ⟨hs, hl, hm⟩ := h.bounds
    obtain ⟨hs', hl', hm'⟩ := h'.bounds
    have IH := Lib.hid ih
    have HN : Hid (NodesAt w lo hi A l) := Lib.hid h.sub
    have HN' : Hid (NodesAt w lo' hi' A' l') := Lib.hid h'.sub
    unfold maxLen at hm hs hm' hs'
    clear ih h h'
    rw [nodeV_node, nodeV_node, same_node]
    have hW2 : ∀ o1 o2, Below w.heap.size w ((w.alloc o1).alloc o2) := fun o1 o2 => ((Below.refl _ _).alloc (Nat.le_refl _) _).alloc (by simp) _
    have HW2 := Lib.hid hW2
    clear hW2
    by_cases hk : k = k'
    case neg =>
      rw [decide_eq_false hk, Bool.false_and]
      have t0 : (k != k') = true := by simpa using hk
      clear hk
      go_enter Tryd.func39, Tryd.ntmps39
      go_wp2_with fail
      go_ret
      exact ⟨rfl, HW2.out _ _⟩
    rw [decide_eq_true hk, Bool.true_and]
    have t0 : (k != k') = false := by simpa using hk
    by_cases hss : s = s'
    case neg =>
      rw [decide_eq_false hss, Bool.false_and]
      have t1 := ne_list hss
      have t1' : (s.toList != s'.toList) = true := by unfold bne; rw [t1]; rfl
      clear hk hss
      go_enter Tryd.func39, Tryd.ntmps39
      go_wp2_with fail
      go_ret
      exact ⟨rfl, HW2.out _ _⟩
    rw [decide_eq_true hss, Bool.true_and]
    have t1 := eq_list hss
    have t1' : (s.toList != s'.toList) = false := by unfold bne; rw [t1]; rfl
    by_cases hn : n = n'
    case neg =>
      rw [decide_eq_false hn, Bool.false_and]
      have t2 : (n != n') = true := by simpa using hn
      clear hk hss hn
      go_enter Tryd.func39, Tryd.ntmps39
      go_wp2_with fail
      go_ret
      exact ⟨rfl, HW2.out _ _⟩
    rw [decide_eq_true hn, Bool.true_and]
    have t2 : (n != n') = false := by simpa using hn
    clear hk hss hn
    by_cases hlen : l.length = l'.length
    case neg =>
      rw [pairsB_len hlen]
      have t3 : ((l.length : Int) != (l'.length : Int)) = true := by simp; omega
      clear hlen IH HN HN'
      go_enter Tryd.func39, Tryd.ntmps39
      go_wp2_with fail
      go_ret
      exact ⟨rfl, HW2.out _ _⟩
    rw [pairsB_eq hlen]
    have HLEN := Lib.hid hlen
    have t3 : ((l.length : Int) != (l'.length : Int)) = false := by simp; omega
    clear hlen
    go_enter Tryd.func39, Tryd.ntmps39
    go_wp2_with fail
    go_loopw [5, 6] (fun kv iv wr => ∃ i : Nat, i ≤ l.length ∧ iv = .int .i64 i ∧ kv = .bool (allB (pairAt same l l') i) ∧ Below w.heap.size w wr ∧
        wr.cell? ⟨w.heap.size, 4, none⟩ = some (.slice A l.length cap) ∧ wr.cell? ⟨w.heap.size + 1, 4, none⟩ = some (.slice A' l'.length cap') ∧ w.heap.size + 1 < wr.heap.size)
      (fun _ iv _ => l.length - (intOf iv).toNat)
    case atStart => exact ⟨0, Nat.zero_le _, rfl, rfl, HW2.out _ _, by simp, by simp, by simp⟩
    case round =>
      obtain ⟨i, hi1, rfl, rfl, hB, z4, z4', hlt⟩ := hrel
      have hz := hB.size
      by_cases hil : i < l.length
      · have hil' : i < l'.length := by have := HLEN.out; omega
        obtain ⟨b, o, F, C, hA, hb1, hb2, hx, hnode⟩ := (HN.out i hil).kept hB hhi
        obtain ⟨x0, x1, x2, x3, x4⟩ := hx
        obtain ⟨b', o', F', C', hA', hb1', hb2', hx', hnode'⟩ := (HN'.out i hil').kept hB hhi'
        obtain ⟨y0, y1, y2, y3, y4⟩ := hx'
        subst hA
        subst hA'
        have hnext : allB (pairAt same l l') (i + 1) = (allB (pairAt same l l') i && same l[i] l'[i]) := by rw [allB, pairAt_of same hil hil']
        have HNX := Lib.hid hnext
        have HIH := Lib.hid (IH.out l[i] (List.getElem_mem hil) l'[i] lo hi lo' hi' F F' C C')
        have hi0' : (i : Int) < (l.length : Int) := by omega
        have hi0'' : (i : Int) < (l'.length : Int) := by omega
        have hi00 : (0 : Int) ≤ (i : Int) := by omega
        have HB := Lib.hid hB
        clear hnext hB
        cases hok : allB (pairAt same l l') i with
        | true =>
          rw [hok, Bool.true_and] at HNX
          obtain ⟨v, hv⟩ : ∃ v, same l[i] l'[i] = v := ⟨_, rfl⟩
          rw [hv] at HIH HNX
          clear hv hok
          go_wp2_with fail
          go_region_held3 (fun w' => w'.cell? ⟨w.heap.size, 4, none⟩ = some (.slice (some ⟨b, o, none⟩) l.length cap) ∧ w'.cell? ⟨w.heap.size + 1, 4, none⟩ = some (.slice (some ⟨b', o', none⟩) l'.length cap') ∧
                w'.cell? ⟨b, o + i * 5, none⟩ = some (.int .i64 l[i].k) ∧ w'.cell? ⟨b, o + i * 5 + 1, none⟩ = some (.int .i64 l[i].a) ∧ w'.cell? ⟨b, o + i * 5 + 2, none⟩ = some (.string l[i].s) ∧ w'.cell? ⟨b, o + i * 5 + 3, none⟩ = some (.int .i64 l[i].n) ∧ w'.cell? ⟨b, o + i * 5 + 4, none⟩ = some (.slice F l[i].l.length C) ∧
                w'.cell? ⟨b', o' + i * 5, none⟩ = some (.int .i64 l'[i].k) ∧ w'.cell? ⟨b', o' + i * 5 + 1, none⟩ = some (.int .i64 l'[i].a) ∧ w'.cell? ⟨b', o' + i * 5 + 2, none⟩ = some (.string l'[i].s) ∧ w'.cell? ⟨b', o' + i * 5 + 3, none⟩ = some (.int .i64 l'[i].n) ∧ w'.cell? ⟨b', o' + i * 5 + 4, none⟩ = some (.slice F' l'[i].l.length C'))
              (first | go_keep | (refine ⟨?_, ?_, ?_, ?_, ?_, ?_, ?_, ?_, ?_, ?_, ?_, ?_⟩ <;> ((rw [hb3.cell (by show _ < _; simp; omega)]; assumption))))
              (first | (go_at_call 39; refine (HIH.out _ (hnode.kept ((Below.refl _ _).drew) (by omega)) (hnode'.kept ((Below.refl _ _).drew) (by omega)) (by simp; omega) (by simp; omega)).mono ?_; rintro e w3 ⟨rfl, hb3⟩))
          have hc3 : ∀ g q, g < wr.heap.size → w3.cell? ⟨g, q, none⟩ = wr.cell? ⟨g, q, none⟩ := fun g q hg => hb3.cell (p := ⟨g, q, none⟩) hg
          have HY := Lib.hid ((hc3 w.heap.size 4 (by omega)).trans z4)
          have HY' := Lib.hid ((hc3 (w.heap.size + 1) 4 (by omega)).trans z4')
          have HLT := Lib.hid (Nat.lt_of_lt_of_le hlt hb3.size)
          have HB3 := Lib.hid (HB.out.drew.trans (hb3.mono hz))
          clear hc3 hb3
          go_wp2_with fail
          go_roundw
          case rel => exact ⟨i + 1, by omega, rfl, by rw [HNX.out], HB3.out, HY.out, HY'.out, HLT.out⟩
          case measure => simp [intOf]; omega
        | false =>
          rw [hok, Bool.false_and] at HNX
          clear hok HIH
          go_wp2_with fail
          go_quiet (fail)
          have HB3 := Lib.hid (below_drawn HB.out nq)
          have HY := Lib.hid z4
          have HY' := Lib.hid z4'
          have HLT := Lib.hid hlt
          go_wp2_with fail
          go_roundw
          case rel => exact ⟨i + 1, by omega, rfl, by rw [HNX.out], HB3.out, HY.out, HY'.out, HLT.out⟩
          case measure => simp [intOf]; omega
      · obtain rfl : i = l.length := by omega
        go_wp2_with fail
        go_ret
        exact ⟨rfl, hB⟩

/-- Are two nodes told to be the same? -/
def sameB (t u : RT) : Bool := fitB t && (fitB u && same t u)

theorem tSame_any (t u : RT) (lo hi lo' hi' : Nat) (A A' : Option Addr) (cap cap' : Nat) (w : World) (h : IsNode w lo hi t A cap) (h' : IsNode w lo' hi' u A' cap') (hhi : hi ≤ w.heap.size) (hhi' : hi' ≤ w.heap.size) :
    Calls Tryd.prog 19 #[nodeV t A cap, nodeV u A' cap'] w fun e w' => e = .returned (.bool (sameB t u)) ∧ Below w.heap.size w w' := by
  have hf := fits_any t lo hi A cap
  have hf' := fits_any u lo' hi' A' cap'
  have HA := Lib.hid (alike_any t u lo hi lo' hi' A A' cap cap')
  unfold sameB
  obtain ⟨r, hr⟩ : ∃ r, same t u = r := ⟨_, rfl⟩
  obtain ⟨x, hx⟩ : ∃ x, fitB t = x := ⟨_, rfl⟩
  obtain ⟨y, hy⟩ : ∃ y, fitB u = y := ⟨_, rfl⟩
  rw [hr] at HA ⊢
  rw [hx] at hf ⊢
  rw [hy] at hf' ⊢
  have HF := Lib.hid hf
  have HF' := Lib.hid hf'
  clear hr hx hy hf hf'
  unfold nodeV at HA HF HF' ⊢
  have hW2 : ∀ o1 o2, Below w.heap.size w ((w.alloc o1).alloc o2) := fun o1 o2 => ((Below.refl _ _).alloc (Nat.le_refl _) _).alloc (by simp) _
  have HW2 := Lib.hid hW2
  have HH := Lib.hid (fun o1 o2 => h.kept (hW2 o1 o2) hhi)
  have HH' := Lib.hid (fun o1 o2 => h'.kept (hW2 o1 o2) hhi')
  clear hW2
  cases x with
  | false =>
    go_enter Tryd.func19, Tryd.ntmps19
    go_wp2_with fail
    refine (HF.out _ (HH.out _ _) (by simp; omega)).mono ?_
    rintro e w1 ⟨rfl, hb⟩
    go_wp2_with fail
    go_ret
    exact ⟨rfl, (HW2.out _ _).trans (hb.mono (by simp; omega))⟩
  | true =>
    go_enter Tryd.func19, Tryd.ntmps19
    go_wp2_with fail
    refine (HF.out _ (HH.out _ _) (by simp; omega)).mono ?_
    rintro e w1 ⟨rfl, hb⟩
    have hz1 := hb.size
    simp at hz1
    have hcell := fun p hp => hb.cell (p := p) hp
    have HB1 := Lib.hid ((HW2.out _ _).trans (hb.mono (by simp; omega)))
    have HN1 := Lib.hid ((HH.out _ _).kept hb (by simp; omega))
    have HN1' := Lib.hid ((HH'.out _ _).kept hb (by simp; omega))
    clear hb
    cases y with
    | false =>
      go_wp2_with fail
      refine (HF'.out _ HN1'.out (by omega)).mono ?_
      rintro e w2 ⟨rfl, hb2⟩
      go_wp2_with fail
      go_ret
      exact ⟨rfl, HB1.out.trans (hb2.mono (by omega))⟩
    | true =>
      go_wp2_with fail
      refine (HF'.out _ HN1'.out (by omega)).mono ?_
      rintro e w2 ⟨rfl, hb2⟩
      have hz2 := hb2.size
      have hcell2 := fun p hp => hb2.cell (p := p) hp
      have hq1 : w.heap.size < w1.heap.size := by omega
      have hq2 : w.heap.size + 1 < w1.heap.size := by omega
      have HB2 := Lib.hid (HB1.out.trans (hb2.mono (by omega)))
      have HN2 := Lib.hid (HN1.out.kept hb2 (by omega))
      have HN2' := Lib.hid (HN1'.out.kept hb2 (by omega))
      clear hb2
      go_wp2_with fail
      refine (HA.out _ HN2.out HN2'.out (by omega) (by omega)).mono ?_
      rintro e w3 ⟨rfl, hb3⟩
      go_wp2_with fail
      go_ret
      exact ⟨by simp, HB2.out.trans (hb3.mono (by omega))⟩

theorem rSame_any (t u : RT) (lo hi lo' hi' : Nat) (A A' : Option Addr) (cap cap' : Nat) (w : World) (h : IsNode w lo hi t A cap) (h' : IsNode w lo' hi' u A' cap') (hhi : hi ≤ w.heap.size) (hhi' : hi' ≤ w.heap.size) :
    Calls Tryd.prog 20 #[nodeV t A cap, nodeV u A' cap'] w fun e w' => e = .returned (.bool (sameB t u)) ∧ Below w.heap.size w w' := by
  have HF := Lib.hid (refDepth_any t lo hi A cap)
  have HF' := Lib.hid (refDepth_any u lo' hi' A' cap')
  have HA := Lib.hid (equal_any t u lo hi lo' hi' A A' cap cap')
  unfold sameB fitB
  obtain ⟨r, hr⟩ : ∃ r, same t u = r := ⟨_, rfl⟩
  obtain ⟨x, hx⟩ : ∃ x, deepN t = x := ⟨_, rfl⟩
  obtain ⟨y, hy⟩ : ∃ y, deepN u = y := ⟨_, rfl⟩
  rw [hr] at HA ⊢
  rw [hx] at HF ⊢
  rw [hy] at HF' ⊢
  clear hr hx hy
  unfold nodeV at HA HF HF' ⊢
  have hW2 : ∀ o1 o2, Below w.heap.size w ((w.alloc o1).alloc o2) := fun o1 o2 => ((Below.refl _ _).alloc (Nat.le_refl _) _).alloc (by simp) _
  have HW2 := Lib.hid hW2
  have HH := Lib.hid (fun o1 o2 => h.kept (hW2 o1 o2) hhi)
  have HH' := Lib.hid (fun o1 o2 => h'.kept (hW2 o1 o2) hhi')
  clear hW2
  by_cases hx : x ≤ 128
  case neg =>
    have e : decide (x ≤ 128) = false := decide_eq_false hx
    have e2 : ¬ (x : Int) ≤ 128 := by omega
    rw [e, Bool.false_and]
    clear e hx
    go_enter Tryd.func20, Tryd.ntmps20
    go_wp2_with fail
    refine (HF.out _ (HH.out _ _) (by simp; omega)).mono ?_
    rintro e w1 ⟨rfl, hb⟩
    go_wp2_with fail
    go_ret
    exact ⟨rfl, (HW2.out _ _).trans (hb.mono (by simp; omega))⟩
  have e : decide (x ≤ 128) = true := decide_eq_true hx
  have e2 : (x : Int) ≤ 128 := by omega
  rw [e, Bool.true_and]
  clear e hx
  by_cases hy : y ≤ 128
  case neg =>
    have e : decide (y ≤ 128) = false := decide_eq_false hy
    have e3 : ¬ (y : Int) ≤ 128 := by omega
    rw [e, Bool.false_and]
    clear e hy
    go_enter Tryd.func20, Tryd.ntmps20
    go_wp2_with fail
    refine (HF.out _ (HH.out _ _) (by simp; omega)).mono ?_
    rintro e w1 ⟨rfl, hb⟩
    have hz1 := hb.size
    simp at hz1
    have hcell := fun p hp => hb.cell (p := p) hp
    have HB1 := Lib.hid ((HW2.out _ _).trans (hb.mono (by simp; omega)))
    have HN1' := Lib.hid ((HH'.out _ _).kept hb (by simp; omega))
    clear hb
    go_wp2_with fail
    refine (HF'.out _ HN1'.out (by omega)).mono ?_
    rintro e w2 ⟨rfl, hb2⟩
    go_wp2_with fail
    go_ret
    exact ⟨rfl, HB1.out.trans (hb2.mono (by omega))⟩
  have e : decide (y ≤ 128) = true := decide_eq_true hy
  have e3 : (y : Int) ≤ 128 := by omega
  rw [e, Bool.true_and]
  clear e hy
  go_enter Tryd.func20, Tryd.ntmps20
  go_wp2_with fail
  refine (HF.out _ (HH.out _ _) (by simp; omega)).mono ?_
  rintro e w1 ⟨rfl, hb⟩
  have hz1 := hb.size
  simp at hz1
  have hcell := fun p hp => hb.cell (p := p) hp
  have HB1 := Lib.hid ((HW2.out _ _).trans (hb.mono (by simp; omega)))
  have HN1 := Lib.hid ((HH.out _ _).kept hb (by simp; omega))
  have HN1' := Lib.hid ((HH'.out _ _).kept hb (by simp; omega))
  clear hb
  go_wp2_with fail
  refine (HF'.out _ HN1'.out (by omega)).mono ?_
  rintro e w2 ⟨rfl, hb2⟩
  have hz2 := hb2.size
  have hcell2 := fun p hp => hb2.cell (p := p) hp
  have hq1 : w.heap.size < w1.heap.size := by omega
  have hq2 : w.heap.size + 1 < w1.heap.size := by omega
  have HB2 := Lib.hid (HB1.out.trans (hb2.mono (by omega)))
  have HN2 := Lib.hid (HN1.out.kept hb2 (by omega))
  have HN2' := Lib.hid (HN1'.out.kept hb2 (by omega))
  clear hb2
  go_wp2_with fail
  refine (HA.out _ HN2.out HN2'.out (by omega) (by omega)).mono ?_
  rintro e w3 ⟨rfl, hb3⟩
  go_wp2_with fail
  go_ret
  exact ⟨by simp, HB2.out.trans (hb3.mono (by omega))⟩

end Go.Proofs.YtpahohbpilgdnaaDoor
