/- Two nodes, the same but for offsets: slices.EqualFunc over nodes, tree.alike, scholiumref04.equal. -/
import Derived.Test.YtpahohbpilgdnaaDoorGood
import Derived.Deep.RegionHeld3
namespace Go.Proofs.YtpahohbpilgdnaaDoor
open Go.RowKit
set_option linter.unusedVariables false
set_option maxRecDepth 100000

/-- Two lists, place by place. -/
def pairAt (f : RT → RT → Bool) (l l' : List RT) (i : Nat) : Bool := match l[i]?, l'[i]? with | some t, some u => f t u | _, _ => true
theorem pairAt_of (f : RT → RT → Bool) {l l' : List RT} {i : Nat} (h : i < l.length) (h' : i < l'.length) : pairAt f l l' i = f l[i] l'[i] := by
  unfold pairAt; rw [List.getElem?_eq_getElem h, List.getElem?_eq_getElem h']
def pairsB (f : RT → RT → Bool) (l l' : List RT) : Bool := decide (l.length = l'.length) && allB (pairAt f l l') l.length
theorem sameL_pairs : ∀ l l' : List RT, sameL l l' = pairsB same l l'
  | [], [] => by rw [sameL]; rfl
  | [], _ :: _ => by rw [sameL] <;> simp [pairsB]
  | _ :: _, [] => by rw [sameL] <;> simp [pairsB]
  | t :: r, u :: r' => by
    rw [sameL, sameL_pairs r r']
    unfold pairsB
    rw [List.length_cons, List.length_cons, allB_succ]
    have e : (decide (r.length + 1 = r'.length + 1)) = decide (r.length = r'.length) := by congr 1; apply propext; omega
    rw [e]
    have e0 : pairAt same (t :: r) (u :: r') 0 = same t u := rfl
    have e1 : (fun i => pairAt same (t :: r) (u :: r') (i + 1)) = pairAt same r r' := rfl
    rw [e0, e1]
    cases same t u <;> cases decide (r.length = r'.length) <;> rfl
theorem pairsB_len {f : RT → RT → Bool} {l l' : List RT} (h : ¬ l.length = l'.length) : pairsB f l l' = false := by unfold pairsB; rw [decide_eq_false h]; rfl
theorem pairsB_eq {f : RT → RT → Bool} {l l' : List RT} (h : l.length = l'.length) : pairsB f l l' = allB (pairAt f l l') l.length := by unfold pairsB; rw [decide_eq_true h]; rfl
theorem allB_no {Q : Nat → Bool} {n i : Nat} (hi : i < n) (h : Q i = false) : allB Q n = false := by
  cases e : allB Q n with
  | false => rfl
  | true => rw [allB_true.1 e i hi] at h; cases h
theorem same_node (k a : Int) (s : ByteArray) (n : Int) (l : List RT) (k' a' : Int) (s' : ByteArray) (n' : Int) (l' : List RT) :
    same (.node k a s n l) (.node k' a' s' n' l') = (decide (k = k') && (decide (s = s') && (decide (n = n') && pairsB same l l'))) := by rw [same, sameL_pairs]

/-- The test of each pair comes to f, whenever it is asked. -/
def TestNN (w : World) (g : FuncId) (f : RT → RT → Bool) (l l' : List RT) : Prop :=
  ∀ i (h : i < l.length) (h' : i < l'.length) (lo hi lo' hi' : Nat) (F F' : Option Addr) (C C' : Nat) (w' : World), Below w.heap.size w w' → IsNode w' lo hi l[i] F C → IsNode w' lo' hi' l'[i] F' C' → hi ≤ w'.heap.size → hi' ≤ w'.heap.size →
    Calls Tryd.prog g #[nodeV l[i] F C, nodeV l'[i] F' C'] w' fun e w'' => e = .returned (.bool (f l[i] l'[i])) ∧ Below w'.heap.size w' w''
theorem TestNN.kept {w w' : World} {g : FuncId} {f : RT → RT → Bool} {l l' : List RT} (h : TestNN w g f l l') (hb : Below w.heap.size w w') : TestNN w' g f l l' :=
  fun i h1 h2 lo hi lo' hi' F F' C C' W hW => h i h1 h2 lo hi lo' hi' F F' C C' W (hb.trans (hW.mono hb.size))

set_option maxHeartbeats 1000000 in
theorem eqf_38 (f : RT → RT → Bool) (l l' : List RT) (A A' : Option Addr) (cap cap' lo hi lo' hi' : Nat) (w : World) (hl : l.length ≤ maxLen) (hl' : l'.length ≤ maxLen) (hn : NodesAt w lo hi A l) (hn' : NodesAt w lo' hi' A' l') (hhi : hi ≤ w.heap.size) (hhi' : hi' ≤ w.heap.size) (ht : TestNN w 38 f l l') :
    Calls Tryd.prog 62 #[.slice A l.length cap, .slice A' l'.length cap', .func (.func 38) #[] #[]] w fun e w' => e = .returned (.bool (pairsB f l l')) ∧ Below w.heap.size w w' := by
  have HN := Lib.hid hn
  have HN' := Lib.hid hn'
  have HT := Lib.hid ht
  unfold maxLen at hl hl'
  clear hn hn' ht
  by_cases hlen : l.length = l'.length
  · rw [pairsB_eq hlen]
    have HLEN := Lib.hid hlen
    have t0 : ((l.length : Int) != (l'.length : Int)) = false := by simp; omega
    clear hlen
    go_enter Tryd.func62, Tryd.ntmps62
    go_wp2_with fail
    go_loopw [17] (fun iv wr => ∃ i : Nat, i ≤ l.length ∧ iv = .int .i64 i ∧ Below w.heap.size w wr ∧ Hid (allB (pairAt f l l') i = true)) (fun iv _ => l.length - (intOf iv).toNat)
    case atStart => exact ⟨0, Nat.zero_le _, rfl, Below.refl _ _, Lib.hid rfl⟩
    case round =>
      obtain ⟨i, hi1, rfl, hB, HQ⟩ := hrel
      have hz := hB.size
      by_cases hil : i < l.length
      · have hil' : i < l'.length := by have := HLEN.out; omega
        obtain ⟨b, o, F, C, rfl, hb1, hb2, hx, hnode⟩ := (HN.out i hil).kept hB hhi
        obtain ⟨x0, x1, x2, x3, x4⟩ := hx
        obtain ⟨b', o', F', C', rfl, hb1', hb2', hx', hnode'⟩ := (HN'.out i hil').kept hB hhi'
        obtain ⟨y0, y1, y2, y3, y4⟩ := hx'
        have hlt : b < wr.heap.size := by omega
        have hlt' : b' < wr.heap.size := by omega
        have HR := Lib.hid (HT.out i hil hil' lo hi lo' hi' F F' C C')
        have hall : Hid (allB (pairAt f l l') (i + 1) = f l[i] l'[i]) := Lib.hid (by rw [allB, HQ.out, Bool.true_and, pairAt_of f hil hil'])
        have hno : Hid (f l[i] l'[i] = false → allB (pairAt f l l') l.length = false) := Lib.hid (fun h => allB_no hil (by rw [pairAt_of f hil hil']; exact h))
        obtain ⟨v, hv⟩ : ∃ v, f l[i] l'[i] = v := ⟨_, rfl⟩
        rw [hv] at HR hall hno
        clear hv HT HN HN'
        have hi0' : (i : Int) < (l.length : Int) := by omega
        have hi0'' : (i : Int) < (l'.length : Int) := by omega
        go_wp2_with fail
        refine (HR.out _ ((hB.alloc hz _).alloc (by simp; omega) _) ((hnode.alloc (by omega) _).alloc (by simp; omega) _) ((hnode'.alloc (by omega) _).alloc (by simp; omega) _) (by simp; omega) (by simp; omega)).mono ?_
        rintro e w1 ⟨rfl, hb⟩
        have HB1 := Lib.hid (((hB.alloc hz _).alloc (by simp; omega) _).trans (hb.mono (by simp; omega)))
        clear hb
        cases v with
        | true =>
          go_wp2_with fail
          go_roundw
          case rel => exact ⟨i + 1, by omega, rfl, HB1.out, hall⟩
          case measure => simp [intOf]; omega
        | false =>
          have HN2 := Lib.hid (hno.out rfl)
          clear hno
          go_wp2_with fail
          go_ret
          exact ⟨by rw [HN2.out]; rfl, HB1.out⟩
      · obtain rfl : i = l.length := by omega
        clear HT HN HN'
        go_wp2_with fail
        go_ret
        exact ⟨by rw [HQ.out]; rfl, hB⟩
  · rw [pairsB_len hlen]
    have t0 : ((l.length : Int) != (l'.length : Int)) = true := by simp; omega
    clear hlen HT HN HN'
    go_enter Tryd.func62, Tryd.ntmps62
    go_wp2_with fail
    go_ret
    exact ⟨rfl, Below.refl _ _⟩

set_option maxHeartbeats 1000000 in
theorem eqf_19 (f : RT → RT → Bool) (l l' : List RT) (A A' : Option Addr) (cap cap' lo hi lo' hi' : Nat) (w : World) (hl : l.length ≤ maxLen) (hl' : l'.length ≤ maxLen) (hn : NodesAt w lo hi A l) (hn' : NodesAt w lo' hi' A' l') (hhi : hi ≤ w.heap.size) (hhi' : hi' ≤ w.heap.size) (ht : TestNN w 19 f l l') :
    Calls Tryd.prog 62 #[.slice A l.length cap, .slice A' l'.length cap', .func (.func 19) #[] #[]] w fun e w' => e = .returned (.bool (pairsB f l l')) ∧ Below w.heap.size w w' := by
  have HN := Lib.hid hn
  have HN' := Lib.hid hn'
  have HT := Lib.hid ht
  unfold maxLen at hl hl'
  clear hn hn' ht
  by_cases hlen : l.length = l'.length
  · rw [pairsB_eq hlen]
    have HLEN := Lib.hid hlen
    have t0 : ((l.length : Int) != (l'.length : Int)) = false := by simp; omega
    clear hlen
    go_enter Tryd.func62, Tryd.ntmps62
    go_wp2_with fail
    go_loopw [17] (fun iv wr => ∃ i : Nat, i ≤ l.length ∧ iv = .int .i64 i ∧ Below w.heap.size w wr ∧ Hid (allB (pairAt f l l') i = true)) (fun iv _ => l.length - (intOf iv).toNat)
    case atStart => exact ⟨0, Nat.zero_le _, rfl, Below.refl _ _, Lib.hid rfl⟩
    case round =>
      obtain ⟨i, hi1, rfl, hB, HQ⟩ := hrel
      have hz := hB.size
      by_cases hil : i < l.length
      · have hil' : i < l'.length := by have := HLEN.out; omega
        obtain ⟨b, o, F, C, rfl, hb1, hb2, hx, hnode⟩ := (HN.out i hil).kept hB hhi
        obtain ⟨x0, x1, x2, x3, x4⟩ := hx
        obtain ⟨b', o', F', C', rfl, hb1', hb2', hx', hnode'⟩ := (HN'.out i hil').kept hB hhi'
        obtain ⟨y0, y1, y2, y3, y4⟩ := hx'
        have hlt : b < wr.heap.size := by omega
        have hlt' : b' < wr.heap.size := by omega
        have HR := Lib.hid (HT.out i hil hil' lo hi lo' hi' F F' C C')
        have hall : Hid (allB (pairAt f l l') (i + 1) = f l[i] l'[i]) := Lib.hid (by rw [allB, HQ.out, Bool.true_and, pairAt_of f hil hil'])
        have hno : Hid (f l[i] l'[i] = false → allB (pairAt f l l') l.length = false) := Lib.hid (fun h => allB_no hil (by rw [pairAt_of f hil hil']; exact h))
        obtain ⟨v, hv⟩ : ∃ v, f l[i] l'[i] = v := ⟨_, rfl⟩
        rw [hv] at HR hall hno
        clear hv HT HN HN'
        have hi0' : (i : Int) < (l.length : Int) := by omega
        have hi0'' : (i : Int) < (l'.length : Int) := by omega
        go_wp2_with fail
        refine (HR.out _ ((hB.alloc hz _).alloc (by simp; omega) _) ((hnode.alloc (by omega) _).alloc (by simp; omega) _) ((hnode'.alloc (by omega) _).alloc (by simp; omega) _) (by simp; omega) (by simp; omega)).mono ?_
        rintro e w1 ⟨rfl, hb⟩
        have HB1 := Lib.hid (((hB.alloc hz _).alloc (by simp; omega) _).trans (hb.mono (by simp; omega)))
        clear hb
        cases v with
        | true =>
          go_wp2_with fail
          go_roundw
          case rel => exact ⟨i + 1, by omega, rfl, HB1.out, hall⟩
          case measure => simp [intOf]; omega
        | false =>
          have HN2 := Lib.hid (hno.out rfl)
          clear hno
          go_wp2_with fail
          go_ret
          exact ⟨by rw [HN2.out]; rfl, HB1.out⟩
      · obtain rfl : i = l.length := by omega
        clear HT HN HN'
        go_wp2_with fail
        go_ret
        exact ⟨by rw [HQ.out]; rfl, hB⟩
  · rw [pairsB_len hlen]
    have t0 : ((l.length : Int) != (l'.length : Int)) = true := by simp; omega
    clear hlen HT HN HN'
    go_enter Tryd.func62, Tryd.ntmps62
    go_wp2_with fail
    go_ret
    exact ⟨rfl, Below.refl _ _⟩

set_option maxHeartbeats 2000000 in
theorem alike_any : ∀ (t u : RT) (lo hi lo' hi' : Nat) (A A' : Option Addr) (cap cap' : Nat) (w : World), IsNode w lo hi t A cap → IsNode w lo' hi' u A' cap' → hi ≤ w.heap.size → hi' ≤ w.heap.size →
    Calls Tryd.prog 38 #[nodeV t A cap, nodeV u A' cap'] w fun e w' => e = .returned (.bool (same t u)) ∧ Below w.heap.size w w' := by
  intro t
  induction t using RT.ind with
  | h k a s n l ih =>
    rintro ⟨k', a', s', n', l'⟩ lo hi lo' hi' A A' cap cap' w h h' hhi hhi'
    obtain ⟨hs, hl, hm⟩ := h.bounds
    obtain ⟨hs', hl', hm'⟩ := h'.bounds
    have HL := Lib.hid (Nat.le_trans hl hm)
    have HL' := Lib.hid (Nat.le_trans hl' hm')
    have IH := Lib.hid ih
    have HN : Hid (NodesAt w lo hi A l) := Lib.hid h.sub
    have HN' : Hid (NodesAt w lo' hi' A' l') := Lib.hid h'.sub
    unfold maxLen at hm hs hm' hs'
    clear ih h h'
    rw [nodeV_node, nodeV_node, same_node]
    have hW2 : ∀ o1 o2, Below w.heap.size w ((w.alloc o1).alloc o2) := fun o1 o2 => ((Below.refl _ _).alloc (Nat.le_refl _) _).alloc (by simp) _
    have HW2 := Lib.hid hW2
    clear hW2
    by_cases hk : k = k'
    case neg =>
      rw [decide_eq_false hk, Bool.false_and]
      have t0 : (k == k') = false := by simpa using hk
      clear hk
      go_enter Tryd.func38, Tryd.ntmps38
      go_wp2_with fail
      go_ret
      exact ⟨rfl, HW2.out _ _⟩
    rw [decide_eq_true hk, Bool.true_and]
    have t0 : (k == k') = true := by simpa using hk
    by_cases hss : s = s'
    case neg =>
      rw [decide_eq_false hss, Bool.false_and]
      have t1 := ne_list hss
      clear hk hss
      go_enter Tryd.func38, Tryd.ntmps38
      go_wp2_with fail
      go_ret
      exact ⟨rfl, HW2.out _ _⟩
    rw [decide_eq_true hss, Bool.true_and]
    have t1 := eq_list hss
    by_cases hn : n = n'
    case neg =>
      rw [decide_eq_false hn, Bool.false_and]
      have t2 : (n == n') = false := by simpa using hn
      clear hk hss hn
      go_enter Tryd.func38, Tryd.ntmps38
      go_wp2_with fail
      go_ret
      exact ⟨rfl, HW2.out _ _⟩
    rw [decide_eq_true hn, Bool.true_and]
    have t2 : (n == n') = true := by simpa using hn
    clear hk hss hn
    have HE := Lib.hid (fun o1 o2 => eqf_38 same l l' A A' cap cap' lo hi lo' hi' ((w.alloc o1).alloc o2) HL.out HL'.out (HN.out.kept (HW2.out o1 o2) hhi) (HN'.out.kept (HW2.out o1 o2) hhi') (by simp; omega) (by simp; omega)
      (fun i h1 h2 lo1 hi1 lo2 hi2 F F' C C' W hW hx hy hh hh' => IH.out l[i] (List.getElem_mem h1) l'[i] lo1 hi1 lo2 hi2 F F' C C' W hx hy hh hh'))
    clear IH HN HN'
    go_enter Tryd.func38, Tryd.ntmps38
    go_wp2_with fail
    refine (HE.out _ _).mono ?_
    rintro e w1 ⟨rfl, hb⟩
    go_wp2_with fail
    go_ret
    exact ⟨rfl, (HW2.out _ _).trans (hb.mono (by simp; omega))⟩

end Go.Proofs.YtpahohbpilgdnaaDoor
