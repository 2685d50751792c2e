/- Two nodes, the same but for offsets: slices.EqualFunc over nodes, tree.alike, scholiumref04.equal. -/
import Derived.Test.YteaojmcfppbgiaaGreatDoorC8
import Derived.Deep.RegionHeld3
import Derived.Test.YteaojmcfppbgiaaGreatDoorC5
import Derived.Deep.QuietTactic
import Derived.BigQuiet
namespace Go.Proofs.YteaojmcfppbgiaaGreatDoor
open Go.RowKit
set_option linter.unusedVariables false
set_option maxRecDepth 100000

/-- Two lists, place by place. -/
def pairAt (f : RT → RT → Bool) (l l' : List RT) (i : Nat) : Bool := match l[i]?, l'[i]? with | some t, some u => f t u | _, _ => true
theorem pairAt_of (f : RT → RT → Bool) {l l' : List RT} {i : Nat} (h : i < l.length) (h' : i < l'.length) : pairAt f l l' i = f l[i] l'[i] := by
  unfold pairAt; rw [List.getElem?_eq_getElem h, List.getElem?_eq_getElem h']
def pairsB (f : RT → RT → Bool) (l l' : List RT) : Bool := decide (l.length = l'.length) && allB (pairAt f l l') l.length
theorem sameL_pairs : ∀ l l' : List RT, sameL l l' = pairsB same l l'
  | [], [] => by rw [sameL]; rfl
  | [], _ :: _ => by rw [sameL] <;> simp [pairsB]
  | _ :: _, [] => by rw [sameL] <;> simp [pairsB]
  | t :: r, u :: r' => by
    rw [sameL, sameL_pairs r r']
    unfold pairsB
    rw [List.length_cons, List.length_cons, allB_succ]
    have e : (decide (r.length + 1 = r'.length + 1)) = decide (r.length = r'.length) := by congr 1; apply propext; omega
    rw [e]
    have e0 : pairAt same (t :: r) (u :: r') 0 = same t u := rfl
    have e1 : (fun i => pairAt same (t :: r) (u :: r') (i + 1)) = pairAt same r r' := rfl
    rw [e0, e1]
    cases same t u <;> cases decide (r.length = r'.length) <;> rfl
theorem pairsB_len {f : RT → RT → Bool} {l l' : List RT} (h : ¬ l.length = l'.length) : pairsB f l l' = false := by unfold pairsB; rw [decide_eq_false h]; rfl
theorem pairsB_eq {f : RT → RT → Bool} {l l' : List RT} (h : l.length = l'.length) : pairsB f l l' = allB (pairAt f l l') l.length := by unfold pairsB; rw [decide_eq_true h]; rfl
theorem allB_no {Q : Nat → Bool} {n i : Nat} (hi : i < n) (h : Q i = false) : allB Q n = false := by
  cases e : allB Q n with
  | false => rfl
  | true => rw [allB_true.1 e i hi] at h; cases h
theorem same_node (k a : Int) (s : ByteArray) (n : Int) (l : List RT) (k' a' : Int) (s' : ByteArray) (n' : Int) (l' : List RT) :
    same (.node k a s n l) (.node k' a' s' n' l') = (decide (k = k') && (decide (s = s') && (decide (n = n') && pairsB same l l'))) := by rw [same, sameL_pairs]

/-- The test of each pair comes to f, whenever it is asked. -/
def TestNN (w : World) (g : FuncId) (f : RT → RT → Bool) (l l' : List RT) : Prop :=
  ∀ i (h : i < l.length) (h' : i < l'.length) (lo hi lo' hi' : Nat) (F F' : Option Addr) (C C' : Nat) (w' : World), Below w.heap.size w w' → IsNode w' lo hi l[i] F C → IsNode w' lo' hi' l'[i] F' C' → hi ≤ w'.heap.size → hi' ≤ w'.heap.size →
    Calls Tryz.prog g #[nodeV l[i] F C, nodeV l'[i] F' C'] w' fun e w'' => e = .returned (.bool (f l[i] l'[i])) ∧ Below w'.heap.size w' w''
theorem TestNN.kept {w w' : World} {g : FuncId} {f : RT → RT → Bool} {l l' : List RT} (h : TestNN w g f l l') (hb : Below w.heap.size w w') : TestNN w' g f l l' :=
  fun i h1 h2 lo hi lo' hi' F F' C C' W hW => h i h1 h2 lo hi lo' hi' F F' C C' W (hb.trans (hW.mono hb.size))

set_option maxHeartbeats 1000000 in
theorem eqf_38 (f : RT → RT → Bool) (l l' : List RT) (A A' : Option Addr) (cap cap' lo hi lo' hi' : Nat) (w : World) (hl : l.length ≤ maxLen) (hl' : l'.length ≤ maxLen) (hn : NodesAt w lo hi A l) (hn' : NodesAt w lo' hi' A' l') (hhi : hi ≤ w.heap.size) (hhi' : hi' ≤ w.heap.size) (ht : TestNN w 40 f l l') :
    Calls Tryz.prog 79 #[.slice A l.length cap, .slice A' l'.length cap', .func (.func 40) #[] #[]] w fun e w' => e = .returned (.bool (pairsB f l l')) ∧ Below w.heap.size w w' := by
  have HN := Lib.hid hn
  have HN' := Lib.hid hn'
  have HT := Lib.hid ht
  unfold maxLen at hl hl'
  clear hn hn' ht
  by_cases hlen : l.length = l'.length
  · rw [pairsB_eq hlen]
    have HLEN := Lib.hid hlen
    have t0 : ((l.length : Int) != (l'.length : Int)) = false := by simp; omega
    clear hlen
    go_enter Tryz.func79, Tryz.ntmps79
    go_wp2_with fail
    go_loopw [17] (fun iv wr => ∃ i : Nat, i ≤ l.length ∧ iv = .int .i64 i ∧ Below w.heap.size w wr ∧ Hid (allB (pairAt f l l') i = true)) (fun iv _ => l.length - (intOf iv).toNat)
    case atStart => exact ⟨0, Nat.zero_le _, rfl, Below.refl _ _, Lib.hid rfl⟩
    case round =>
      obtain ⟨i, hi1, rfl, hB, HQ⟩ := hrel
      have hz := hB.size
      by_cases hil : i < l.length
      · have hil' : i < l'.length := by have := HLEN.out; omega
        obtain ⟨b, o, F, C, rfl, hb1, hb2, hx, hnode⟩ := (HN.out i hil).kept hB hhi
        obtain ⟨x0, x1, x2, x3, x4⟩ := hx
        obtain ⟨b', o', F', C', rfl, hb1', hb2', hx', hnode'⟩ := (HN'.out i hil').kept hB hhi'
        obtain ⟨y0, y1, y2, y3, y4⟩ := hx'
        have hlt : b < wr.heap.size := by omega
        have hlt' : b' < wr.heap.size := by omega
        have HR := Lib.hid (HT.out i hil hil' lo hi lo' hi' F F' C C')
        have hall : Hid (allB (pairAt f l l') (i + 1) = f l[i] l'[i]) := Lib.hid (by rw [allB, HQ.out, Bool.true_and, pairAt_of f hil hil'])
        have hno : Hid (f l[i] l'[i] = false → allB (pairAt f l l') l.length = false) := Lib.hid (fun h => allB_no hil (by rw [pairAt_of f hil hil']; exact h))
        obtain ⟨v, hv⟩ : ∃ v, f l[i] l'[i] = v := ⟨_, rfl⟩
        rw [hv] at HR hall hno
        clear hv HT HN HN'
        have hi0' : (i : Int) < (l.length : Int) := by omega
        have hi0'' : (i : Int) < (l'.length : Int) := by omega
        go_wp2_with fail
        refine (HR.out _ ((hB.alloc hz _).alloc (by simp; omega) _) ((hnode.alloc (by omega) _).alloc (by simp; omega) _) ((hnode'.alloc (by omega) _).alloc (by simp; omega) _) (by simp; omega) (by simp; omega)).mono ?_
        rintro e w1 ⟨rfl, hb⟩
        have HB1 := Lib.hid (((hB.alloc hz _).alloc (by simp; omega) _).trans (hb.mono (by simp; omega)))
        clear hb
        cases v with
        | true =>
          go_wp2_with fail
          go_roundw
          case rel => exact ⟨i + 1, by omega, rfl, HB1.out, hall⟩
          case measure => simp [intOf]; omega
        | false =>
          have HN2 := Lib.hid (hno.out rfl)
          clear hno
          go_wp2_with fail
          go_ret
          exact ⟨by rw [HN2.out]; rfl, HB1.out⟩
      · obtain rfl : i = l.length := by omega
        clear HT HN HN'
        go_wp2_with fail
        go_ret
        exact ⟨by rw [HQ.out]; rfl, hB⟩
  · rw [pairsB_len hlen]
    have t0 : ((l.length : Int) != (l'.length : Int)) = true := by simp; omega
    clear hlen HT HN HN'
    go_enter Tryz.func79, Tryz.ntmps79
    go_wp2_with fail
    go_ret
    exact ⟨rfl, Below.refl _ _⟩

set_option maxHeartbeats 1000000 in
theorem eqf_19 (f : RT → RT → Bool) (l l' : List RT) (A A' : Option Addr) (cap cap' lo hi lo' hi' : Nat) (w : World) (hl : l.length ≤ maxLen) (hl' : l'.length ≤ maxLen) (hn : NodesAt w lo hi A l) (hn' : NodesAt w lo' hi' A' l') (hhi : hi ≤ w.heap.size) (hhi' : hi' ≤ w.heap.size) (ht : TestNN w 14 f l l') :
    Calls Tryz.prog 79 #[.slice A l.length cap, .slice A' l'.length cap', .func (.func 14) #[] #[]] w fun e w' => e = .returned (.bool (pairsB f l l')) ∧ Below w.heap.size w w' := by
  have HN := Lib.hid hn
  have HN' := Lib.hid hn'
  have HT := Lib.hid ht
  unfold maxLen at hl hl'
  clear hn hn' ht
  by_cases hlen : l.length = l'.length
  · rw [pairsB_eq hlen]
    have HLEN := Lib.hid hlen
    have t0 : ((l.length : Int) != (l'.length : Int)) = false := by simp; omega
    clear hlen
    go_enter Tryz.func79, Tryz.ntmps79
    go_wp2_with fail
    go_loopw [17] (fun iv wr => ∃ i : Nat, i ≤ l.length ∧ iv = .int .i64 i ∧ Below w.heap.size w wr ∧ Hid (allB (pairAt f l l') i = true)) (fun iv _ => l.length - (intOf iv).toNat)
    case atStart => exact ⟨0, Nat.zero_le _, rfl, Below.refl _ _, Lib.hid rfl⟩
    case round =>
      obtain ⟨i, hi1, rfl, hB, HQ⟩ := hrel
      have hz := hB.size
      by_cases hil : i < l.length
      · have hil' : i < l'.length := by have := HLEN.out; omega
        obtain ⟨b, o, F, C, rfl, hb1, hb2, hx, hnode⟩ := (HN.out i hil).kept hB hhi
        obtain ⟨x0, x1, x2, x3, x4⟩ := hx
        obtain ⟨b', o', F', C', rfl, hb1', hb2', hx', hnode'⟩ := (HN'.out i hil').kept hB hhi'
        obtain ⟨y0, y1, y2, y3, y4⟩ := hx'
        have hlt : b < wr.heap.size := by omega
        have hlt' : b' < wr.heap.size := by omega
        have HR := Lib.hid (HT.out i hil hil' lo hi lo' hi' F F' C C')
        have hall : Hid (allB (pairAt f l l') (i + 1) = f l[i] l'[i]) := Lib.hid (by rw [allB, HQ.out, Bool.true_and, pairAt_of f hil hil'])
        have hno : Hid (f l[i] l'[i] = false → allB (pairAt f l l') l.length = false) := Lib.hid (fun h => allB_no hil (by rw [pairAt_of f hil hil']; exact h))
        obtain ⟨v, hv⟩ : ∃ v, f l[i] l'[i] = v := ⟨_, rfl⟩
        rw [hv] at HR hall hno
        clear hv HT HN HN'
        have hi0' : (i : Int) < (l.length : Int) := by omega
        have hi0'' : (i : Int) < (l'.length : Int) := by omega
        go_wp2_with fail
        refine (HR.out _ ((hB.alloc hz _).alloc (by simp; omega) _) ((hnode.alloc (by omega) _).alloc (by simp; omega) _) ((hnode'.alloc (by omega) _).alloc (by simp; omega) _) (by simp; omega) (by simp; omega)).mono ?_
        rintro e w1 ⟨rfl, hb⟩
        have HB1 := Lib.hid (((hB.alloc hz _).alloc (by simp; omega) _).trans (hb.mono (by simp; omega)))
        clear hb
        cases v with
        | true =>
          go_wp2_with fail
          go_roundw
          case rel => exact ⟨i + 1, by omega, rfl, HB1.out, hall⟩
          case measure => simp [intOf]; omega
        | false =>
          have HN2 := Lib.hid (hno.out rfl)
          clear hno
          go_wp2_with fail
          go_ret
          exact ⟨by rw [HN2.out]; rfl, HB1.out⟩
      · obtain rfl : i = l.length := by omega
        clear HT HN HN'
        go_wp2_with fail
        go_ret
        exact ⟨by rw [HQ.out]; rfl, hB⟩
  · rw [pairsB_len hlen]
    have t0 : ((l.length : Int) != (l'.length : Int)) = true := by simp; omega
    clear hlen HT HN HN'
    go_enter Tryz.func79, Tryz.ntmps79
    go_wp2_with fail
    go_ret
    exact ⟨rfl, Below.refl _ _⟩

set_option maxHeartbeats 2000000 in
theorem alike_any : ∀ (t u : RT) (lo hi lo' hi' : Nat) (A A' : Option Addr) (cap cap' : Nat) (w : World), IsNode w lo hi t A cap → IsNode w lo' hi' u A' cap' → hi ≤ w.heap.size → hi' ≤ w.heap.size →
    Calls Tryz.prog 40 #[nodeV t A cap, nodeV u A' cap'] w fun e w' => e = .returned (.bool (same t u)) ∧ Below w.heap.size w w' := by
  intro t
  induction t using RT.ind with
  | h k a s n l ih =>
    rintro ⟨k', a', s', n', l'⟩ lo hi lo' hi' A A' cap cap' w h h' hhi hhi'
    obtain ⟨hs, hl, hm⟩ := h.bounds
    obtain ⟨hs', hl', hm'⟩ := h'.bounds
    have HL := Lib.hid (Nat.le_trans hl hm)
    have HL' := Lib.hid (Nat.le_trans hl' hm')
    have IH := Lib.hid ih
    have HN : Hid (NodesAt w lo hi A l) := Lib.hid h.sub
    have HN' : Hid (NodesAt w lo' hi' A' l') := Lib.hid h'.sub
    unfold maxLen at hm hs hm' hs'
    clear ih h h'
    rw [nodeV_node, nodeV_node, same_node]
    have hW2 : ∀ o1 o2, Below w.heap.size w ((w.alloc o1).alloc o2) := fun o1 o2 => ((Below.refl _ _).alloc (Nat.le_refl _) _).alloc (by simp) _
    have HW2 := Lib.hid hW2
    clear hW2
    by_cases hk : k = k'
    case neg =>
      rw [decide_eq_false hk, Bool.false_and]
      have t0 : (k == k') = false := by simpa using hk
      clear hk
      go_enter Tryz.func40, Tryz.ntmps40
      go_wp2_with fail
      go_ret
      exact ⟨rfl, HW2.out _ _⟩
    rw [decide_eq_true hk, Bool.true_and]
    have t0 : (k == k') = true := by simpa using hk
    by_cases hss : s = s'
    case neg =>
      rw [decide_eq_false hss, Bool.false_and]
      have t1 := ne_list hss
      clear hk hss
      go_enter Tryz.func40, Tryz.ntmps40
      go_wp2_with fail
      go_ret
      exact ⟨rfl, HW2.out _ _⟩
    rw [decide_eq_true hss, Bool.true_and]
    have t1 := eq_list hss
    by_cases hn : n = n'
    case neg =>
      rw [decide_eq_false hn, Bool.false_and]
      have t2 : (n == n') = false := by simpa using hn
      clear hk hss hn
      go_enter Tryz.func40, Tryz.ntmps40
      go_wp2_with fail
      go_ret
      exact ⟨rfl, HW2.out _ _⟩
    rw [decide_eq_true hn, Bool.true_and]
    have t2 : (n == n') = true := by simpa using hn
    clear hk hss hn
    have HE := Lib.hid (fun o1 o2 => eqf_38 same l l' A A' cap cap' lo hi lo' hi' ((w.alloc o1).alloc o2) HL.out HL'.out (HN.out.kept (HW2.out o1 o2) hhi) (HN'.out.kept (HW2.out o1 o2) hhi') (by simp; omega) (by simp; omega)
      (fun i h1 h2 lo1 hi1 lo2 hi2 F F' C C' W hW hx hy hh hh' => IH.out l[i] (List.getElem_mem h1) l'[i] lo1 hi1 lo2 hi2 F F' C C' W hx hy hh hh'))
    clear IH HN HN'
    go_enter Tryz.func40, Tryz.ntmps40
    go_wp2_with fail
    refine (HE.out _ _).mono ?_
    rintro e w1 ⟨rfl, hb⟩
    go_wp2_with fail
    go_ret
    exact ⟨rfl, (HW2.out _ _).trans (hb.mono (by simp; omega))⟩

end Go.Proofs.YteaojmcfppbgiaaGreatDoor

/- scholiumref04.equal, scholiumref04.Same, tree.Same. -/
namespace Go.Proofs.YteaojmcfppbgiaaGreatDoor
open Go.RowKit
set_option linter.unusedVariables false
set_option maxRecDepth 100000

/-- Are two nodes told to be the same? -/
def sameB (t u : RT) : Bool := fitB t && (fitB u && same t u)

theorem tSame_any (t u : RT) (lo hi lo' hi' : Nat) (A A' : Option Addr) (cap cap' : Nat) (w : World) (h : IsNode w lo hi t A cap) (h' : IsNode w lo' hi' u A' cap') (hhi : hi ≤ w.heap.size) (hhi' : hi' ≤ w.heap.size) :
    Calls Tryz.prog 14 #[nodeV t A cap, nodeV u A' cap'] w fun e w' => e = .returned (.bool (sameB t u)) ∧ Below w.heap.size w w' := by
  have hf := fits_any t lo hi A cap
  have hf' := fits_any u lo' hi' A' cap'
  have HA := Lib.hid (alike_any t u lo hi lo' hi' A A' cap cap')
  unfold sameB
  obtain ⟨r, hr⟩ : ∃ r, same t u = r := ⟨_, rfl⟩
  obtain ⟨x, hx⟩ : ∃ x, fitB t = x := ⟨_, rfl⟩
  obtain ⟨y, hy⟩ : ∃ y, fitB u = y := ⟨_, rfl⟩
  rw [hr] at HA ⊢
  rw [hx] at hf ⊢
  rw [hy] at hf' ⊢
  have HF := Lib.hid hf
  have HF' := Lib.hid hf'
  clear hr hx hy hf hf'
  unfold nodeV at HA HF HF' ⊢
  have hW2 : ∀ o1 o2, Below w.heap.size w ((w.alloc o1).alloc o2) := fun o1 o2 => ((Below.refl _ _).alloc (Nat.le_refl _) _).alloc (by simp) _
  have HW2 := Lib.hid hW2
  have HH := Lib.hid (fun o1 o2 => h.kept (hW2 o1 o2) hhi)
  have HH' := Lib.hid (fun o1 o2 => h'.kept (hW2 o1 o2) hhi')
  clear hW2
  cases x with
  | false =>
    go_enter Tryz.func14, Tryz.ntmps14
    go_wp2_with fail
    refine (HF.out _ (HH.out _ _) (by simp; omega)).mono ?_
    rintro e w1 ⟨rfl, hb⟩
    go_wp2_with fail
    go_ret
    exact ⟨rfl, (HW2.out _ _).trans (hb.mono (by simp; omega))⟩
  | true =>
    go_enter Tryz.func14, Tryz.ntmps14
    go_wp2_with fail
    refine (HF.out _ (HH.out _ _) (by simp; omega)).mono ?_
    rintro e w1 ⟨rfl, hb⟩
    have hz1 := hb.size
    simp at hz1
    have hcell := fun p hp => hb.cell (p := p) hp
    have HB1 := Lib.hid ((HW2.out _ _).trans (hb.mono (by simp; omega)))
    have HN1 := Lib.hid ((HH.out _ _).kept hb (by simp; omega))
    have HN1' := Lib.hid ((HH'.out _ _).kept hb (by simp; omega))
    clear hb
    cases y with
    | false =>
      go_wp2_with fail
      refine (HF'.out _ HN1'.out (by omega)).mono ?_
      rintro e w2 ⟨rfl, hb2⟩
      go_wp2_with fail
      go_ret
      exact ⟨rfl, HB1.out.trans (hb2.mono (by omega))⟩
    | true =>
      go_wp2_with fail
      refine (HF'.out _ HN1'.out (by omega)).mono ?_
      rintro e w2 ⟨rfl, hb2⟩
      have hz2 := hb2.size
      have hcell2 := fun p hp => hb2.cell (p := p) hp
      have hq1 : w.heap.size < w1.heap.size := by omega
      have hq2 : w.heap.size + 1 < w1.heap.size := by omega
      have HB2 := Lib.hid (HB1.out.trans (hb2.mono (by omega)))
      have HN2 := Lib.hid (HN1.out.kept hb2 (by omega))
      have HN2' := Lib.hid (HN1'.out.kept hb2 (by omega))
      clear hb2
      go_wp2_with fail
      refine (HA.out _ HN2.out HN2'.out (by omega) (by omega)).mono ?_
      rintro e w3 ⟨rfl, hb3⟩
      go_wp2_with fail
      go_ret
      exact ⟨by simp, HB2.out.trans (hb3.mono (by omega))⟩

end Go.Proofs.YteaojmcfppbgiaaGreatDoor

/- Bindings, rows, declarations, as plain data; how they lie in memory (tree's and scholiumref04's alike). No program. -/
namespace Go.Proofs.YteaojmcfppbgiaaGreatDoor
open Go.RowKit
set_option linter.unusedVariables false
set_option maxRecDepth 100000

/-- A binding: its name, its offset, its type. -/
structure BT where
  s : ByteArray
  a : Int
  t : RT
/-- A row: its offset, its patterns, whether it has a body, its body. -/
structure CT where
  a : Int
  ps : List RT
  h : Bool
  t : RT
/-- A declaration. -/
structure DT where
  k : Int
  a : Int
  s : ByteArray
  te : List BT
  t : RT
  co : List BT
  ro : List CT

def bindV (x : BT) (F : Option Addr) (C : Nat) : Value := .agg #[.string x.s, .int .i64 x.a, .int .i64 x.t.k, .int .i64 x.t.a, .string x.t.s, .int .i64 x.t.n, .slice F x.t.l.length C]
structure CellsB (w : World) (b o : Nat) (x : BT) (F : Option Addr) (C : Nat) : Prop where
  c0 : w.cell? ⟨b, o, none⟩ = some (.string x.s)
  c1 : w.cell? ⟨b, o + 1, none⟩ = some (.int .i64 x.a)
  c2 : w.cell? ⟨b, o + 2, none⟩ = some (.int .i64 x.t.k)
  c3 : w.cell? ⟨b, o + 3, none⟩ = some (.int .i64 x.t.a)
  c4 : w.cell? ⟨b, o + 4, none⟩ = some (.string x.t.s)
  c5 : w.cell? ⟨b, o + 5, none⟩ = some (.int .i64 x.t.n)
  c6 : w.cell? ⟨b, o + 6, none⟩ = some (.slice F x.t.l.length C)
/-- What is behind a binding. -/
structure IsBind (w : World) (lo hi : Nat) (x : BT) (F : Option Addr) (C : Nat) : Prop where
  hs : x.s.size ≤ maxLen
  hn : IsNode w lo hi x.t F C
def rowV (x : CT) (A : Option Addr) (c : Nat) (F : Option Addr) (C : Nat) : Value := .agg #[.int .i64 x.a, .slice A x.ps.length c, .bool x.h, .int .i64 x.t.k, .int .i64 x.t.a, .string x.t.s, .int .i64 x.t.n, .slice F x.t.l.length C]
structure CellsR (w : World) (b o : Nat) (x : CT) (A : Option Addr) (c : Nat) (F : Option Addr) (C : Nat) : Prop where
  c0 : w.cell? ⟨b, o, none⟩ = some (.int .i64 x.a)
  c1 : w.cell? ⟨b, o + 1, none⟩ = some (.slice A x.ps.length c)
  c2 : w.cell? ⟨b, o + 2, none⟩ = some (.bool x.h)
  c3 : w.cell? ⟨b, o + 3, none⟩ = some (.int .i64 x.t.k)
  c4 : w.cell? ⟨b, o + 4, none⟩ = some (.int .i64 x.t.a)
  c5 : w.cell? ⟨b, o + 5, none⟩ = some (.string x.t.s)
  c6 : w.cell? ⟨b, o + 6, none⟩ = some (.int .i64 x.t.n)
  c7 : w.cell? ⟨b, o + 7, none⟩ = some (.slice F x.t.l.length C)
structure IsRow (w : World) (lo hi : Nat) (x : CT) (A : Option Addr) (c : Nat) (F : Option Addr) (C : Nat) : Prop where
  hl : x.ps.length ≤ c
  hc : c ≤ maxLen
  hp : NodesAt w lo hi A x.ps
  hn : IsNode w lo hi x.t F C
theorem IsBind.kept {w w' : World} {lo hi B : Nat} {x : BT} {F : Option Addr} {C : Nat} (h : IsBind w lo hi x F C) (hb : Below B w w') (hB : hi ≤ B) : IsBind w' lo hi x F C := ⟨h.hs, h.hn.kept hb hB⟩
theorem IsRow.kept {w w' : World} {lo hi B : Nat} {x : CT} {A : Option Addr} {c : Nat} {F : Option Addr} {C : Nat} (h : IsRow w lo hi x A c F C) (hb : Below B w w') (hB : hi ≤ B) : IsRow w' lo hi x A c F C := ⟨h.hl, h.hc, h.hp.kept hb hB, h.hn.kept hb hB⟩
theorem IsBind.alloc {w : World} {lo hi : Nat} {x : BT} {F : Option Addr} {C : Nat} (h : IsBind w lo hi x F C) (hB : hi ≤ w.heap.size) (o : Obj) : IsBind (w.alloc o) lo hi x F C := h.kept ((Below.refl hi w).alloc hB o) (Nat.le_refl _)
theorem IsRow.alloc {w : World} {lo hi : Nat} {x : CT} {A : Option Addr} {c : Nat} {F : Option Addr} {C : Nat} (h : IsRow w lo hi x A c F C) (hB : hi ≤ w.heap.size) (o : Obj) : IsRow (w.alloc o) lo hi x A c F C := h.kept ((Below.refl hi w).alloc hB o) (Nat.le_refl _)
theorem CellsB.kept {w w' : World} {b o B : Nat} {x : BT} {F : Option Addr} {C : Nat} (h : CellsB w b o x F C) (hb : Below B w w') (hB : b < B) : CellsB w' b o x F C := by
  have e : ∀ q, w'.cell? ⟨b, q, none⟩ = w.cell? ⟨b, q, none⟩ := fun q => hb.cell (p := ⟨b, q, none⟩) hB
  obtain ⟨x0, x1, x2, x3, x4, x5, x6⟩ := h
  exact ⟨by rw [e, x0], by rw [e, x1], by rw [e, x2], by rw [e, x3], by rw [e, x4], by rw [e, x5], by rw [e, x6]⟩
theorem CellsR.kept {w w' : World} {b o B : Nat} {x : CT} {A : Option Addr} {c : Nat} {F : Option Addr} {C : Nat} (h : CellsR w b o x A c F C) (hb : Below B w w') (hB : b < B) : CellsR w' b o x A c F C := by
  have e : ∀ q, w'.cell? ⟨b, q, none⟩ = w.cell? ⟨b, q, none⟩ := fun q => hb.cell (p := ⟨b, q, none⟩) hB
  obtain ⟨x0, x1, x2, x3, x4, x5, x6, x7⟩ := h
  exact ⟨by rw [e, x0], by rw [e, x1], by rw [e, x2], by rw [e, x3], by rw [e, x4], by rw [e, x5], by rw [e, x6], by rw [e, x7]⟩
def BindAt (w : World) (lo hi : Nat) (A : Option Addr) (l : List BT) (i : Nat) (h : i < l.length) : Prop :=
  ∃ b o F C, A = some ⟨b, o, none⟩ ∧ lo ≤ b ∧ b < hi ∧ CellsB w b (o + i * 7) l[i] F C ∧ IsBind w lo hi l[i] F C
def RowAt (w : World) (lo hi : Nat) (A : Option Addr) (l : List CT) (i : Nat) (h : i < l.length) : Prop :=
  ∃ b o A' c F C, A = some ⟨b, o, none⟩ ∧ lo ≤ b ∧ b < hi ∧ CellsR w b (o + i * 8) l[i] A' c F C ∧ IsRow w lo hi l[i] A' c F C
def BindsAt (w : World) (lo hi : Nat) (A : Option Addr) (l : List BT) : Prop := ∀ i (h : i < l.length), BindAt w lo hi A l i h
def RowsAt (w : World) (lo hi : Nat) (A : Option Addr) (l : List CT) : Prop := ∀ i (h : i < l.length), RowAt w lo hi A l i h
theorem BindAt.kept {w w' : World} {lo hi B : Nat} {A : Option Addr} {l : List BT} {i : Nat} {h : i < l.length} (hx : BindAt w lo hi A l i h) (hb : Below B w w') (hB : hi ≤ B) : BindAt w' lo hi A l i h := by
  obtain ⟨b, o, F, C, hA, h1, h2, h3, h4⟩ := hx
  exact ⟨b, o, F, C, hA, h1, h2, h3.kept hb (by omega), h4.kept hb hB⟩
theorem RowAt.kept {w w' : World} {lo hi B : Nat} {A : Option Addr} {l : List CT} {i : Nat} {h : i < l.length} (hx : RowAt w lo hi A l i h) (hb : Below B w w') (hB : hi ≤ B) : RowAt w' lo hi A l i h := by
  obtain ⟨b, o, A', c, F, C, hA, h1, h2, h3, h4⟩ := hx
  exact ⟨b, o, A', c, F, C, hA, h1, h2, h3.kept hb (by omega), h4.kept hb hB⟩
theorem BindsAt.kept {w w' : World} {lo hi B : Nat} {A : Option Addr} {l : List BT} (h : BindsAt w lo hi A l) (hb : Below B w w') (hB : hi ≤ B) : BindsAt w' lo hi A l := fun i hi' => (h i hi').kept hb hB
theorem RowsAt.kept {w w' : World} {lo hi B : Nat} {A : Option Addr} {l : List CT} (h : RowsAt w lo hi A l) (hb : Below B w w') (hB : hi ≤ B) : RowsAt w' lo hi A l := fun i hi' => (h i hi').kept hb hB

/-- What they come to. -/
noncomputable def exprB (t : RT) : Bool := fitB t && goodB t false
noncomputable def patB (t : RT) : Bool := fitB t && goodB t true
def zeroB (t : RT) : Bool := decide (t.k = 0) && (decide (t.a = 0) && (noneB t.s && (decide (t.n = 0) && decide (t.l.length = 0))))
noncomputable def bindB (x : BT) : Bool := nmB x.s && exprB x.t
noncomputable def patsB (l : List RT) : Bool := allB (fun i => (l[i]?.map patB).getD true) l.length
noncomputable def bindsB (l : List BT) : Bool := allB (fun i => (l[i]?.map bindB).getD true) l.length
noncomputable def rowB (x : CT) : Bool := decide (x.ps.length ≤ 24) && (patsB x.ps && if x.h then exprB x.t else zeroB x.t)
noncomputable def rowsB (l : List CT) : Bool := allB (fun i => (l[i]?.map rowB).getD true) l.length
def sameBd (x y : BT) : Bool := decide (x.s = y.s) && sameB x.t y.t
def sameRw (x y : CT) : Bool := (x.h == y.h) && (pairsB sameB x.ps y.ps && sameB x.t y.t)
def pairAtX {α : Type} (f : α → α → Bool) (l l' : List α) (i : Nat) : Bool := match l[i]?, l'[i]? with | some t, some u => f t u | _, _ => true
theorem pairAtX_of {α : Type} (f : α → α → Bool) {l l' : List α} {i : Nat} (h : i < l.length) (h' : i < l'.length) : pairAtX f l l' i = f l[i] l'[i] := by
  unfold pairAtX; rw [List.getElem?_eq_getElem h, List.getElem?_eq_getElem h']
def pairsX {α : Type} (f : α → α → Bool) (l l' : List α) : Bool := decide (l.length = l'.length) && allB (pairAtX f l l') l.length
theorem pairsX_len {α : Type} {f : α → α → Bool} {l l' : List α} (h : ¬ l.length = l'.length) : pairsX f l l' = false := by unfold pairsX; rw [decide_eq_false h]; rfl
theorem pairsX_eq {α : Type} {f : α → α → Bool} {l l' : List α} (h : l.length = l'.length) : pairsX f l l' = allB (pairAtX f l l') l.length := by unfold pairsX; rw [decide_eq_true h]; rfl
theorem mapAt {α : Type} (f : α → Bool) {l : List α} {i : Nat} (h : i < l.length) : (l[i]?.map f).getD true = f l[i] := by rw [List.getElem?_eq_getElem h]; rfl

end Go.Proofs.YteaojmcfppbgiaaGreatDoor
