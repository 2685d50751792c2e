/- A declaration's value; how it lies. -/
import Derived.Test.YteaojmcfppbgiaaGreatDoorC6
import Derived.Test.YteaojmcfppbgiaaGreatDoorB1
import Derived.Test.YteaojmcfppbgiaaGreatDoorC8
namespace Go.Proofs.YteaojmcfppbgiaaGreatDoor
open Go.RowKit
set_option linter.unusedVariables false
set_option maxRecDepth 100000

/-- Where a declaration's lists lie. -/
structure DP where
  A : Option Addr
  a : Nat
  F : Option Addr
  C : Nat
  B : Option Addr
  b : Nat
  D : Option Addr
  d : Nat
def declV (x : DT) (p : DP) : Value := .agg #[.int .i64 x.k, .int .i64 x.a, .string x.s, .slice p.A x.te.length p.a, .int .i64 x.t.k, .int .i64 x.t.a, .string x.t.s, .int .i64 x.t.n, .slice p.F x.t.l.length p.C, .slice p.B x.co.length p.b, .slice p.D x.ro.length p.d]
structure IsDecl (w : World) (lo hi : Nat) (x : DT) (p : DP) : Prop where
  hs : x.s.size ≤ maxLen
  la : x.te.length ≤ p.a
  ma : p.a ≤ maxLen
  lb : x.co.length ≤ p.b
  mb : p.b ≤ maxLen
  ld : x.ro.length ≤ p.d
  md : p.d ≤ maxLen
  te : BindsAt w lo hi p.A x.te
  t : IsNode w lo hi x.t p.F p.C
  co : BindsAt w lo hi p.B x.co
  ro : RowsAt w lo hi p.D x.ro
theorem IsDecl.kept {w w' : World} {lo hi B : Nat} {x : DT} {p : DP} (h : IsDecl w lo hi x p) (hb : Below B w w') (hB : hi ≤ B) : IsDecl w' lo hi x p :=
  ⟨h.hs, h.la, h.ma, h.lb, h.mb, h.ld, h.md, h.te.kept hb hB, h.t.kept hb hB, h.co.kept hb hB, h.ro.kept hb hB⟩

/-- The table of rooms. -/
def roomT : List (List Int) := [[0, 0, 0], [24, 16, 0], [24, 16, 0], [0, 0, 32]]
def rm (i j : Nat) : Int := (roomT.getD i []).getD j 0
def Rooms (w : World) : Prop := ∀ i j, i < 4 → j < 3 → w.cell? ⟨0, i * 3 + j, none⟩ = some (.int .i64 (rm i j))

/-- What is right; what is the same. -/
def roomB (k : Int) (x y z : Nat) : Bool := if k = 3 then decide (x ≤ 0) && (decide (y ≤ 0) && decide (z ≤ 32)) else decide (x ≤ 24) && (decide (y ≤ 16) && decide (z ≤ 0))
noncomputable def declB (x : DT) : Bool :=
  decide (1 ≤ x.k) && (decide (x.k ≤ 3) && (nmB x.s && (roomB x.k x.te.length x.co.length x.ro.length && (bindsB x.te && (exprB x.t && (bindsB x.co && rowsB x.ro))))))
end Go.Proofs.YteaojmcfppbgiaaGreatDoor

/- slices.EqualFunc over bindings and over rows. -/
namespace Go.Proofs.YteaojmcfppbgiaaGreatDoor
open Go.RowKit
set_option linter.unusedVariables false
set_option maxRecDepth 100000

/-- The test of each pair comes to f, whenever it is asked. -/
def TestBB (w : World) (g : FuncId) (f : BT → BT → Bool) (l l' : List BT) : Prop :=
  ∀ i (h : i < l.length) (h' : i < l'.length) (lo hi lo' hi' : Nat) (F F' : Option Addr) (C C' : Nat) (w' : World), Below w.heap.size w w' → IsBind w' lo hi l[i] F C → IsBind w' lo' hi' l'[i] F' C' → hi ≤ w'.heap.size → hi' ≤ w'.heap.size →
    Calls Tryz.prog g #[bindV l[i] F C, bindV l'[i] F' C'] w' fun e w'' => e = .returned (.bool (f l[i] l'[i])) ∧ Below w'.heap.size w' w''
theorem TestBB.kept {w w' : World} {g : FuncId} {f : BT → BT → Bool} {l l' : List BT} (h : TestBB w g f l l') (hb : Below w.heap.size w w') : TestBB w' g f l l' :=
  fun i h1 h2 lo hi lo' hi' F F' C C' W hW => h i h1 h2 lo hi lo' hi' F F' C C' W (hb.trans (hW.mono hb.size))

/-- The test of each pair comes to f, whenever it is asked. -/
def TestRR (w : World) (g : FuncId) (f : CT → CT → Bool) (l l' : List CT) : Prop :=
  ∀ i (h : i < l.length) (h' : i < l'.length) (lo hi lo' hi' : Nat) (D D' : Option Addr) (c c' : Nat) (F F' : Option Addr) (C C' : Nat) (w' : World), Below w.heap.size w w' → IsRow w' lo hi l[i] D c F C → IsRow w' lo' hi' l'[i] D' c' F' C' → hi ≤ w'.heap.size → hi' ≤ w'.heap.size →
    Calls Tryz.prog g #[rowV l[i] D c F C, rowV l'[i] D' c' F' C'] w' fun e w'' => e = .returned (.bool (f l[i] l'[i])) ∧ Below w'.heap.size w' w''
theorem TestRR.kept {w w' : World} {g : FuncId} {f : CT → CT → Bool} {l l' : List CT} (h : TestRR w g f l l') (hb : Below w.heap.size w w') : TestRR w' g f l l' :=
  fun i h1 h2 lo hi lo' hi' D D' c c' F F' C C' W hW => h i h1 h2 lo hi lo' hi' D D' c c' F F' C C' W (hb.trans (hW.mono hb.size))

end Go.Proofs.YteaojmcfppbgiaaGreatDoor

/- tree.rightBind, tree.zero, tree.sameBind. -/
namespace Go.Proofs.YteaojmcfppbgiaaGreatDoor
open Go.RowKit
set_option linter.unusedVariables false
set_option maxRecDepth 100000

theorem rightBind_any (x : BT) (lo hi : Nat) (F : Option Addr) (C : Nat) (w : World) (h : IsBind w lo hi x F C) (hhi : hi ≤ w.heap.size) (hS : Shapes w) :
    Calls Tryz.prog 57 #[bindV x F C] w fun e w' => e = .returned (.bool (bindB x)) ∧ Below w.heap.size w w' := by
  obtain ⟨hs, hn⟩ := h
  unfold maxLen at hs
  have HR := Lib.hid (fun W => nameRight_any x.s W hs)
  have HE := Lib.hid (fun W h1 h2 h3 => expr_any x.t lo hi F C W h1 h2 h3)
  unfold bindB exprB
  obtain ⟨r, hr⟩ : ∃ r, (fitB x.t && goodB x.t false) = r := ⟨_, rfl⟩
  rw [hr] at HE ⊢
  clear hs hr
  unfold nodeV at HE
  unfold bindV
  have HN := Lib.hid (fun o => hn.alloc hhi o)
  have HS := Lib.hid hS
  clear hn hS
  cases hq : nmB x.s with
  | false =>
    rw [hq] at HR
    clear hq HE
    go_enter Tryz.func57, Tryz.ntmps57
    go_wp2_with fail
    refine (HR.out _).mono ?_
    rintro e w1 ⟨rfl, hb1⟩
    go_wp2_with fail
    go_ret
    exact ⟨rfl, ((Below.refl _ _).alloc (Nat.le_refl _) _).trans (hb1.mono (by simp))⟩
  | true =>
    rw [hq] at HR
    rw [Bool.true_and]
    clear hq
    go_enter Tryz.func57, Tryz.ntmps57
    go_wp2_with fail
    refine (HR.out _).mono ?_
    rintro e w1 ⟨rfl, hb1⟩
    have hz1 := hb1.size
    simp at hz1
    have hB1 := ((Below.refl _ _).alloc (Nat.le_refl _) _).trans (hb1.mono (by simp))
    have hcell := fun p hp => hb1.cell (p := p) hp
    go_wp2_with fail
    refine (HE.out _ ((HN.out _).kept hb1 (by simp; omega)) (by omega) (HS.out.below hB1)).mono ?_
    rintro e w2 ⟨rfl, hb2⟩
    go_wp2_with fail
    go_ret
    exact ⟨rfl, hB1.trans (hb2.mono (by omega))⟩

theorem zero_any (t : RT) (F : Option Addr) (C : Nat) (w : World) :
    Calls Tryz.prog 97 #[nodeV t F C] w fun e w' => e = .returned (.bool (zeroB t)) ∧ Below w.heap.size w w' := by
  obtain ⟨k, a, s, n, l⟩ := t
  rw [nodeV_node]
  show Calls _ _ _ _ fun e w' => e = .returned (.bool (decide (k = 0) && (decide (a = 0) && (noneB s && (decide (n = 0) && decide (l.length = 0)))))) ∧ _
  obtain ⟨b0, h0⟩ : ∃ b, decide (k = 0) = b := ⟨_, rfl⟩
  obtain ⟨b1, h1⟩ : ∃ b, decide (a = 0) = b := ⟨_, rfl⟩
  obtain ⟨b2, h2⟩ : ∃ b, noneB s = b := ⟨_, rfl⟩
  obtain ⟨b3, h3⟩ : ∃ b, decide (n = 0) = b := ⟨_, rfl⟩
  obtain ⟨b4, h4⟩ : ∃ b, decide (l.length = 0) = b := ⟨_, rfl⟩
  have t0 : (k == 0) = b0 := by rw [← h0]; rfl
  have t1 : (a == 0) = b1 := by rw [← h1]; rfl
  have t2 : (s.toList == []) = b2 := h2
  have t3 : (n == 0) = b3 := by rw [← h3]; rfl
  have t4 : ((l.length : Int) == 0) = b4 := by rw [← h4]; show decide ((l.length : Int) = 0) = _; congr 1; apply propext; omega
  rw [h0, h1, h2, h3, h4]
  clear h0 h1 h2 h3 h4
  cases b0 <;> cases b1 <;> cases b2 <;> cases b3
  all_goals
    go_enter Tryz.func97, Tryz.ntmps97
    go_wp2_with fail
    go_ret
    exact ⟨by simp, (Below.refl _ _).alloc (Nat.le_refl _) _⟩

end Go.Proofs.YteaojmcfppbgiaaGreatDoor

/- slices.IndexFunc, slices.ContainsFunc, tree.all over bindings and over rows. -/
namespace Go.Proofs.YteaojmcfppbgiaaGreatDoor
open Go.RowKit
set_option linter.unusedVariables false
set_option maxRecDepth 100000

/-- The test of each element comes to Q, whenever it is asked. -/
def TestB (w : World) (g : FuncId) (ps : List Value) (l : List BT) (Q : Nat → Bool) : Prop :=
  ∀ i (h : i < l.length) (lo hi : Nat) (F : Option Addr) (C : Nat) (w' : World), Below w.heap.size w w' → IsBind w' lo hi l[i] F C → hi ≤ w'.heap.size →
    Calls Tryz.prog g (⟨bindV l[i] F C :: ps⟩ : Array Value) w' fun e w'' => e = .returned (.bool (Q i)) ∧ Below w'.heap.size w' w''
theorem TestB.kept {w w' : World} {g : FuncId} {ps : List Value} {l : List BT} {Q : Nat → Bool} (h : TestB w g ps l Q) (hb : Below w.heap.size w w') : TestB w' g ps l Q :=
  fun i hi lo hi' F C W hW => h i hi lo hi' F C W (hb.trans (hW.mono hb.size))

theorem index_bind (l : List BT) (A : Option Addr) (cap lo hi : Nat) (p : Addr) (Q : Nat → Bool) (w : World) (hl : l.length ≤ maxLen) (hn : BindsAt w lo hi A l) (hhi : hi ≤ w.heap.size) (ht : TestB w 93 [.pointer (some p)] l Q) :
    Calls Tryz.prog 141 #[.slice A l.length cap, .func (.func 93) #[] #[.pointer (some p)]] w (SomeIdx Q l.length w) := by
  have HN := Lib.hid hn
  have HT := Lib.hid ht
  unfold maxLen at hl
  clear hn ht
  go_enter Tryz.func141, Tryz.ntmps141
  go_wp2_with fail
  go_loopw [8] (fun iv wr => ∃ i : Nat, i ≤ l.length ∧ iv = .int .i64 i ∧ Below w.heap.size w wr ∧ Hid (∀ j, j < i → Q j = false)) (fun iv _ => l.length - (intOf iv).toNat)
  case atStart => exact ⟨0, Nat.zero_le _, rfl, Below.refl _ _, Lib.hid (fun j hj => by omega)⟩
  case round =>
    obtain ⟨i, hi1, rfl, hB, HQ⟩ := hrel
    have hz := hB.size
    by_cases hil : i < l.length
    · obtain ⟨b, o, F, C, rfl, hb1, hb2, hx, hnode⟩ := (HN.out i hil).kept hB hhi
      obtain ⟨x0, x1, x2, x3, x4, x5, x6⟩ := hx
      have HR := Lib.hid (HT.out i hil lo hi F C wr hB hnode (by omega))
      clear HT HN
      cases hq : Q i with
      | true =>
        rw [hq] at HR
        have HQ2 := Lib.hid hq
        clear hq
        go_wp2_with fail
        refine HR.out.mono ?_
        rintro e w1 ⟨rfl, hb1⟩
        go_wp2_with fail
        go_ret
        exact ⟨_, rfl, .inr ⟨by omega, i, hil, HQ2.out⟩, hB.trans (hb1.mono hz)⟩
      | false =>
        rw [hq] at HR
        have HQ2 := Lib.hid hq
        clear hq
        go_wp2_with fail
        refine HR.out.mono ?_
        rintro e w1 ⟨rfl, hb1⟩
        go_wp2_with fail
        go_roundw
        case rel =>
          refine ⟨i + 1, by omega, rfl, hB.trans (hb1.mono hz), Lib.hid (fun j hj => ?_)⟩
          by_cases e : j < i
          · exact HQ.out j e
          · obtain rfl : j = i := by omega
            exact HQ2.out
        case measure => simp [intOf]; omega
    · obtain rfl : i = l.length := by omega
      clear HT HN
      go_wp2_with fail
      go_ret
      exact ⟨_, rfl, .inl ⟨rfl, HQ.out⟩, hB⟩

theorem contains_bind (l : List BT) (A : Option Addr) (cap lo hi : Nat) (p : Addr) (Q : Nat → Bool) (w : World) (hl : l.length ≤ maxLen) (hn : BindsAt w lo hi A l) (hhi : hi ≤ w.heap.size) (ht : TestB w 93 [.pointer (some p)] l fun i => !Q i) :
    Calls Tryz.prog 92 #[.slice A l.length cap, .func (.func 93) #[] #[.pointer (some p)]] w fun e w' => e = .returned (.bool (!allB Q l.length)) ∧ Below w.heap.size w w' := by
  have HC := Lib.hid (index_bind l A cap lo hi p (fun i => !Q i) w hl hn hhi ht)
  clear hl hn hhi ht
  go_enter Tryz.func92, Tryz.ntmps92
  go_wp2_with fail
  refine HC.out.mono ?_
  rintro e w1 ⟨r, rfl, hr, hb⟩
  have HR := Lib.hid (idx_all hr)
  clear hr
  go_wp2_with fail
  go_ret
  exact ⟨by rw [HR.out]; rfl, hb⟩

theorem not_bind (t : BT) (F : Option Addr) (C : Nat) (pb po : Nat) (b : Bool) (w : World) (hc : w.cell? ⟨pb, po, none⟩ = some (.func (.func 57) #[] #[])) (lo hi : Nat) (h : IsBind w lo hi t F C) (hhi : hi ≤ w.heap.size)
    (hq : ∀ W, Below w.heap.size w W → IsBind W lo hi t F C → Calls Tryz.prog 57 #[bindV t F C] W fun e w' => e = .returned (.bool b) ∧ Below W.heap.size W w') :
    Calls Tryz.prog 93 #[bindV t F C, .pointer (some ⟨pb, po, none⟩)] w fun e w' => e = .returned (.bool (!b)) ∧ Below w.heap.size w w' := by
  have HQ := Lib.hid hq
  have hlt : pb < w.heap.size := World.block_lt_of_cell? w _ hc
  clear hq
  unfold bindV at HQ ⊢
  go_enter Tryz.func93, Tryz.ntmps93
  go_wp2_with fail
  refine (HQ.out _ ((Below.refl _ _).alloc (Nat.le_refl _) _) (h.alloc hhi _)).mono ?_
  rintro e w1 ⟨rfl, hb⟩
  go_wp2_with fail
  go_ret
  exact ⟨rfl, ((Below.refl _ _).alloc (Nat.le_refl _) _).trans (hb.mono (by simp))⟩

theorem all_bind (l : List BT) (A : Option Addr) (cap lo hi : Nat) (Q : Nat → Bool) (w : World) (hl : l.length ≤ maxLen) (hn : BindsAt w lo hi A l) (hhi : hi ≤ w.heap.size) (ht : TestB w 57 [] l Q) :
    Calls Tryz.prog 56 #[.slice A l.length cap, .func (.func 57) #[] #[]] w fun e w' => e = .returned (.bool (allB Q l.length)) ∧ Below w.heap.size w w' := by
  obtain ⟨W, hW⟩ : ∃ W, w.alloc (.cells #[.func (.func 57) #[] #[]] 109) = W := ⟨_, rfl⟩
  have hB : Below w.heap.size w W := by rw [← hW]; exact (Below.refl _ _).alloc (Nat.le_refl _) _
  have hz : w.heap.size < W.heap.size := by rw [← hW]; simp
  have hcell : W.cell? ⟨w.heap.size, 0, none⟩ = some (.func (.func 57) #[] #[]) := by rw [← hW, World.cell?_alloc_mark]; rfl
  have HC := Lib.hid (contains_bind l A cap lo hi ⟨w.heap.size, 0, none⟩ Q W hl (hn.kept hB hhi) (by omega) (fun i h lo' hi' F C W' hb hx hh =>
    not_bind l[i] F C w.heap.size 0 (Q i) W' ((hb.cell (p := ⟨w.heap.size, 0, none⟩) hz).trans hcell) lo' hi' hx hh (fun W2 hb2 hx2 => ht i h lo' hi' F C W2 (hB.trans ((hb.mono hB.size).trans (hb2.mono (Nat.le_trans hB.size hb.size)))) hx2 (Nat.le_trans hh hb2.size))))
  have HW := Lib.hid hW
  have HB := Lib.hid hB
  clear hl hn hhi ht hW hB hcell hz
  go_enter Tryz.func56, Tryz.ntmps56
  go_wp2_with fail
  rw [HW.out]
  refine HC.out.mono ?_
  rintro e w1 ⟨rfl, hb⟩
  go_wp2_with fail
  go_ret
  exact ⟨by simp, HB.out.trans (hb.mono HB.out.size)⟩

/-- The test of each element comes to Q, whenever it is asked. -/
def TestR (w : World) (g : FuncId) (ps : List Value) (l : List CT) (Q : Nat → Bool) : Prop :=
  ∀ i (h : i < l.length) (lo hi : Nat) (D : Option Addr) (c : Nat) (F : Option Addr) (C : Nat) (w' : World), Below w.heap.size w w' → IsRow w' lo hi l[i] D c F C → hi ≤ w'.heap.size →
    Calls Tryz.prog g (⟨rowV l[i] D c F C :: ps⟩ : Array Value) w' fun e w'' => e = .returned (.bool (Q i)) ∧ Below w'.heap.size w' w''
theorem TestR.kept {w w' : World} {g : FuncId} {ps : List Value} {l : List CT} {Q : Nat → Bool} (h : TestR w g ps l Q) (hb : Below w.heap.size w w') : TestR w' g ps l Q :=
  fun i hi lo hi' D c F C W hW => h i hi lo hi' D c F C W (hb.trans (hW.mono hb.size))

theorem index_row (l : List CT) (A : Option Addr) (cap lo hi : Nat) (p : Addr) (Q : Nat → Bool) (w : World) (hl : l.length ≤ maxLen) (hn : RowsAt w lo hi A l) (hhi : hi ≤ w.heap.size) (ht : TestR w 95 [.pointer (some p)] l Q) :
    Calls Tryz.prog 142 #[.slice A l.length cap, .func (.func 95) #[] #[.pointer (some p)]] w (SomeIdx Q l.length w) := by
  have HN := Lib.hid hn
  have HT := Lib.hid ht
  unfold maxLen at hl
  clear hn ht
  go_enter Tryz.func142, Tryz.ntmps142
  go_wp2_with fail
  go_loopw [8] (fun iv wr => ∃ i : Nat, i ≤ l.length ∧ iv = .int .i64 i ∧ Below w.heap.size w wr ∧ Hid (∀ j, j < i → Q j = false)) (fun iv _ => l.length - (intOf iv).toNat)
  case atStart => exact ⟨0, Nat.zero_le _, rfl, Below.refl _ _, Lib.hid (fun j hj => by omega)⟩
  case round =>
    obtain ⟨i, hi1, rfl, hB, HQ⟩ := hrel
    have hz := hB.size
    by_cases hil : i < l.length
    · obtain ⟨b, o, D, c, F, C, rfl, hb1, hb2, hx, hnode⟩ := (HN.out i hil).kept hB hhi
      obtain ⟨x0, x1, x2, x3, x4, x5, x6, x7⟩ := hx
      have HR := Lib.hid (HT.out i hil lo hi D c F C wr hB hnode (by omega))
      clear HT HN
      cases hq : Q i with
      | true =>
        rw [hq] at HR
        have HQ2 := Lib.hid hq
        clear hq
        go_wp2_with fail
        refine HR.out.mono ?_
        rintro e w1 ⟨rfl, hb1⟩
        go_wp2_with fail
        go_ret
        exact ⟨_, rfl, .inr ⟨by omega, i, hil, HQ2.out⟩, hB.trans (hb1.mono hz)⟩
      | false =>
        rw [hq] at HR
        have HQ2 := Lib.hid hq
        clear hq
        go_wp2_with fail
        refine HR.out.mono ?_
        rintro e w1 ⟨rfl, hb1⟩
        go_wp2_with fail
        go_roundw
        case rel =>
          refine ⟨i + 1, by omega, rfl, hB.trans (hb1.mono hz), Lib.hid (fun j hj => ?_)⟩
          by_cases e : j < i
          · exact HQ.out j e
          · obtain rfl : j = i := by omega
            exact HQ2.out
        case measure => simp [intOf]; omega
    · obtain rfl : i = l.length := by omega
      clear HT HN
      go_wp2_with fail
      go_ret
      exact ⟨_, rfl, .inl ⟨rfl, HQ.out⟩, hB⟩

theorem contains_row (l : List CT) (A : Option Addr) (cap lo hi : Nat) (p : Addr) (Q : Nat → Bool) (w : World) (hl : l.length ≤ maxLen) (hn : RowsAt w lo hi A l) (hhi : hi ≤ w.heap.size) (ht : TestR w 95 [.pointer (some p)] l fun i => !Q i) :
    Calls Tryz.prog 94 #[.slice A l.length cap, .func (.func 95) #[] #[.pointer (some p)]] w fun e w' => e = .returned (.bool (!allB Q l.length)) ∧ Below w.heap.size w w' := by
  have HC := Lib.hid (index_row l A cap lo hi p (fun i => !Q i) w hl hn hhi ht)
  clear hl hn hhi ht
  go_enter Tryz.func94, Tryz.ntmps94
  go_wp2_with fail
  refine HC.out.mono ?_
  rintro e w1 ⟨r, rfl, hr, hb⟩
  have HR := Lib.hid (idx_all hr)
  clear hr
  go_wp2_with fail
  go_ret
  exact ⟨by rw [HR.out]; rfl, hb⟩

theorem not_row (t : CT) (D : Option Addr) (c : Nat) (F : Option Addr) (C : Nat) (pb po : Nat) (b : Bool) (w : World) (hc : w.cell? ⟨pb, po, none⟩ = some (.func (.func 59) #[] #[])) (lo hi : Nat) (h : IsRow w lo hi t D c F C) (hhi : hi ≤ w.heap.size)
    (hq : ∀ W, Below w.heap.size w W → IsRow W lo hi t D c F C → Calls Tryz.prog 59 #[rowV t D c F C] W fun e w' => e = .returned (.bool b) ∧ Below W.heap.size W w') :
    Calls Tryz.prog 95 #[rowV t D c F C, .pointer (some ⟨pb, po, none⟩)] w fun e w' => e = .returned (.bool (!b)) ∧ Below w.heap.size w w' := by
  have HQ := Lib.hid hq
  have hlt : pb < w.heap.size := World.block_lt_of_cell? w _ hc
  clear hq
  unfold rowV at HQ ⊢
  go_enter Tryz.func95, Tryz.ntmps95
  go_wp2_with fail
  refine (HQ.out _ ((Below.refl _ _).alloc (Nat.le_refl _) _) (h.alloc hhi _)).mono ?_
  rintro e w1 ⟨rfl, hb⟩
  go_wp2_with fail
  go_ret
  exact ⟨rfl, ((Below.refl _ _).alloc (Nat.le_refl _) _).trans (hb.mono (by simp))⟩

theorem all_row (l : List CT) (A : Option Addr) (cap lo hi : Nat) (Q : Nat → Bool) (w : World) (hl : l.length ≤ maxLen) (hn : RowsAt w lo hi A l) (hhi : hi ≤ w.heap.size) (ht : TestR w 59 [] l Q) :
    Calls Tryz.prog 58 #[.slice A l.length cap, .func (.func 59) #[] #[]] w fun e w' => e = .returned (.bool (allB Q l.length)) ∧ Below w.heap.size w w' := by
  obtain ⟨W, hW⟩ : ∃ W, w.alloc (.cells #[.func (.func 59) #[] #[]] 111) = W := ⟨_, rfl⟩
  have hB : Below w.heap.size w W := by rw [← hW]; exact (Below.refl _ _).alloc (Nat.le_refl _) _
  have hz : w.heap.size < W.heap.size := by rw [← hW]; simp
  have hcell : W.cell? ⟨w.heap.size, 0, none⟩ = some (.func (.func 59) #[] #[]) := by rw [← hW, World.cell?_alloc_mark]; rfl
  have HC := Lib.hid (contains_row l A cap lo hi ⟨w.heap.size, 0, none⟩ Q W hl (hn.kept hB hhi) (by omega) (fun i h lo' hi' D c F C W' hb hx hh =>
    not_row l[i] D c F C w.heap.size 0 (Q i) W' ((hb.cell (p := ⟨w.heap.size, 0, none⟩) hz).trans hcell) lo' hi' hx hh (fun W2 hb2 hx2 => ht i h lo' hi' D c F C W2 (hB.trans ((hb.mono hB.size).trans (hb2.mono (Nat.le_trans hB.size hb.size)))) hx2 (Nat.le_trans hh hb2.size))))
  have HW := Lib.hid hW
  have HB := Lib.hid hB
  clear hl hn hhi ht hW hB hcell hz
  go_enter Tryz.func58, Tryz.ntmps58
  go_wp2_with fail
  rw [HW.out]
  refine HC.out.mono ?_
  rintro e w1 ⟨rfl, hb⟩
  go_wp2_with fail
  go_ret
  exact ⟨by simp, HB.out.trans (hb.mono HB.out.size)⟩

end Go.Proofs.YteaojmcfppbgiaaGreatDoor

/- tree.rightRow, tree.sameRow. -/
namespace Go.Proofs.YteaojmcfppbgiaaGreatDoor
open Go.RowKit
set_option linter.unusedVariables false
set_option maxRecDepth 100000

theorem test_pats (l : List RT) (w : World) (hS : Shapes w) : TestN w 41 [] l fun i => (l[i]?.map patB).getD true := by
  intro i h lo hi F C w' hb hn hh
  show Calls Tryz.prog 41 #[nodeV l[i] F C] w' fun e w'' => e = .returned (.bool ((l[i]?.map patB).getD true)) ∧ Below w'.heap.size w' w''
  rw [mapAt patB h]
  exact pattern_any l[i] lo hi F C w' hn hh (hS.below hb)

set_option maxHeartbeats 1000000 in
theorem rightRow_any (x : CT) (lo hi : Nat) (D : Option Addr) (c : Nat) (F : Option Addr) (C : Nat) (w : World) (h : IsRow w lo hi x D c F C) (hhi : hi ≤ w.heap.size) (hS : Shapes w) :
    Calls Tryz.prog 59 #[rowV x D c F C] w fun e w' => e = .returned (.bool (rowB x)) ∧ Below w.heap.size w w' := by
  obtain ⟨hl, hc, hp, hn⟩ := h
  have hlm : x.ps.length ≤ maxLen := Nat.le_trans hl hc
  have HP := Lib.hid (fun W h1 h2 h3 => all_pattern x.ps D c lo hi (fun i => (x.ps[i]?.map patB).getD true) W hlm h1 h2 (test_pats x.ps W h3))
  have HE := Lib.hid (fun W h1 h2 h3 => expr_any x.t lo hi F C W h1 h2 h3)
  have HZ := Lib.hid (fun W => zero_any x.t F C W)
  unfold rowB exprB
  have e0 : allB (fun i => (x.ps[i]?.map patB).getD true) x.ps.length = patsB x.ps := rfl
  rw [e0] at HP
  clear e0
  obtain ⟨r, hr⟩ : ∃ r, (fitB x.t && goodB x.t false) = r := ⟨_, rfl⟩
  obtain ⟨z, hz⟩ : ∃ z, zeroB x.t = z := ⟨_, rfl⟩
  rw [hr] at HE ⊢
  rw [hz] at HZ ⊢
  clear hr hz
  have HNP := Lib.hid (fun o => hp.kept ((Below.refl hi w).alloc hhi o) (Nat.le_refl _))
  have HN := Lib.hid (fun o => hn.alloc hhi o)
  have HS := Lib.hid hS
  clear hp hn hS
  unfold nodeV at HE HZ
  unfold rowV
  by_cases h24 : x.ps.length ≤ 24
  case neg =>
    rw [decide_eq_false h24, Bool.false_and]
    have t0 : decide ((24 : Int) < (x.ps.length : Int)) = true := decide_eq_true (by omega)
    clear h24 HP HE HZ hl hlm
    go_enter Tryz.func59, Tryz.ntmps59
    go_wp2_with fail
    go_ret
    exact ⟨rfl, (Below.refl _ _).alloc (Nat.le_refl _) _⟩
  rw [decide_eq_true h24, Bool.true_and]
  have t0 : decide ((24 : Int) < (x.ps.length : Int)) = false := decide_eq_false (by omega)
  clear h24 hl hlm
  cases hpp : patsB x.ps with
  | false =>
    rw [hpp] at HP
    rw [Bool.false_and]
    clear hpp HE HZ
    go_enter Tryz.func59, Tryz.ntmps59
    go_wp2_with fail
    refine (HP.out _ (HNP.out _) (by simp; omega) (HS.out.below ((Below.refl _ _).alloc (Nat.le_refl _) _))).mono ?_
    rintro e w1 ⟨rfl, hb1⟩
    go_wp2_with fail
    go_ret
    exact ⟨rfl, ((Below.refl _ _).alloc (Nat.le_refl _) _).trans (hb1.mono (by simp))⟩
  | true =>
    rw [hpp] at HP
    rw [Bool.true_and]
    clear hpp
    cases hh : x.h with
    | true =>
      rw [if_pos rfl]
      clear HZ
      go_enter Tryz.func59, Tryz.ntmps59
      go_wp2_with fail
      refine (HP.out _ (HNP.out _) (by simp; omega) (HS.out.below ((Below.refl _ _).alloc (Nat.le_refl _) _))).mono ?_
      rintro e w1 ⟨rfl, hb1⟩
      have hz1 := hb1.size
      simp at hz1
      have hB1 := ((Below.refl _ _).alloc (Nat.le_refl _) _).trans (hb1.mono (by simp))
      have hcell := fun p hp => hb1.cell (p := p) hp
      go_wp2_with fail
      refine (HE.out _ ((HN.out _).kept hb1 (by simp; omega)) (by omega) (HS.out.below hB1)).mono ?_
      rintro e w2 ⟨rfl, hb2⟩
      go_wp2_with fail
      go_ret
      exact ⟨rfl, hB1.trans (hb2.mono (by omega))⟩
    | false =>
      rw [if_neg (by decide)]
      clear HE
      go_enter Tryz.func59, Tryz.ntmps59
      go_wp2_with fail
      refine (HP.out _ (HNP.out _) (by simp; omega) (HS.out.below ((Below.refl _ _).alloc (Nat.le_refl _) _))).mono ?_
      rintro e w1 ⟨rfl, hb1⟩
      have hz1 := hb1.size
      simp at hz1
      have hB1 := ((Below.refl _ _).alloc (Nat.le_refl _) _).trans (hb1.mono (by simp))
      have hcell := fun p hp => hb1.cell (p := p) hp
      go_wp2_with fail
      refine (HZ.out _).mono ?_
      rintro e w2 ⟨rfl, hb2⟩
      go_wp2_with fail
      go_ret
      exact ⟨rfl, hB1.trans (hb2.mono (by omega))⟩

end Go.Proofs.YteaojmcfppbgiaaGreatDoor
