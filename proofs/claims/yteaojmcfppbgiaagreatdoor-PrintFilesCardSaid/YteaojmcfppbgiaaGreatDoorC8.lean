/- Names as tests: name.Right and the document's Right come to one bool, for every string; tree.bears, scholiumref04.many, scholiumref04.named. -/
import Derived.Test.YteaojmcfppbgiaaGreatDoorA3
import Derived.LoopTactic
import Derived.RegionTactic
import Derived.Test.YteaojmcfppbgiaaGreatDoorB1
namespace Go.Proofs.YteaojmcfppbgiaaGreatDoor
open Go.RowKit
set_option linter.unusedVariables false

/-- Is the text a name? -/
noncomputable def nmB (s : ByteArray) : Bool := @decide (∃ ns, IsName s ns) (Classical.propDecidable _)
theorem nmB_yes {s : ByteArray} {ns : List Int} (h : IsName s ns) : nmB s = true := @decide_eq_true _ (Classical.propDecidable _) ⟨ns, h⟩
theorem nmB_no {s : ByteArray} (h : ¬ ∃ ns, IsName s ns) : nmB s = false := @decide_eq_false _ (Classical.propDecidable _) h
theorem nameRight_any (s : ByteArray) (w : World) (hs : s.size ≤ 9223372036854775807) :
    Calls Tryz.prog 55 #[.string s] w fun e w' => e = .returned (.bool (nmB s)) ∧ Below w.heap.size w w' := by
  rcases Classical.em (∃ ns, IsName s ns) with ⟨ns, h⟩ | h
  · rw [nmB_yes h]; exact right_yes s ns w h
  · rw [nmB_no h]; exact right_no s w hs h
theorem refNameRight_any (s : ByteArray) (w : World) (hs : s.size ≤ 9223372036854775807) :
    Calls Tryz.prog 66 #[.string s] w fun e w' => e = .returned (.bool (nmB s)) ∧ Below w.heap.size w w' := by
  rcases Classical.em (∃ ns, IsName s ns) with ⟨ns, h⟩ | h
  · rw [nmB_yes h]; exact refRight_yes s ns w h
  · rw [nmB_no h]; exact refRight_no s w hs h

def lowB (s : ByteArray) : Bool := s.toList == [95]
def noneB (s : ByteArray) : Bool := s.toList == []
/-- May a node bear the name? -/
noncomputable def bearsB (s : ByteArray) (may : Int) : Bool := if may = 1 then nmB s else if may = 2 then lowB s || nmB s else noneB s

theorem bears_any (s : ByteArray) (may : Int) (w : World) (hs : s.size ≤ 9223372036854775807) :
    Calls Tryz.prog 108 #[.string s, .int .i64 may] w fun e w' => e = .returned (.bool (bearsB s may)) ∧ Below w.heap.size w w' := by
  have HR := Lib.hid (nameRight_any s)
  by_cases h1 : may = 1
  · subst h1
    have e : bearsB s 1 = nmB s := rfl
    rw [e]; clear e
    go_enter Tryz.func108, Tryz.ntmps108
    go_wp2_with fail
    refine (HR.out _ hs).mono ?_; rintro e w1 ⟨rfl, hb⟩
    go_wp2_with fail
    go_ret
    exact ⟨rfl, hb⟩
  · by_cases h2 : may = 2
    · subst h2
      have e : bearsB s 2 = (lowB s || nmB s) := rfl
      rw [e]; clear e h1
      cases hl : lowB s with
      | true =>
        unfold lowB at hl
        clear HR
        go_enter Tryz.func108, Tryz.ntmps108
        go_wp2_with fail
        go_ret
        exact ⟨rfl, Below.refl _ _⟩
      | false =>
        unfold lowB at hl
        go_enter Tryz.func108, Tryz.ntmps108
        go_wp2_with fail
        refine (HR.out _ hs).mono ?_; rintro e w1 ⟨rfl, hb⟩
        go_wp2_with fail
        go_ret
        exact ⟨by simp, hb⟩
    · have e : bearsB s may = noneB s := by unfold bearsB; rw [if_neg h1, if_neg h2]
      have t1 : (may == 1) = false := by simp; omega
      have t2 : (may == 2) = false := by simp; omega
      rw [e]; clear e HR
      unfold noneB
      go_enter Tryz.func108, Tryz.ntmps108
      go_wp2_with fail
      go_ret
      exact ⟨by simp, Below.refl _ _⟩

/-- May a kind have so many Subs? -/
def manyB (k : Int) (n : Nat) : Bool := if k = 8 then decide (0 < n) else if k = 3 ∨ k = 4 ∨ k = 5 then decide (n = 2) else if k = 10 then decide (n = 1) else decide (n = 0)
/-- May a kind have the name? -/
noncomputable def namedB (k : Int) (s : ByteArray) : Bool := if k = 1 ∨ k = 6 ∨ k = 8 then nmB s else if k = 3 ∨ k = 4 then lowB s || nmB s else noneB s

theorem beq_cast (n m : Nat) : ((n : Int) == (m : Int)) = decide (n = m) := by rw [Bool.eq_iff_iff]; simp; omega
theorem many_any (k : Int) (n : Nat) (w : World) : Calls Tryz.prog 150 #[.int .i64 k, .int .i64 (n : Int)] w fun e w' => e = .returned (.bool (manyB k n)) ∧ w = w' := by
  obtain ⟨r, hr⟩ : ∃ r, manyB k n = r := ⟨_, rfl⟩
  have HR := Lib.hid hr
  rw [hr]; clear hr
  by_cases h8 : k = 8
  · subst h8
    go_enter Tryz.func150, Tryz.ntmps150
    go_wp2_with fail
    go_ret
    exact ⟨by rw [← HR.out]; simp [manyB], rfl⟩
  · by_cases h3 : k = 3
    · subst h3
      go_enter Tryz.func150, Tryz.ntmps150
      go_wp2_with fail
      go_ret
      exact ⟨by rw [← HR.out]; simp [manyB]; first | exact beq_cast n 2 | exact beq_cast n 1 | omega, rfl⟩
    · by_cases h4 : k = 4
      · subst h4
        go_enter Tryz.func150, Tryz.ntmps150
        go_wp2_with fail
        go_ret
        exact ⟨by rw [← HR.out]; simp [manyB]; first | exact beq_cast n 2 | exact beq_cast n 1 | omega, rfl⟩
      · by_cases h5 : k = 5
        · subst h5
          go_enter Tryz.func150, Tryz.ntmps150
          go_wp2_with fail
          go_ret
          exact ⟨by rw [← HR.out]; simp [manyB]; first | exact beq_cast n 2 | exact beq_cast n 1 | omega, rfl⟩
        · by_cases h10 : k = 10
          · subst h10
            go_enter Tryz.func150, Tryz.ntmps150
            go_wp2_with fail
            go_ret
            exact ⟨by rw [← HR.out]; simp [manyB]; first | exact beq_cast n 2 | exact beq_cast n 1 | omega, rfl⟩
          · have t8 : (k == 8) = false := by simp; omega
            have t3 : (k == 3) = false := by simp; omega
            have t4 : (k == 4) = false := by simp; omega
            have t5 : (k == 5) = false := by simp; omega
            have t10 : (k == 10) = false := by simp; omega
            go_enter Tryz.func150, Tryz.ntmps150
            go_wp2_with fail
            go_ret
            exact ⟨by rw [← HR.out]; simp [manyB, h8, h3, h4, h5, h10]; try exact beq_cast n 0, rfl⟩

theorem named_any (k : Int) (s : ByteArray) (w : World) (hs : s.size ≤ 9223372036854775807) :
    Calls Tryz.prog 151 #[.int .i64 k, .string s] w fun e w' => e = .returned (.bool (namedB k s)) ∧ Below w.heap.size w w' := by
  have HR := Lib.hid (refNameRight_any s)
  by_cases hn : k = 1 ∨ k = 6 ∨ k = 8
  · have e : namedB k s = nmB s := by unfold namedB; rw [if_pos hn]
    rw [e]; clear e
    rcases hn with rfl | rfl | rfl
    all_goals
      go_enter Tryz.func151, Tryz.ntmps151
      go_wp2_with fail
      refine (HR.out _ hs).mono ?_; rintro e w1 ⟨rfl, hb⟩
      go_wp2_with fail
      go_ret
      exact ⟨rfl, hb⟩
  · have h1 : ¬ k = 1 := by omega
    have h6 : ¬ k = 6 := by omega
    have h8 : ¬ k = 8 := by omega
    by_cases hb : k = 3 ∨ k = 4
    · have e : namedB k s = (lowB s || nmB s) := by unfold namedB; rw [if_neg hn, if_pos hb]
      rw [e]; clear e hn h1 h6 h8
      cases hl : lowB s with
      | true =>
        unfold lowB at hl
        clear HR
        rcases hb with rfl | rfl
        all_goals
          go_enter Tryz.func151, Tryz.ntmps151
          go_wp2_with fail
          go_ret
          exact ⟨rfl, Below.refl _ _⟩
      | false =>
        unfold lowB at hl
        rcases hb with rfl | rfl
        all_goals
          go_enter Tryz.func151, Tryz.ntmps151
          go_wp2_with fail
          refine (HR.out _ hs).mono ?_; rintro e w1 ⟨rfl, hb⟩
          go_wp2_with fail
          go_ret
          exact ⟨by simp, hb⟩
    · have e : namedB k s = noneB s := by unfold namedB; rw [if_neg hn, if_neg hb]
      have h3 : ¬ k = 3 := by omega
      have h4 : ¬ k = 4 := by omega
      have t1 : (k == 1) = false := by simp; omega
      have t6 : (k == 6) = false := by simp; omega
      have t8 : (k == 8) = false := by simp; omega
      have t3 : (k == 3) = false := by simp; omega
      have t4 : (k == 4) = false := by simp; omega
      rw [e]; clear e HR hn hb
      unfold noneB
      go_enter Tryz.func151, Tryz.ntmps151
      go_wp2_with fail
      go_ret
      exact ⟨by simp, Below.refl _ _⟩

end Go.Proofs.YteaojmcfppbgiaaGreatDoor

/- What is a right node: the document's rule as a test on trees; the program's table of shapes says the same of each kind. No walk. -/
namespace Go.Proofs.YteaojmcfppbgiaaGreatDoor
open Go.RowKit
set_option linter.unusedVariables false

def numB (k n : Int) : Bool := if k = 2 then decide (0 ≤ n) && decide (n ≤ 7) else decide (n = 0)
noncomputable def topB (k : Int) (s : ByteArray) (n : Int) (len : Nat) (p : Bool) : Bool :=
  decide (1 ≤ k) && (decide (k ≤ 10) && ((decide (5 < k) == p) && (manyB k len && (namedB k s && numB k n))))
mutual
noncomputable def goodB : RT → Bool → Bool
  | .node k _ s n l, p => topB k s n l.length p && goodL l (decide (k = 8))
noncomputable def goodL : List RT → Bool → Bool
  | [], _ => true
  | t :: r, p => goodB t p && goodL r p
end
theorem goodB_node (k a : Int) (s : ByteArray) (n : Int) (l : List RT) (p : Bool) : goodB (.node k a s n l) p = (topB k s n l.length p && goodL l (decide (k = 8))) := by rw [goodB]

/-- A test of what stands at a place. -/
def atB (f : RT → Bool) (l : List RT) (i : Nat) : Bool := match l[i]? with | some t => f t | none => true
theorem atB_of (f : RT → Bool) {l : List RT} {i : Nat} (h : i < l.length) : atB f l i = f l[i] := by
  unfold atB; rw [List.getElem?_eq_getElem h]
theorem allB_succ (Q : Nat → Bool) : ∀ n, allB Q (n + 1) = (Q 0 && allB (fun i => Q (i + 1)) n)
  | 0 => by simp [allB]
  | n + 1 => by
    have := allB_succ Q n
    rw [allB, this, allB, Bool.and_assoc]
theorem allB_at (f : RT → Bool) : ∀ l : List RT, allB (atB f l) l.length = l.all f
  | [] => rfl
  | t :: r => by
    rw [List.length_cons, allB_succ, List.all_cons, ← allB_at f r]
    rfl
theorem goodL_all (p : Bool) : ∀ l : List RT, goodL l p = l.all fun t => goodB t p
  | [] => by rw [goodL]; rfl
  | t :: r => by rw [goodL, goodL_all p r, List.all_cons]
theorem goodL_at (l : List RT) (p : Bool) : allB (atB (fun t => goodB t p) l) l.length = goodL l p := by rw [allB_at, goodL_all]

/-- The table of shapes. -/
def shpT : List (List Int) := [[0, 0, 0, 0, 0, 0], [1, 1, 0, 0, 0, 0], [1, 0, 7, 0, 0, 0], [1, 2, 0, 2, 2, 1], [1, 2, 0, 2, 2, 1], [1, 0, 0, 2, 2, 1], [2, 1, 0, 0, 0, 0], [2, 0, 0, 0, 0, 0], [2, 1, 0, 1, 8192, 2], [2, 0, 0, 0, 0, 0], [2, 0, 0, 1, 1, 1]]
def shp (k j : Nat) : Int := (shpT.getD k []).getD j 0
def Shapes (w : World) : Prop := ∀ i j, i < 11 → j < 6 → w.cell? ⟨3, i * 6 + j, none⟩ = some (.int .i64 (shp i j))
theorem Shapes.lt {w : World} (h : Shapes w) : 3 < w.heap.size := World.block_lt_of_cell? w _ (h 0 0 (by omega) (by omega))
theorem Shapes.below {w w' : World} (h : Shapes w) (hb : Below w.heap.size w w') : Shapes w' := fun i j hi hj => (hb.cell (p := ⟨3, i * 6 + j, none⟩) h.lt).trans (h i j hi hj)

theorem kind_cases {K : Nat} (h1 : 1 ≤ K) (h2 : K ≤ 10) : K = 1 ∨ K = 2 ∨ K = 3 ∨ K = 4 ∨ K = 5 ∨ K = 6 ∨ K = 7 ∨ K = 8 ∨ K = 9 ∨ K = 10 := by omega
theorem shp_is {K : Nat} (h1 : 1 ≤ K) (h2 : K ≤ 10) : shp K 0 = if 5 < K then 2 else 1 := by
  rcases kind_cases h1 h2 with rfl | rfl | rfl | rfl | rfl | rfl | rfl | rfl | rfl | rfl <;> rfl
theorem shp_name {K : Nat} (h1 : 1 ≤ K) (h2 : K ≤ 10) (s : ByteArray) : bearsB s (shp K 1) = namedB (K : Int) s := by
  rcases kind_cases h1 h2 with rfl | rfl | rfl | rfl | rfl | rfl | rfl | rfl | rfl | rfl <;> rfl
theorem shp_num {K : Nat} (h1 : 1 ≤ K) (h2 : K ≤ 10) (n : Int) : numB (K : Int) n = true ↔ 0 ≤ n ∧ n ≤ shp K 2 := by
  unfold numB
  by_cases h : K = 2
  · subst h
    have e : shp 2 2 = 7 := rfl
    rw [e]; simp
  · have e : shp K 2 = 0 := by
      rcases kind_cases h1 h2 with rfl | rfl | rfl | rfl | rfl | rfl | rfl | rfl | rfl | rfl <;> first | rfl | omega
    have h' : ¬ (K : Int) = 2 := by omega
    rw [e, if_neg h', decide_eq_true_eq]; omega
theorem shp_many {K : Nat} (h1 : 1 ≤ K) (h2 : K ≤ 10) {n : Nat} (hn : n ≤ 8192) : manyB (K : Int) n = true ↔ shp K 3 ≤ (n : Int) ∧ (n : Int) ≤ shp K 4 := by
  rcases kind_cases h1 h2 with rfl | rfl | rfl | rfl | rfl | rfl | rfl | rfl | rfl | rfl
  · have e3 : shp 1 3 = 0 := rfl
    have e4 : shp 1 4 = 0 := rfl
    rw [e3, e4]; simp [manyB]; try omega
  · have e3 : shp 2 3 = 0 := rfl
    have e4 : shp 2 4 = 0 := rfl
    rw [e3, e4]; simp [manyB]; try omega
  · have e3 : shp 3 3 = 2 := rfl
    have e4 : shp 3 4 = 2 := rfl
    rw [e3, e4]; simp [manyB]; try omega
  · have e3 : shp 4 3 = 2 := rfl
    have e4 : shp 4 4 = 2 := rfl
    rw [e3, e4]; simp [manyB]; try omega
  · have e3 : shp 5 3 = 2 := rfl
    have e4 : shp 5 4 = 2 := rfl
    rw [e3, e4]; simp [manyB]; try omega
  · have e3 : shp 6 3 = 0 := rfl
    have e4 : shp 6 4 = 0 := rfl
    rw [e3, e4]; simp [manyB]; try omega
  · have e3 : shp 7 3 = 0 := rfl
    have e4 : shp 7 4 = 0 := rfl
    rw [e3, e4]; simp [manyB]; try omega
  · have e3 : shp 8 3 = 1 := rfl
    have e4 : shp 8 4 = 8192 := rfl
    rw [e3, e4]; simp [manyB]; try omega
  · have e3 : shp 9 3 = 0 := rfl
    have e4 : shp 9 4 = 0 := rfl
    rw [e3, e4]; simp [manyB]; try omega
  · have e3 : shp 10 3 = 1 := rfl
    have e4 : shp 10 4 = 1 := rfl
    rw [e3, e4]; simp [manyB]; try omega
theorem shp_sub {K : Nat} (h1 : 1 ≤ K) (h2 : K ≤ 10) {n : Nat} (hn : 0 < n) (hm : manyB (K : Int) n = true) : (shp K 5 = 1 ∨ shp K 5 = 2) ∧ decide (shp K 5 = 2) = decide ((K : Int) = 8) := by
  rcases kind_cases h1 h2 with rfl | rfl | rfl | rfl | rfl | rfl | rfl | rfl | rfl | rfl <;> first | (exact ⟨.inl rfl, rfl⟩) | (exact ⟨.inr rfl, rfl⟩) | (exfalso; simp [manyB] at hm; omega)

end Go.Proofs.YteaojmcfppbgiaaGreatDoor

/- tree.all over nodes, with the tests that the program hands it. -/
namespace Go.Proofs.YteaojmcfppbgiaaGreatDoor
open Go.RowKit
set_option linter.unusedVariables false

theorem contains_any (l : List RT) (A : Option Addr) (cap lo hi : Nat) (p : Addr) (Q : Nat → Bool) (w : World) (hl : l.length ≤ maxLen) (hn : NodesAt w lo hi A l) (hhi : hi ≤ w.heap.size) (ht : TestN w 144 [.pointer (some p)] l fun i => !Q i) :
    Calls Tryz.prog 143 #[.slice A l.length cap, .func (.func 144) #[] #[.pointer (some p)]] w fun e w' => e = .returned (.bool (!allB Q l.length)) ∧ Below w.heap.size w w' := by
  have HC := Lib.hid (index_any l A cap lo hi p (fun i => !Q i) w hl hn hhi ht)
  clear hl hn hhi ht
  go_enter Tryz.func143, Tryz.ntmps143
  go_wp2_with fail
  refine HC.out.mono ?_
  rintro e w1 ⟨r, rfl, hr, hb⟩
  have HR := Lib.hid (idx_all hr)
  clear hr
  go_wp2_with fail
  go_ret
  exact ⟨by rw [HR.out]; rfl, hb⟩

theorem not_stands (t : RT) (F : Option Addr) (C : Nat) (pb po : Nat) (q : Addr) (b : Bool) (w : World) (hc : w.cell? ⟨pb, po, none⟩ = some (.func (.func 109) #[] #[.pointer (some q)])) (lo hi : Nat) (h : IsNode w lo hi t F C) (hhi : hi ≤ w.heap.size)
    (hq : ∀ W, Below w.heap.size w W → IsNode W lo hi t F C → Calls Tryz.prog 109 #[nodeV t F C, .pointer (some q)] W fun e w' => e = .returned (.bool b) ∧ Below W.heap.size W w') :
    Calls Tryz.prog 144 #[nodeV t F C, .pointer (some ⟨pb, po, none⟩)] w fun e w' => e = .returned (.bool (!b)) ∧ Below w.heap.size w w' := by
  have HQ := Lib.hid hq
  have hlt : pb < w.heap.size := World.block_lt_of_cell? w _ hc
  clear hq
  unfold nodeV at HQ ⊢
  go_enter Tryz.func144, Tryz.ntmps144
  go_wp2_with fail
  refine (HQ.out _ ((Below.refl _ _).alloc (Nat.le_refl _) _) (h.alloc hhi _)).mono ?_
  rintro e w1 ⟨rfl, hb⟩
  go_wp2_with fail
  go_ret
  exact ⟨rfl, ((Below.refl _ _).alloc (Nat.le_refl _) _).trans (hb.mono (by simp))⟩

theorem all_stands (l : List RT) (A : Option Addr) (cap lo hi : Nat) (q : Addr) (Q : Nat → Bool) (w : World) (hl : l.length ≤ maxLen) (hn : NodesAt w lo hi A l) (hhi : hi ≤ w.heap.size) (ht : TestN w 109 [.pointer (some q)] l Q) :
    Calls Tryz.prog 96 #[.slice A l.length cap, .func (.func 109) #[] #[.pointer (some q)]] w fun e w' => e = .returned (.bool (allB Q l.length)) ∧ Below w.heap.size w w' := by
  obtain ⟨W, hW⟩ : ∃ W, w.alloc (.cells #[.func (.func 109) #[] #[.pointer (some q)]] 80) = W := ⟨_, rfl⟩
  have hB : Below w.heap.size w W := by rw [← hW]; exact (Below.refl _ _).alloc (Nat.le_refl _) _
  have hz : w.heap.size < W.heap.size := by rw [← hW]; simp
  have hcell : W.cell? ⟨w.heap.size, 0, none⟩ = some (.func (.func 109) #[] #[.pointer (some q)]) := by rw [← hW, World.cell?_alloc_mark]; rfl
  have HC := Lib.hid (contains_any l A cap lo hi ⟨w.heap.size, 0, none⟩ Q W hl (hn.kept hB hhi) (by omega) (fun i h lo' hi' F C W' hb hx hh =>
    not_stands l[i] F C w.heap.size 0 q (Q i) W' ((hb.cell (p := ⟨w.heap.size, 0, none⟩) hz).trans hcell) lo' hi' hx hh (fun W2 hb2 hx2 => ht i h lo' hi' F C W2 (hB.trans ((hb.mono hB.size).trans (hb2.mono (Nat.le_trans hB.size hb.size)))) hx2 (Nat.le_trans hh hb2.size))))
  have HW := Lib.hid hW
  have HB := Lib.hid hB
  clear hl hn hhi ht hW hB hcell hz
  go_enter Tryz.func96, Tryz.ntmps96
  go_wp2_with fail
  rw [HW.out]
  refine HC.out.mono ?_
  rintro e w1 ⟨rfl, hb⟩
  go_wp2_with fail
  go_ret
  exact ⟨by simp, HB.out.trans (hb.mono HB.out.size)⟩

theorem not_pattern (t : RT) (F : Option Addr) (C : Nat) (pb po : Nat) (b : Bool) (w : World) (hc : w.cell? ⟨pb, po, none⟩ = some (.func (.func 41) #[] #[])) (lo hi : Nat) (h : IsNode w lo hi t F C) (hhi : hi ≤ w.heap.size)
    (hq : ∀ W, Below w.heap.size w W → IsNode W lo hi t F C → Calls Tryz.prog 41 #[nodeV t F C] W fun e w' => e = .returned (.bool b) ∧ Below W.heap.size W w') :
    Calls Tryz.prog 144 #[nodeV t F C, .pointer (some ⟨pb, po, none⟩)] w fun e w' => e = .returned (.bool (!b)) ∧ Below w.heap.size w w' := by
  have HQ := Lib.hid hq
  have hlt : pb < w.heap.size := World.block_lt_of_cell? w _ hc
  clear hq
  unfold nodeV at HQ ⊢
  go_enter Tryz.func144, Tryz.ntmps144
  go_wp2_with fail
  refine (HQ.out _ ((Below.refl _ _).alloc (Nat.le_refl _) _) (h.alloc hhi _)).mono ?_
  rintro e w1 ⟨rfl, hb⟩
  go_wp2_with fail
  go_ret
  exact ⟨rfl, ((Below.refl _ _).alloc (Nat.le_refl _) _).trans (hb.mono (by simp))⟩

theorem all_pattern (l : List RT) (A : Option Addr) (cap lo hi : Nat) (Q : Nat → Bool) (w : World) (hl : l.length ≤ maxLen) (hn : NodesAt w lo hi A l) (hhi : hi ≤ w.heap.size) (ht : TestN w 41 [] l Q) :
    Calls Tryz.prog 96 #[.slice A l.length cap, .func (.func 41) #[] #[]] w fun e w' => e = .returned (.bool (allB Q l.length)) ∧ Below w.heap.size w w' := by
  obtain ⟨W, hW⟩ : ∃ W, w.alloc (.cells #[.func (.func 41) #[] #[]] 80) = W := ⟨_, rfl⟩
  have hB : Below w.heap.size w W := by rw [← hW]; exact (Below.refl _ _).alloc (Nat.le_refl _) _
  have hz : w.heap.size < W.heap.size := by rw [← hW]; simp
  have hcell : W.cell? ⟨w.heap.size, 0, none⟩ = some (.func (.func 41) #[] #[]) := by rw [← hW, World.cell?_alloc_mark]; rfl
  have HC := Lib.hid (contains_any l A cap lo hi ⟨w.heap.size, 0, none⟩ Q W hl (hn.kept hB hhi) (by omega) (fun i h lo' hi' F C W' hb hx hh =>
    not_pattern l[i] F C w.heap.size 0 (Q i) W' ((hb.cell (p := ⟨w.heap.size, 0, none⟩) hz).trans hcell) lo' hi' hx hh (fun W2 hb2 hx2 => ht i h lo' hi' F C W2 (hB.trans ((hb.mono hB.size).trans (hb2.mono (Nat.le_trans hB.size hb.size)))) hx2 (Nat.le_trans hh hb2.size))))
  have HW := Lib.hid hW
  have HB := Lib.hid hB
  clear hl hn hhi ht hW hB hcell hz
  go_enter Tryz.func96, Tryz.ntmps96
  go_wp2_with fail
  rw [HW.out]
  refine HC.out.mono ?_
  rintro e w1 ⟨rfl, hb⟩
  go_wp2_with fail
  go_ret
  exact ⟨by simp, HB.out.trans (hb.mono HB.out.size)⟩

end Go.Proofs.YteaojmcfppbgiaaGreatDoor

/- tree.stands: what is a right node, by the table of shapes: the document's rule, for every tree that is not too great. -/
namespace Go.Proofs.YteaojmcfppbgiaaGreatDoor
open Go.RowKit
set_option linter.unusedVariables false

def StandsIs (t : RT) : Prop := ∀ (what : Int) (lo hi : Nat) (A : Option Addr) (cap : Nat) (w : World), IsNode w lo hi t A cap → hi ≤ w.heap.size → Shapes w → t.size ≤ 8192 → what = 1 ∨ what = 2 →
    Calls Tryz.prog 72 #[nodeV t A cap, .int .i64 what] w fun e w' => e = .returned (.bool (goodB t (decide (what = 2)))) ∧ Below w.heap.size w w'

/-- The closure that asks each Sub. -/
theorem stands1_any (t : RT) (ht : StandsIs t) (q : Int) (g lo hi : Nat) (A : Option Addr) (cap : Nat) (w : World) (h : IsNode w lo hi t A cap) (hhi : hi ≤ w.heap.size) (hS : Shapes w) (hz : t.size ≤ 8192) (hq : q = 1 ∨ q = 2)
    (hc : w.cell? ⟨g, 5, none⟩ = some (.int .i64 q)) :
    Calls Tryz.prog 109 #[nodeV t A cap, .pointer (some ⟨g, 0, none⟩)] w fun e w' => e = .returned (.bool (goodB t (decide (q = 2)))) ∧ Below w.heap.size w w' := by
  have hlt : g < w.heap.size := World.block_lt_of_cell? w _ hc
  have HT := Lib.hid ht
  have HS := Lib.hid hS
  have HZ := Lib.hid hz
  have HQ := Lib.hid hq
  obtain ⟨r, hr⟩ : ∃ r, goodB t (decide (q = 2)) = r := ⟨_, rfl⟩
  have HR := Lib.hid hr
  rw [hr]
  clear ht hS hz hq hr
  have hv := nodeV_node
  clear hv
  unfold nodeV
  go_enter Tryz.func109, Tryz.ntmps109
  go_wp2_with fail
  refine (HT.out q lo hi A cap _ (h.alloc hhi _) (by simp; omega) (HS.out.below ((Below.refl _ _).alloc (Nat.le_refl _) _)) HZ.out HQ.out).mono ?_
  rintro e w1 ⟨rfl, hb⟩
  rw [HR.out]
  go_wp2_with fail
  go_ret
  exact ⟨rfl, ((Below.refl _ _).alloc (Nat.le_refl _) _).trans (hb.mono (by simp))⟩

theorem topB_not {k : Int} {s : ByteArray} {n : Int} {p : Bool} (l : List RT) (a : Int) (h : topB k s n l.length p = false) : goodB (.node k a s n l) p = false := by
  rw [goodB_node, h]; rfl

set_option maxHeartbeats 1000000 in
theorem stands_any : ∀ t, StandsIs t := by
  intro t
  induction t using RT.ind with
  | h k a s n l ih =>
    intro what lo hi A cap w h hhi hS hsz hw
    obtain ⟨hs, hl, hm⟩ := h.bounds
    rw [size_node] at hsz
    have hll := sizeL_len l
    have HSZ := Lib.hid hsz
    have HLL : Hid (l.length ≤ 8192) := Lib.hid (by omega)
    have IH := Lib.hid ih
    have HN : Hid (NodesAt w lo hi A l) := Lib.hid (h.sub)
    have HS := Lib.hid hS
    have hlt := hS.lt
    have HW := Lib.hid hw
    have HM := Lib.hid (Nat.le_trans hl hm)
    unfold maxLen at hm hs
    clear ih h hS hsz hll hw
    rw [nodeV_node]
    by_cases hk1 : k < 1
    · rw [topB_not l a (by unfold topB; rw [decide_eq_false (by omega : ¬ 1 ≤ k)]; rfl)]
      go_enter Tryz.func72, Tryz.ntmps72
      go_wp2_with fail
      go_ret
      exact ⟨rfl, (Below.refl _ _).alloc (Nat.le_refl _) _⟩
    by_cases hk2 : 10 < k
    · rw [topB_not l a (by unfold topB; rw [decide_eq_false (by omega : ¬ k ≤ 10)]; simp)]
      go_enter Tryz.func72, Tryz.ntmps72
      go_wp2_with fail
      go_ret
      exact ⟨rfl, (Below.refl _ _).alloc (Nat.le_refl _) _⟩
    obtain ⟨K, rfl⟩ : ∃ K : Nat, k = (K : Int) := ⟨k.toNat, by omega⟩
    have hK1 : 1 ≤ K := by omega
    have hK2 : K ≤ 10 := by omega
    have HK1 := Lib.hid hK1
    have HK2 := Lib.hid hK2
    have hK2' : (K : Int) < 11 := by omega
    obtain ⟨v0, hv0⟩ : ∃ v, shp K 0 = v := ⟨_, rfl⟩
    obtain ⟨v1, hv1⟩ : ∃ v, shp K 1 = v := ⟨_, rfl⟩
    obtain ⟨v2, hv2⟩ : ∃ v, shp K 2 = v := ⟨_, rfl⟩
    obtain ⟨v3, hv3⟩ : ∃ v, shp K 3 = v := ⟨_, rfl⟩
    obtain ⟨v4, hv4⟩ : ∃ v, shp K 4 = v := ⟨_, rfl⟩
    obtain ⟨v5, hv5⟩ : ∃ v, shp K 5 = v := ⟨_, rfl⟩
    have c0 := HS.out K 0 (by omega) (by omega)
    have c1 := HS.out K 1 (by omega) (by omega)
    have c2 := HS.out K 2 (by omega) (by omega)
    have c3 := HS.out K 3 (by omega) (by omega)
    have c4 := HS.out K 4 (by omega) (by omega)
    have c5 := HS.out K 5 (by omega) (by omega)
    rw [Nat.add_zero, hv0] at c0
    rw [hv1] at c1
    rw [hv2] at c2
    rw [hv3] at c3
    rw [hv4] at c4
    rw [hv5] at c5
    have HV0 := Lib.hid hv0
    have HV1 := Lib.hid hv1
    have HV2 := Lib.hid hv2
    have HV3 := Lib.hid hv3
    have HV4 := Lib.hid hv4
    have HV5 := Lib.hid hv5
    clear hv0 hv1 hv2 hv3 hv4 hv5
    have hnz := hs
    have hKa : (1 : Int) ≤ (K : Int) := by omega
    have hKb : (K : Int) ≤ 10 := by omega
    have d1 : decide ((K : Int) < 1) = false := decide_eq_false (by omega)
    have d2 : decide ((10 : Int) < (K : Int)) = false := decide_eq_false (by omega)
    clear hk1 hk2
    have E0 : Hid (decide (v0 = what) = (decide ((5 : Int) < K) == decide (what = 2))) := by
      show _ = _
      rw [← HV0.out, shp_is hK1 hK2]
      rcases HW.out with rfl | rfl
      · by_cases h5 : 5 < K
        · have : (5 : Int) < K := by omega
          simp [h5, this]
        · have : ¬ (5 : Int) < K := by omega
          simp [h5, this]
      · by_cases h5 : 5 < K
        · have : (5 : Int) < K := by omega
          simp [h5, this]
        · have : ¬ (5 : Int) < K := by omega
          simp [h5, this]
    have EK : Hid (decide (1 ≤ (K : Int)) = true ∧ decide ((K : Int) ≤ 10) = true) := ⟨decide_eq_true (by omega), decide_eq_true (by omega)⟩
    by_cases hvw : v0 = what
    case neg =>
      rw [topB_not l a (by unfold topB; rw [EK.out.1, EK.out.2, ← E0.out, decide_eq_false hvw]; rfl)]
      have t0 : (v0 != what) = true := by simpa using hvw
      clear hvw
      go_enter Tryz.func72, Tryz.ntmps72
      go_wp2_with fail
      go_ret
      exact ⟨rfl, ((Below.refl _ _).alloc (Nat.le_refl _) _).alloc (by simp) _⟩
    have t0 : (v0 != what) = false := by simpa using hvw
    rw [decide_eq_true hvw] at E0
    clear hvw
    have hbr := bears_any s v1
    rw [← HV1.out, shp_name hK1 hK2, HV1.out] at hbr
    have hW2 : ∀ o1 o2, Below w.heap.size w ((w.alloc o1).alloc o2) := fun o1 o2 => ((Below.refl _ _).alloc (Nat.le_refl _) _).alloc (by simp) _
    have HW2 := Lib.hid hW2
    cases hnm : namedB (K : Int) s with
    | false =>
      rw [topB_not l a (by unfold topB; rw [EK.out.1, EK.out.2, ← E0.out, hnm]; simp)]
      rw [hnm] at hbr
      have HB := Lib.hid hbr
      clear hbr hnm hW2
      go_enter Tryz.func72, Tryz.ntmps72
      go_wp2_with fail
      refine (HB.out _ hs).mono ?_
      rintro e w1 ⟨rfl, hb⟩
      go_wp2_with fail
      go_ret
      exact ⟨rfl, (HW2.out _ _).trans (hb.mono (by simp; omega))⟩
    | true =>
      rw [hnm] at hbr
      have HB := Lib.hid hbr
      have HNM := Lib.hid hnm
      obtain ⟨r, hr⟩ : ∃ r, goodB (.node (K : Int) a s n l) (decide (what = 2)) = r := ⟨_, rfl⟩
      rw [hr]
      have HG := Lib.hid hr
      clear hbr hnm hW2 hr
      go_enter Tryz.func72, Tryz.ntmps72
      go_wp2_with fail
      refine (HB.out _ hs).mono ?_
      rintro e w1 ⟨rfl, hb⟩
      have hz1 := hb.size
      simp at hz1
      have hcell : ∀ p : Addr, p.block < w.heap.size + 1 + 1 → w1.cell? p = ((w.alloc (.cells #[.int .i64 (K : Int), .int .i64 a, .string s, .int .i64 n, .slice A l.length cap] 36)).alloc (.cells #[.int .i64 v0, .int .i64 v1, .int .i64 v2, .int .i64 v3, .int .i64 v4, .int .i64 v5] 160)).cell? p := fun p hp => hb.cell (p := p) (by simpa using hp)
      have hB1 := (HW2.out _ _).trans (hb.mono (by simp; omega))
      have HB1 := Lib.hid hB1
      have HBb := Lib.hid hb
      clear hB1 hb
      by_cases hn0 : n < 0
      · have e0 : numB (K : Int) n = false := by
          cases e : numB (K : Int) n with
          | false => rfl
          | true => have := (shp_num hK1 hK2 n).1 e; omega
        have hr0 : Hid (r = false) := Lib.hid (HG.out.symm.trans (topB_not l a (by unfold topB; rw [EK.out.1, EK.out.2, ← E0.out, HNM.out, e0]; simp)))
        clear e0
        go_wp2_with fail
        go_ret
        exact ⟨by rw [hr0.out]; rfl, HB1.out⟩
      by_cases hn2 : v2 < n
      · have e0 : numB (K : Int) n = false := by
          cases e : numB (K : Int) n with
          | false => rfl
          | true => have := (shp_num hK1 hK2 n).1 e; have := HV2.out; omega
        have hr0 : Hid (r = false) := Lib.hid (HG.out.symm.trans (topB_not l a (by unfold topB; rw [EK.out.1, EK.out.2, ← E0.out, HNM.out, e0]; simp)))
        clear e0
        go_wp2_with fail
        go_ret
        exact ⟨by rw [hr0.out]; rfl, HB1.out⟩
      have e0 : Hid (numB (K : Int) n = true) := (shp_num hK1 hK2 n).2 ⟨by omega, by have := HV2.out; omega⟩
      by_cases hm3 : (l.length : Int) < v3
      · have e1 : manyB (K : Int) l.length = false := by
          cases e : manyB (K : Int) l.length with
          | false => rfl
          | true => have := (shp_many hK1 hK2 HLL.out).1 e; have := HV3.out; omega
        have hr0 : Hid (r = false) := Lib.hid (HG.out.symm.trans (topB_not l a (by unfold topB; rw [EK.out.1, EK.out.2, ← E0.out, e1]; simp)))
        clear e1
        go_wp2_with fail
        go_ret
        exact ⟨by rw [hr0.out]; rfl, HB1.out⟩
      by_cases hm4 : v4 < (l.length : Int)
      · have e1 : manyB (K : Int) l.length = false := by
          cases e : manyB (K : Int) l.length with
          | false => rfl
          | true => have := (shp_many hK1 hK2 HLL.out).1 e; have := HV4.out; omega
        have hr0 : Hid (r = false) := Lib.hid (HG.out.symm.trans (topB_not l a (by unfold topB; rw [EK.out.1, EK.out.2, ← E0.out, e1]; simp)))
        clear e1
        go_wp2_with fail
        go_ret
        exact ⟨by rw [hr0.out]; rfl, HB1.out⟩
      have e1 : Hid (manyB (K : Int) l.length = true) := (shp_many hK1 hK2 HLL.out).2 ⟨by have := HV3.out; omega, by have := HV4.out; omega⟩
      have hres : goodB (.node (K : Int) a s n l) (decide (what = 2)) = allB (atB (fun t => goodB t (decide (v5 = 2))) l) l.length := by
        rw [goodB_node, goodL_at]
        have et : topB (K : Int) s n l.length (decide (what = 2)) = true := by
          unfold topB; rw [EK.out.1, EK.out.2, ← E0.out, HNM.out, e0.out, e1.out]; rfl
        rw [et, Bool.true_and]
        by_cases h0 : 0 < l.length
        · rw [← HV5.out, (shp_sub hK1 hK2 h0 e1.out).2]
        · have : l = [] := List.eq_nil_of_length_eq_zero (by omega)
          subst this
          rw [goodL_all, goodL_all]; rfl
      have hall := all_stands l A cap lo hi ⟨w.heap.size + 1, 0, none⟩ (atB (fun t => goodB t (decide (v5 = 2))) l) w1 HM.out (HN.out.kept HB1.out hhi) (by omega) (fun i hi' lo' hi2 F C W hW hx hh => by
        have e5 : W.cell? ⟨w.heap.size + 1, 5, none⟩ = some (.int .i64 v5) := by
          rw [hW.cell (p := ⟨w.heap.size + 1, 5, none⟩) (by show w.heap.size + 1 < w1.heap.size; omega), hcell ⟨w.heap.size + 1, 5, none⟩ (by show w.heap.size + 1 < w.heap.size + 1 + 1; omega)]
          have := World.cell?_alloc_mark (w.alloc (.cells #[.int .i64 (K : Int), .int .i64 a, .string s, .int .i64 n, .slice A l.length cap] 36))
          simp at this
          rw [this]; rfl
        have hq : v5 = 1 ∨ v5 = 2 := by have := (shp_sub hK1 hK2 (by omega : 0 < l.length) e1.out).1; rw [HV5.out] at this; exact this
        have hmem : l[i] ∈ l := List.getElem_mem hi'
        have hsz := size_mem hmem
        have := stands1_any l[i] (IH.out _ hmem) v5 (w.heap.size + 1) lo' hi2 F C W hx hh (HS.out.below (HB1.out.trans (hW.mono HB1.out.size))) (by have := HSZ.out; omega) hq e5
        rw [atB_of _ hi']
        exact this)
      have HA := Lib.hid hall
      have HR := Lib.hid (HG.out.symm.trans hres)
      clear hres hall
      go_wp2_with fail
      refine HA.out.mono ?_
      rintro e w2 ⟨rfl, hb2⟩
      go_wp2_with fail
      go_ret
      exact ⟨by rw [HR.out]; rfl, HB1.out.trans (hb2.mono HB1.out.size)⟩

end Go.Proofs.YteaojmcfppbgiaaGreatDoor

/- tree.Expr, tree.Pattern. -/
namespace Go.Proofs.YteaojmcfppbgiaaGreatDoor
open Go.RowKit
set_option linter.unusedVariables false

theorem fit_size {t : RT} (h : fitB t = true) : t.size ≤ 8192 := (fitB_true.1 h).1

theorem expr_any (t : RT) (lo hi : Nat) (A : Option Addr) (cap : Nat) (w : World) (h : IsNode w lo hi t A cap) (hhi : hi ≤ w.heap.size) (hS : Shapes w) :
    Calls Tryz.prog 34 #[nodeV t A cap] w fun e w' => e = .returned (.bool (fitB t && goodB t false)) ∧ Below w.heap.size w w' := by
  have hf := fits_any t lo hi A cap
  cases hb : fitB t with
  | false =>
    rw [hb] at hf
    have HF := Lib.hid hf
    clear hf hb
    unfold nodeV at HF ⊢
    go_enter Tryz.func34, Tryz.ntmps34
    go_wp2_with fail
    refine (HF.out _ (h.alloc hhi _) (by simp; omega)).mono ?_
    rintro e w1 ⟨rfl, hb1⟩
    go_wp2_with fail
    go_ret
    exact ⟨rfl, ((Below.refl _ _).alloc (Nat.le_refl _) _).trans (hb1.mono (by simp))⟩
  | true =>
    have hst := fun W h1 h2 h3 => stands_any t 1 lo hi A cap W h1 h2 h3 (fit_size hb) (by decide)
    rw [show decide ((1 : Int) = 2) = false from rfl] at hst
    obtain ⟨r, hr⟩ : ∃ r, goodB t false = r := ⟨_, rfl⟩
    rw [hr] at hst
    rw [hb] at hf
    rw [hr, Bool.true_and]
    have HF := Lib.hid hf
    have HT := Lib.hid hst
    clear hf hb hr hst
    unfold nodeV at HF HT ⊢
    go_enter Tryz.func34, Tryz.ntmps34
    go_wp2_with fail
    refine (HF.out _ (h.alloc hhi _) (by simp; omega)).mono ?_
    rintro e w1 ⟨rfl, hb1⟩
    have hz1 := hb1.size
    simp at hz1
    have hB1 := ((Below.refl _ _).alloc (Nat.le_refl _) _).trans (hb1.mono (by simp))
    have hcell := fun p hp => hb1.cell (p := p) hp
    go_wp2_with fail
    refine (HT.out _ ((h.alloc hhi _).kept hb1 (by simp; omega)) (by omega) (hS.below hB1)).mono ?_
    rintro e w2 ⟨rfl, hb2⟩
    go_wp2_with fail
    go_ret
    exact ⟨rfl, hB1.trans (hb2.mono (by omega))⟩

theorem pattern_any (t : RT) (lo hi : Nat) (A : Option Addr) (cap : Nat) (w : World) (h : IsNode w lo hi t A cap) (hhi : hi ≤ w.heap.size) (hS : Shapes w) :
    Calls Tryz.prog 41 #[nodeV t A cap] w fun e w' => e = .returned (.bool (fitB t && goodB t true)) ∧ Below w.heap.size w w' := by
  have hf := fits_any t lo hi A cap
  cases hb : fitB t with
  | false =>
    rw [hb] at hf
    have HF := Lib.hid hf
    clear hf hb
    unfold nodeV at HF ⊢
    go_enter Tryz.func41, Tryz.ntmps41
    go_wp2_with fail
    refine (HF.out _ (h.alloc hhi _) (by simp; omega)).mono ?_
    rintro e w1 ⟨rfl, hb1⟩
    go_wp2_with fail
    go_ret
    exact ⟨rfl, ((Below.refl _ _).alloc (Nat.le_refl _) _).trans (hb1.mono (by simp))⟩
  | true =>
    have hst := fun W h1 h2 h3 => stands_any t 2 lo hi A cap W h1 h2 h3 (fit_size hb) (by decide)
    rw [show decide ((2 : Int) = 2) = true from rfl] at hst
    obtain ⟨r, hr⟩ : ∃ r, goodB t true = r := ⟨_, rfl⟩
    rw [hr] at hst
    rw [hb] at hf
    rw [hr, Bool.true_and]
    have HF := Lib.hid hf
    have HT := Lib.hid hst
    clear hf hb hr hst
    unfold nodeV at HF HT ⊢
    go_enter Tryz.func41, Tryz.ntmps41
    go_wp2_with fail
    refine (HF.out _ (h.alloc hhi _) (by simp; omega)).mono ?_
    rintro e w1 ⟨rfl, hb1⟩
    have hz1 := hb1.size
    simp at hz1
    have hB1 := ((Below.refl _ _).alloc (Nat.le_refl _) _).trans (hb1.mono (by simp))
    have hcell := fun p hp => hb1.cell (p := p) hp
    go_wp2_with fail
    refine (HT.out _ ((h.alloc hhi _).kept hb1 (by simp; omega)) (by omega) (hS.below hB1)).mono ?_
    rintro e w2 ⟨rfl, hb2⟩
    go_wp2_with fail
    go_ret
    exact ⟨rfl, hB1.trans (hb2.mono (by omega))⟩

end Go.Proofs.YteaojmcfppbgiaaGreatDoor
