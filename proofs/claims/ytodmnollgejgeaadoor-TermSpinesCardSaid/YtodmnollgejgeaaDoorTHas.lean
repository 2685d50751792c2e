/- term.Has, term.Loose, term.Right, for every term; the document's Has and Loose, plainly. -/
import Derived.Test.YtodmnollgejgeaaDoorTTell
namespace Go.Proofs.YtodmnollgejgeaaDoor
open Go.RowKit
set_option linter.unusedVariables false
set_option maxRecDepth 100000

/-- How many binders more stand above a Sub, as the document's text counts them. -/
def bndR (k : Int) (i : Nat) : Int := if i = 1 ∧ k ≠ 5 then 1 else 0
theorem bndR_01 (k : Int) (i : Nat) : 0 ≤ bndR k i ∧ bndR k i ≤ 1 := by unfold bndR; split <;> omega
theorem bnd_eq {k : Int} {l : List TM} {i : Nat} (hl : l.length = manyM k) (hi : i < l.length) : bndR k i = bnd k i := by
  unfold bndR bnd
  unfold manyM at hl
  split at hl
  · split <;> split <;> omega
  · split at hl
    · have : i = 0 := by omega
      subst this; simp
    · omega
mutual
def looseT : TM → Int → Int
  | .node k n l, x => if k = 1 ∧ x ≤ n then n - x + 1 else looseL k 0 l x
def looseL (k : Int) (i : Nat) : List TM → Int → Int
  | [], _ => 0
  | t :: r, x => max (looseT t (x + bndR k i)) (looseL k (i + 1) r x)
end
mutual
def hasT : TM → Int → Bool
  | .node k n l, m => if k = 1 then decide (n = m) else hasL k 0 l m
def hasL (k : Int) (i : Nat) : List TM → Int → Bool
  | [], _ => false
  | t :: r, m => hasT t (m + bndR k i) || hasL k (i + 1) r m
end
theorem looseT_node (k n : Int) (l : List TM) (x : Int) : looseT (.node k n l) x = if k = 1 ∧ x ≤ n then n - x + 1 else looseL k 0 l x := by rw [looseT]
theorem looseL_nil (k : Int) (i : Nat) (x : Int) : looseL k i [] x = 0 := by rw [looseL]
theorem looseL_cons (k : Int) (i : Nat) (t : TM) (r : List TM) (x : Int) : looseL k i (t :: r) x = max (looseT t (x + bndR k i)) (looseL k (i + 1) r x) := by rw [looseL]
theorem hasT_node (k n : Int) (l : List TM) (m : Int) : hasT (.node k n l) m = if k = 1 then decide (n = m) else hasL k 0 l m := by rw [hasT]
theorem hasL_nil (k : Int) (i : Nat) (m : Int) : hasL k i [] m = false := by rw [hasL]
theorem hasL_cons (k : Int) (i : Nat) (t : TM) (r : List TM) (m : Int) : hasL k i (t :: r) m = (hasT t (m + bndR k i) || hasL k (i + 1) r m) := by rw [hasL]
theorem looseL_snoc : ∀ (l : List TM) (k : Int) (i : Nat) (t : TM) (x : Int), looseL k i (l ++ [t]) x = max (looseL k i l x) (max (looseT t (x + bndR k (i + l.length))) 0)
  | [], k, i, t, x => by rw [List.nil_append, looseL_cons, looseL_nil, looseL_nil]; simp; omega
  | u :: l, k, i, t, x => by
    rw [List.cons_append, looseL_cons, looseL_snoc l, looseL_cons]
    have e : i + 1 + l.length = i + (u :: l).length := by simp; omega
    rw [e]; omega
theorem hasL_snoc : ∀ (l : List TM) (k : Int) (i : Nat) (t : TM) (m : Int), hasL k i (l ++ [t]) m = (hasL k i l m || hasT t (m + bndR k (i + l.length)))
  | [], k, i, t, m => by rw [List.nil_append, hasL_cons, hasL_nil, hasL_nil]; simp
  | u :: l, k, i, t, m => by
    rw [List.cons_append, hasL_cons, hasL_snoc l, hasL_cons]
    have e : i + 1 + l.length = i + (u :: l).length := by simp; omega
    rw [e, Bool.or_assoc]
theorem looseT_nonneg : ∀ (t : TM) (x : Int), 0 ≤ looseT t x := by
  intro t
  induction t using TM.ind with
  | h k n l ih =>
    intro x
    rw [looseT_node]
    split
    · omega
    · have : ∀ (r : List TM) (i : Nat), 0 ≤ looseL k i r x := by
        intro r
        induction r with
        | nil => intro i; rw [looseL_nil]; omega
        | cons u r ih2 => intro i; rw [looseL_cons]; have := ih2 (i + 1); omega
      exact this l 0
theorem looseL_nonneg (k x : Int) : ∀ (r : List TM) (i : Nat), 0 ≤ looseL k i r x := by
  intro r
  induction r with
  | nil => intro i; rw [looseL_nil]; omega
  | cons u r ih2 => intro i; rw [looseL_cons]; have := ih2 (i + 1); omega

/-- What the telling comes to. -/
theorem fold_loose : ∀ (t : TM) (p x : Int), 0 ≤ p → tgoodB t = true → foldT looseF p t x = max p (looseT t x) := by
  intro t
  induction t using TM.ind with
  | h k n l ih =>
    intro p x hp hg
    rw [tgoodB_node, Bool.and_eq_true] at hg
    obtain ⟨_, _, hlen, _, _, _⟩ := ttop_facts hg.1
    rw [foldT_node, looseT_node]
    have hL : ∀ (m : Nat), m ≤ l.length → ∀ q : Int, 0 ≤ q → foldM looseF q k 0 (l.take m) x = max q (looseL k 0 (l.take m) x) := by
      intro m
      induction m with
      | zero => intro _ q hq; rw [List.take_zero, foldM_nil, looseL_nil]; omega
      | succ m ihm =>
        intro hm q hq
        have hml : m < l.length := by omega
        have h0 := looseL_nonneg k x (l.take m) 0
        rw [foldM_take _ _ _ _ hml, ihm (by omega) q hq, take_snocM hml, looseL_snoc, ih _ (List.getElem_mem hml) _ _ (by omega) (tgoodL_at hg.2 hml)]
        have e : 0 + (l.take m).length = m := by simp; omega
        rw [e, bnd_eq hlen hml]
        have := looseT_nonneg l[m] (x + bnd k m)
        omega
    have hall := hL l.length (Nat.le_refl _)
    rw [List.take_length] at hall
    by_cases hk : k = 1
    · subst hk
      have hl0 : l = [] := List.eq_nil_of_length_eq_zero (by rw [hlen]; rfl)
      subst hl0
      rw [foldM_nil]
      unfold looseF
      simp only [TM.k, TM.n, if_pos, true_and, looseL_nil]
      split <;> omega
    · have e1 : looseF p (.node k n l) x = p := by unfold looseF; exact if_neg hk
      rw [e1, hall p hp, if_neg (fun h => hk h.1)]
theorem fold_has (n : Int) : ∀ (t : TM) (p : Bool) (x : Int), tgoodB t = true → foldT (hasF n) p t x = (p || hasT t (n + x)) := by
  intro t
  induction t using TM.ind with
  | h k v l ih =>
    intro p x hg
    rw [tgoodB_node, Bool.and_eq_true] at hg
    obtain ⟨_, _, hlen, _, _, _⟩ := ttop_facts hg.1
    rw [foldT_node, hasT_node]
    have hL : ∀ (m : Nat), m ≤ l.length → ∀ q : Bool, foldM (hasF n) q k 0 (l.take m) x = (q || hasL k 0 (l.take m) (n + x)) := by
      intro m
      induction m with
      | zero => intro _ q; rw [List.take_zero, foldM_nil, hasL_nil]; simp
      | succ m ihm =>
        intro hm q
        have hml : m < l.length := by omega
        rw [foldM_take _ _ _ _ hml, ihm (by omega) q, take_snocM hml, hasL_snoc, ih _ (List.getElem_mem hml) _ _ (tgoodL_at hg.2 hml)]
        have e : 0 + (l.take m).length = m := by simp; omega
        rw [e, bnd_eq hlen hml, ← Int.add_assoc, Bool.or_assoc]
    have hall := hL l.length (Nat.le_refl _)
    rw [List.take_length] at hall
    by_cases hk : k = 1
    · subst hk
      have hl0 : l = [] := List.eq_nil_of_length_eq_zero (by rw [hlen]; rfl)
      subst hl0
      rw [foldM_nil]
      unfold hasF
      simp only [TM.k, TM.n, if_pos]
      have e : (v - x == n) = decide (v = n + x) := by
        by_cases h : v = n + x
        · rw [decide_eq_true h, beq_iff_eq]; omega
        · rw [decide_eq_false h, beq_eq_false_iff_ne]; omega
      rw [e]; simp
    · have e1 : hasF n p (.node k v l) x = p := by
        unfold hasF
        have : ((TM.node k v l).k == 1) = false := by rw [beq_eq_false_iff_ne]; exact hk
        rw [this]; simp
      rw [e1, hall p, if_neg hk]

mutual
/-- The numbers of all nodes of some kinds, in the order in which they are told. -/
def colT (f : Int → Bool) : TM → List Int
  | .node k n l => (if f k then [n] else []) ++ colL f l
def colL (f : Int → Bool) : List TM → List Int
  | [] => []
  | t :: r => colT f t ++ colL f r
end
theorem colT_node (f : Int → Bool) (k n : Int) (l : List TM) : colT f (.node k n l) = (if f k then [n] else []) ++ colL f l := by rw [colT]
theorem colL_nil (f : Int → Bool) : colL f [] = [] := by rw [colL]
theorem colL_cons (f : Int → Bool) (t : TM) (r : List TM) : colL f (t :: r) = colT f t ++ colL f r := by rw [colL]
theorem colL_append (f : Int → Bool) : ∀ l r : List TM, colL f (l ++ r) = colL f l ++ colL f r
  | [], r => by rw [List.nil_append, colL_nil, List.nil_append]
  | t :: l, r => by rw [List.cons_append, colL_cons, colL_append f l r, colL_cons, List.append_assoc]
theorem colL_take (f : Int → Bool) {l : List TM} {i : Nat} (h : i < l.length) : colL f (l.take (i + 1)) = colL f (l.take i) ++ colT f l[i] := by
  rw [take_snocM h, colL_append, colL_cons, colL_nil, List.append_nil]

def numF (f : Int → Bool) (p : List Int) (t : TM) (_ : Int) : List Int := if f t.k then p ++ [t.n] else p
theorem fold_num (f : Int → Bool) : ∀ (t : TM) (p : List Int) (x : Int), foldT (numF f) p t x = p ++ colT f t := by
  intro t
  induction t using TM.ind with
  | h k v l ih =>
    intro p x
    rw [foldT_node, colT_node]
    have hL : ∀ (i : Nat), i ≤ l.length → ∀ q, foldM (numF f) q k 0 (l.take i) x = q ++ colL f (l.take i) := by
      intro i
      induction i with
      | zero => intro _ q; rw [List.take_zero, foldM_nil, colL_nil, List.append_nil]
      | succ i ihm =>
        intro hm q
        have hml : i < l.length := by omega
        rw [foldM_take _ _ _ _ hml, ihm (by omega) q, ih _ (List.getElem_mem hml), colL_take f hml, List.append_assoc]
    have hall := hL l.length (Nat.le_refl _)
    rw [List.take_length] at hall
    rw [hall]
    unfold numF
    show (if f k = true then _ else _) ++ _ = _
    split <;> simp [TM.n]
/-- The kinds of entries. -/
def entK (k : Int) : Bool := decide (k = 6) || decide (k = 7)
theorem bool_and6 (a b c d e : Bool) : ((((a && b) && c) && d) && e) = ((a && (b && d)) && (c && e)) := by cases a <;> cases b <;> cases c <;> cases d <;> cases e <;> rfl
theorem fold_right (n m : Int) (hn : 0 ≤ n) : ∀ (t : TM) (p : Bool) (x : Int), tgoodB t = true → foldT (rightF n m) p t x = ((p && decide (looseT t x ≤ n)) && (colT entK t).all fun z => decide (z < m)) := by
  intro t
  induction t using TM.ind with
  | h k v l ih =>
    intro p x hg
    rw [tgoodB_node, Bool.and_eq_true] at hg
    obtain ⟨_, _, hlen, _, _, _⟩ := ttop_facts hg.1
    rw [foldT_node, looseT_node, colT_node]
    have hL : ∀ (i : Nat), i ≤ l.length → ∀ q : Bool, foldM (rightF n m) q k 0 (l.take i) x = ((q && decide (looseL k 0 (l.take i) x ≤ n)) && (colL entK (l.take i)).all fun z => decide (z < m)) := by
      intro i
      induction i with
      | zero => intro _ q; rw [List.take_zero, foldM_nil, looseL_nil, colL_nil, decide_eq_true hn]; simp
      | succ i ihm =>
        intro hm q
        have hml : i < l.length := by omega
        rw [foldM_take _ _ _ _ hml, ihm (by omega) q, ih _ (List.getElem_mem hml) _ _ (tgoodL_at hg.2 hml), colL_take _ hml, take_snocM hml, looseL_snoc, List.all_append]
        have e : 0 + (l.take i).length = i := by simp; omega
        rw [e, bnd_eq hlen hml]
        have h0 := looseT_nonneg l[i] (x + bnd k i)
        have e2 : decide (max (looseL k 0 (l.take i) x) (max (looseT l[i] (x + bnd k i)) 0) ≤ n) = (decide (looseL k 0 (l.take i) x ≤ n) && decide (looseT l[i] (x + bnd k i) ≤ n)) := by
          rw [← Bool.decide_and]
          congr 1
          apply propext
          omega
        rw [e2, bool_and6]
    have hall := hL l.length (Nat.le_refl _)
    rw [List.take_length] at hall
    by_cases hk : k = 1
    · subst hk
      have hl0 : l = [] := List.eq_nil_of_length_eq_zero (by rw [hlen]; rfl)
      subst hl0
      rw [foldM_nil, colL_nil]
      have e1 : rightF n m p (.node 1 v []) x = (p && decide (v - x < n)) := if_pos rfl
      have e2 : decide (v - x < n) = decide ((if (1 : Int) = 1 ∧ x ≤ v then v - x + 1 else looseL 1 0 [] x) ≤ n) := by
        congr 1
        apply propext
        rw [looseL_nil]
        split <;> omega
      rw [e1, e2]
      simp [entK]
    · rw [hall, if_neg (fun h => hk h.1), List.all_append]
      by_cases hk6 : k = 6 ∨ k = 7
      · have e1 : rightF n m p (.node k v l) x = (p && decide (v < m)) := (if_neg hk).trans (if_pos hk6)
        have e2 : entK k = true := by unfold entK; rcases hk6 with rfl | rfl <;> rfl
        rw [e1, e2, if_pos rfl]
        simp only [List.all_cons, List.all_nil, Bool.and_true]
        cases p <;> cases decide (v < m) <;> simp
      · have e1 : rightF n m p (.node k v l) x = p := (if_neg hk).trans (if_neg hk6)
        have e2 : entK k = false := by
          unfold entK
          rw [decide_eq_false (fun h => hk6 (.inl h)), decide_eq_false (fun h => hk6 (.inr h))]; rfl
        rw [e1, e2]
        simp

theorem good_num {t : TM} (h : tgoodB t = true) : 0 ≤ t.n ∧ t.n ≤ 1048576 := by
  obtain ⟨k, n, l⟩ := t
  rw [tgoodB_node, Bool.and_eq_true] at h
  obtain ⟨_, _, _, h4, h5, _⟩ := ttop_facts h.1
  have : mostM k ≤ 1048576 := by unfold mostM; split; omega; split <;> omega
  exact ⟨h4, by show n ≤ _; omega⟩

def hasB (t : TM) (n : Int) : Bool := decide (0 ≤ n) && (shapedB t && hasT t n)
def looseN (t : TM) : Int := if shapedB t then looseT t 0 else 0
def rightB (t : TM) (n m : Int) : Bool := decide (0 ≤ n) && (shapedB t && (decide (looseT t 0 ≤ n) && (colT entK t).all fun z => decide (z < m)))

set_option maxHeartbeats 1000000 in
theorem tHas_any (t : TM) (n : Int) (lo hi : Nat) (A : Option Addr) (cap : Nat) (w : World) (h : IsTerm w lo hi t A cap) (hhi : hi ≤ w.heap.size) (hS : ShapesM w) :
    Calls Tryd.prog 14 #[termV t A cap, .int .i64 n] w fun e w' => e = .returned (.bool (hasB t n)) ∧ Below w.heap.size w w' := by
  have hsh := fun W h1 h2 h3 => shaped_any t lo hi A cap W h1 h2 h3
  have HW2 := Lib.hid (fun o1 o2 => ((Below.refl w.heap.size w).alloc (Nat.le_refl _) o1).alloc (by simp) o2)
  have HH := Lib.hid (fun W (hb : Below w.heap.size w W) => h.kept hb hhi)
  have HSS := Lib.hid (fun W (hb : Below w.heap.size w W) => hS.kept hb)
  have hgl := hS.lt
  obtain ⟨r, hr⟩ : ∃ r, hasB t n = r := ⟨_, rfl⟩
  rw [hr]
  unfold hasB at hr
  have HR := Lib.hid hr
  clear hr h hS
  by_cases hn : n < 0
  · have HR2 : Hid (r = false) := Lib.hid (by rw [← HR.out, decide_eq_false (by omega)]; rfl)
    have e1 : decide (n < 0) = true := decide_eq_true hn
    unfold termV
    clear hn hsh
    go_enter Tryd.func14, Tryd.ntmps14
    go_wp2_with fail
    go_ret
    exact ⟨by rw [HR2.out]; rfl, HW2.out _ _⟩
  have e1 : decide (n < 0) = false := decide_eq_false hn
  have EN : Hid (decide (0 ≤ n) = true) := Lib.hid (decide_eq_true (by omega))
  cases hx : shapedB t with
  | false =>
    rw [hx] at hsh
    have HR2 : Hid (r = false) := Lib.hid (by rw [← HR.out, hx]; simp)
    have HC := Lib.hid hsh
    unfold termV at HC ⊢
    clear hn hsh hx
    go_enter Tryd.func14, Tryd.ntmps14
    go_wp2_with fail
    refine (HC.out _ (HH.out _ (HW2.out _ _)) (by simp; omega) (HSS.out _ (HW2.out _ _))).mono ?_
    rintro e w1 ⟨rfl, hb1⟩
    go_wp2_with fail
    go_ret
    exact ⟨by rw [HR2.out]; rfl, (HW2.out _ _).trans (hb1.mono (by simp; omega))⟩
  | true =>
    rw [hx] at hsh
    obtain ⟨f1, f2, f3⟩ := shapedB_true.1 hx
    have HR2 : Hid (r = foldT (hasF n) false t 0) := Lib.hid (by rw [← HR.out, hx, EN.out, fold_has n t false 0 f3]; simp)
    have HF := Lib.hid (And.intro f2 (And.intro f3 f1))
    have HC := Lib.hid hsh
    have HE := Lib.hid (fun (B g q : Nat) (hg : B ≤ g) (hq : q < B) (W : World) => each_has ⟨g, 0, none⟩ ⟨q, 0, none⟩ (tell_has B g q n hg hq) t 0 lo hi A cap false (.int .i64 0) W)
    unfold termV at HC HE ⊢
    clear hn hsh hx f1 f2 f3
    go_enter Tryd.func14, Tryd.ntmps14
    go_wp2_with fail
    refine (HC.out _ (HH.out _ (HW2.out _ _)) (by simp; omega) (HSS.out _ (HW2.out _ _))).mono ?_
    rintro e w1 ⟨rfl, hb1⟩
    have hz1 := hb1.size
    simp at hz1
    have hcell := fun p hp => hb1.cell (p := p) hp
    have HB1 := Lib.hid ((HW2.out (.cells #[.int .i64 t.k, .int .i64 t.n, .slice A t.l.length cap] 24) (.cells #[.int .i64 n] 3)).trans (hb1.mono (by simp; omega)))
    have b1 : Bk w1 (w.heap.size + 1) 3 #[.int .i64 n] := by
      have := (Bk.new (w.alloc (.cells #[.int .i64 t.k, .int .i64 t.n, .slice A t.l.length cap] 24)) 3 #[.int .i64 n]).below hb1 (by simp)
      simpa using this
    have b0 : Bk w1 w.heap.size 24 #[.int .i64 t.k, .int .i64 t.n, .slice A t.l.length cap] := ((Bk.new w _ _).alloc _).below hb1 (by simp; omega)
    have c0 : w1.cell? ⟨w.heap.size, 0, none⟩ = some (.int .i64 t.k) := b0.cell 0
    have c1 : w1.cell? ⟨w.heap.size, 1, none⟩ = some (.int .i64 t.n) := b0.cell 1
    have c2 : w1.cell? ⟨w.heap.size, 2, none⟩ = some (.slice A t.l.length cap) := b0.cell 2
    have hl0 : w.heap.size < w1.heap.size := by omega
    have hl1 : w.heap.size + 1 < w1.heap.size := by omega
    have HK0 := Lib.hid (show w1.cell? ⟨w.heap.size + 1, 0, none⟩ = some (.int .i64 n) from b1.cell 0)
    clear b0 b1 hcell
    have HBa := Lib.hid (HB1.out.alloc (by omega) (.cells #[.bool false] 4))
    go_wp2_with fail
    refine (HE.out w1.heap.size w1.heap.size (w.heap.size + 1) (Nat.le_refl _) hl1 _ ⟨Bk.new _ _ _, (World.cell?_alloc_lt _ _ _ hl1).trans HK0.out⟩ (HH.out _ HBa.out) (by omega) (by simp) (by omega) (by have := HF.out.1; omega) HF.out.2.1 (HSS.out _ HBa.out) (by omega) (by have := HF.out.2.2; omega)).mono ?_
    rintro e w2 ⟨rfl, v2, ⟨b2, _⟩, hA2, _⟩
    have c9 := b2.cell 0
    simp at c9
    have HB2 := Lib.hid (HBa.out.trans ((hA2.below (B := w1.heap.size) (fun k hk => by omega) (by simp)).mono (by omega)))
    have hl2 := b2.lt
    clear hb1 b2 hA2
    go_wp2_with fail
    go_ret
    exact ⟨by rw [HR2.out]; rfl, HB2.out⟩

set_option maxHeartbeats 1000000 in
theorem tLoose_any (t : TM) (lo hi : Nat) (A : Option Addr) (cap : Nat) (w : World) (h : IsTerm w lo hi t A cap) (hhi : hi ≤ w.heap.size) (hS : ShapesM w) :
    Calls Tryd.prog 15 #[termV t A cap] w fun e w' => e = .returned (.int .i64 (looseN t)) ∧ Below w.heap.size w w' := by
  have hsh := fun W h1 h2 h3 => shaped_any t lo hi A cap W h1 h2 h3
  have HW1 := Lib.hid (fun o1 => ((Below.refl w.heap.size w).alloc (Nat.le_refl _) o1))
  have HH := Lib.hid (fun W (hb : Below w.heap.size w W) => h.kept hb hhi)
  have HSS := Lib.hid (fun W (hb : Below w.heap.size w W) => hS.kept hb)
  have hgl := hS.lt
  unfold looseN
  clear h hS
  cases hx : shapedB t with
  | false =>
    rw [hx] at hsh
    have HC := Lib.hid hsh
    rw [if_neg (by simp)]
    unfold termV at HC ⊢
    clear hsh hx
    go_enter Tryd.func15, Tryd.ntmps15
    go_wp2_with fail
    refine (HC.out _ (HH.out _ (HW1.out _)) (by simp; omega) (HSS.out _ (HW1.out _))).mono ?_
    rintro e w1 ⟨rfl, hb1⟩
    go_wp2_with fail
    go_ret
    exact ⟨rfl, (HW1.out _).trans (hb1.mono (by simp))⟩
  | true =>
    rw [hx] at hsh
    rw [if_pos rfl]
    obtain ⟨f1, f2, f3⟩ := shapedB_true.1 hx
    obtain ⟨r, hr⟩ : ∃ r, looseT t 0 = r := ⟨_, rfl⟩
    rw [hr]
    have HR2 : Hid (r = foldT looseF 0 t 0) := Lib.hid (by rw [← hr, fold_loose t 0 0 (by omega) f3]; have := looseT_nonneg t 0; omega)
    have HF := Lib.hid (And.intro f2 (And.intro f3 f1))
    have HC := Lib.hid hsh
    have HE := Lib.hid (fun (B g : Nat) (hg : B ≤ g) (W : World) => each_loose ⟨g, 0, none⟩ (tell_loose B g hg) t 0 lo hi A cap 0 (.int .i64 0) W)
    unfold termV at HC HE ⊢
    clear hsh hx f1 f2 f3 hr
    go_enter Tryd.func15, Tryd.ntmps15
    go_wp2_with fail
    refine (HC.out _ (HH.out _ (HW1.out _)) (by simp; omega) (HSS.out _ (HW1.out _))).mono ?_
    rintro e w1 ⟨rfl, hb1⟩
    have hz1 := hb1.size
    simp at hz1
    have hcell := fun p hp => hb1.cell (p := p) hp
    have HB1 := Lib.hid ((HW1.out (.cells #[.int .i64 t.k, .int .i64 t.n, .slice A t.l.length cap] 24)).trans (hb1.mono (by simp)))
    have b0 : Bk w1 w.heap.size 24 #[.int .i64 t.k, .int .i64 t.n, .slice A t.l.length cap] := (Bk.new w _ _).below hb1 (by simp)
    have c0 : w1.cell? ⟨w.heap.size, 0, none⟩ = some (.int .i64 t.k) := b0.cell 0
    have c1 : w1.cell? ⟨w.heap.size, 1, none⟩ = some (.int .i64 t.n) := b0.cell 1
    have c2 : w1.cell? ⟨w.heap.size, 2, none⟩ = some (.slice A t.l.length cap) := b0.cell 2
    have hl0 : w.heap.size < w1.heap.size := by omega
    have HBa := Lib.hid (HB1.out.alloc (by omega) (.cells #[.int .i64 0] 3))
    clear b0 hcell
    go_wp2_with fail
    refine (HE.out w1.heap.size w1.heap.size (Nat.le_refl _) _ (Bk.new _ _ _) (HH.out _ HBa.out) (by omega) (by simp) (by omega) (by have := HF.out.1; omega) HF.out.2.1 (HSS.out _ HBa.out) (by omega) (by have := HF.out.2.2; omega)).mono ?_
    rintro e w2 ⟨rfl, v2, b2, hA2, _⟩
    have c9 := b2.cell 0
    simp at c9
    have HB2 := Lib.hid (HBa.out.trans ((hA2.below (B := w1.heap.size) (fun k hk => by omega) (by simp)).mono (by omega)))
    have hl2 := b2.lt
    clear hb1 b2 hA2
    go_wp2_with fail
    go_ret
    exact ⟨by rw [HR2.out]; rfl, HB2.out⟩

end Go.Proofs.YtodmnollgejgeaaDoor
