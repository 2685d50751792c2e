/- term.each: each node of a good term is told to a function value, with how many binders stand above it; for the four closures of package term. -/
import Derived.Test.YtofmoggjpgjdgaaDoorM2
import Derived.Deep.RegionHeld3
import Derived.Deep.QuietTactic
import Derived.BigQuiet
import Derived.Test.YtofmoggjpgjdgaaDoorM1
namespace Go.Proofs.YtofmoggjpgjdgaaDoor
open Go.RowKit
set_option linter.unusedVariables false
set_option maxRecDepth 100000

/-- How many binders more stand above a Sub. -/
def bnd (k : Int) (i : Nat) : Int := if i = 1 ∧ (k = 3 ∨ k = 4) then 1 else 0
theorem bnd_01 (k : Int) (i : Nat) : 0 ≤ bnd k i ∧ bnd k i ≤ 1 := by unfold bnd; split <;> omega
theorem shm_bnd {K i : Nat} (h1 : 1 ≤ K) (h2 : K ≤ 8) (hi : i < 2) : shm K (3 + i) = bnd (K : Int) i := by
  have h : i = 0 ∨ i = 1 := by omega
  rcases h with rfl | rfl <;> rcases kind_m h1 h2 with rfl | rfl | rfl | rfl | rfl | rfl | rfl | rfl <;> rfl

section
variable {S : Type}
mutual
def foldT (f : S → TM → Int → S) (p : S) : TM → Int → S
  | .node k n l, x => foldM f (f p (.node k n l) x) k 0 l x
def foldM (f : S → TM → Int → S) (p : S) (k : Int) (i : Nat) : List TM → Int → S
  | [], _ => p
  | t :: r, x => foldM f (foldT f p t (x + bnd k i)) k (i + 1) r x
end
theorem foldT_node (f : S → TM → Int → S) (p : S) (k n : Int) (l : List TM) (x : Int) : foldT f p (.node k n l) x = foldM f (f p (.node k n l) x) k 0 l x := by rw [foldT]
theorem foldM_nil (f : S → TM → Int → S) (p : S) (k : Int) (i : Nat) (x : Int) : foldM f p k i [] x = p := by rw [foldM]
theorem foldM_cons (f : S → TM → Int → S) (p : S) (k : Int) (i : Nat) (t : TM) (r : List TM) (x : Int) : foldM f p k i (t :: r) x = foldM f (foldT f p t (x + bnd k i)) k (i + 1) r x := by rw [foldM]
theorem foldM_snoc (f : S → TM → Int → S) : ∀ (l : List TM) (p : S) (k : Int) (i : Nat) (t : TM) (x : Int), foldM f p k i (l ++ [t]) x = foldT f (foldM f p k i l x) t (x + bnd k (i + l.length))
  | [], p, k, i, t, x => by rw [List.nil_append, foldM_cons, foldM_nil, foldM_nil]; rfl
  | u :: l, p, k, i, t, x => by
    rw [List.cons_append, foldM_cons, foldM_snoc f l, foldM_cons]
    have e : i + 1 + l.length = i + (u :: l).length := by simp; omega
    rw [e]
theorem foldM_take (f : S → TM → Int → S) (p : S) (k : Int) (x : Int) {l : List TM} {i : Nat} (h : i < l.length) : foldM f p k 0 (l.take (i + 1)) x = foldT f (foldM f p k 0 (l.take i) x) l[i] (x + bnd k i) := by
  rw [take_snocM h, foldM_snoc]
  have e : 0 + (l.take i).length = i := by simp; omega
  rw [e]

theorem foldM_cnt {f : S → TM → Int → S} {c : S → Nat} (hc : ∀ p t x, c (f p t x) ≤ c p + 1) : ∀ (t : TM) (p : S) (x : Int), c (foldT f p t x) ≤ c p + t.size := by
  intro t
  induction t using TM.ind with
  | h k n l ih =>
    intro p x
    have hL : ∀ (r : List TM), (∀ u ∈ r, u ∈ l) → ∀ (i : Nat) (q : S), c (foldM f q k i r x) ≤ c q + sizeM r := by
      intro r
      induction r with
      | nil => intro _ i q; rw [foldM_nil]; omega
      | cons u r ihr =>
        intro hm i q
        rw [foldM_cons, sizeM_cons]
        have h1 := ihr (fun v hv => hm v (List.mem_cons_of_mem _ hv)) (i + 1) (foldT f q u (x + bnd k i))
        have h2 := ih u (hm u List.mem_cons_self) q (x + bnd k i)
        omega
    rw [foldT_node, tsize_node]
    have h1 := hL l (fun _ h => h) 0 (f p (.node k n l) x)
    have h2 := hc p (.node k n l) x
    omega
theorem foldM_cntL {f : S → TM → Int → S} {c : S → Nat} (hc : ∀ p t x, c (f p t x) ≤ c p + 1) (k x : Int) : ∀ (r : List TM) (i : Nat) (q : S), c (foldM f q k i r x) ≤ c q + sizeM r
  | [], i, q => by rw [foldM_nil]; omega
  | u :: r, i, q => by
    rw [foldM_cons, sizeM_cons]
    have h1 := foldM_cntL hc k x r (i + 1) (foldT f q u (x + bnd k i))
    have h2 := foldM_cnt hc u q (x + bnd k i)
    omega

/-- Between two worlds nothing has turned but blocks of which T speaks, and new ones. -/
structure Aside (T : Nat → Prop) (w w' : World) : Prop where
  os : w'.os = w.os
  tape : w'.tape = w.tape
  output : w'.output = w.output
  size : w.heap.size ≤ w'.heap.size
  block : ∀ k, k < w.heap.size → ¬ T k → w'.heap[k]? = w.heap[k]?
theorem Aside.of_below {T : Nat → Prop} {w w' : World} (h : Below w.heap.size w w') : Aside T w w' := ⟨h.os, h.tape, h.output, h.size, fun k hk _ => h.block k hk⟩
theorem Aside.trans {T T' : Nat → Prop} {a b c : World} (h : Aside T a b) (k : Aside T' b c) (ht : ∀ i, T' i → T i ∨ a.heap.size ≤ i) : Aside T a c :=
  ⟨k.os.trans h.os, k.tape.trans h.tape, k.output.trans h.output, Nat.le_trans h.size k.size, fun i hi hp => (k.block i (Nat.lt_of_lt_of_le hi h.size) (fun e => (ht i e).elim hp (fun h => by omega))).trans (h.block i hi hp)⟩
theorem Aside.below {T : Nat → Prop} {B : Nat} {w w' : World} (h : Aside T w w') (hT : ∀ k, T k → B ≤ k) (hB : B ≤ w.heap.size) : Below B w w' :=
  ⟨h.os, h.tape, h.output, h.size, fun k hk => h.block k (by omega) (fun e => by have := hT k e; omega)⟩
theorem Aside.cell {T : Nat → Prop} {w w' : World} (h : Aside T w w') {b o : Nat} (hb : b < w.heap.size) (ht : ¬ T b) : w'.cell? ⟨b, o, none⟩ = w.cell? ⟨b, o, none⟩ := World.cell?_of_block (a := ⟨b, o, none⟩) (h.block b hb ht)

/-- What the call of a told function leaves. -/
def TellIs (I : S → Value → World → Prop) (T : Value → Nat → Prop) (q : S) (v : Value) (w : World) (e : Ending) (w' : World) : Prop := e = .returned (.tuple #[]) ∧ ∃ v', I q v' w' ∧ Aside (T v) w w' ∧ ∀ k, T v' k → T v k ∨ w.heap.size ≤ k
/-- What a told function does: its state goes one step, nothing else turns but what is its own. -/
structure Teller (B : Nat) (g : FuncId) (cs : List Value) (I : S → Value → World → Prop) (T : Value → Nat → Prop) (f : S → TM → Int → S) (c : S → Nat) : Prop where
  cnt : ∀ p t x, c (f p t x) ≤ c p + 1
  keep : ∀ p v w w', I p v w → Below w.heap.size w w' → I p v w'
  lt : ∀ p v w, I p v w → ∀ k, T v k → B ≤ k ∧ k < w.heap.size
  call : ∀ (t : TM) (x : Int) (lo hi : Nat) (A : Option Addr) (cap : Nat) (p : S) (v : Value) (w : World), I p v w → IsTerm w lo hi t A cap → hi ≤ B → B ≤ w.heap.size → 0 ≤ x → x ≤ 128 → 0 ≤ t.n → t.n ≤ 1048576 → c p ≤ 8191 →
    Calls Tryd.prog g (⟨termV t A cap :: .int .i64 x :: cs⟩ : Array Value) w (TellIs I T (f p t x) v w)
end
def EachIs {S : Type} (I : S → Value → World → Prop) (T : Value → Nat → Prop) (q : S) (v : Value) (w : World) (e : Ending) (w' : World) : Prop := e = .returned (.tuple #[]) ∧ ∃ v', I q v' w' ∧ Aside (T v) w w' ∧ ∀ k, T v' k → T v k ∨ w.heap.size ≤ k
def EachRel {S : Type} (I : S → Value → World → Prop) (T : Value → Nat → Prop) (f : S → TM → Int → S) (p : S) (v : Value) (w : World) (k : Int) (l : List TM) (x : Int) (iv : Value) (wr : World) : Prop :=
  ∃ (i : Nat) (v' : Value), i ≤ l.length ∧ iv = .int .i64 i ∧ I (foldM f p k 0 (l.take i) x) v' wr ∧ Aside (T v) w wr ∧ (∀ k, T v' k → T v k ∨ w.heap.size < k) ∧ wr.cell? ⟨w.heap.size, 0, none⟩ = some (.int .i64 k) ∧ w.heap.size < wr.heap.size

end Go.Proofs.YtofmoggjpgjdgaaDoor

/- The closures of term.Has, Loose, Right as tellers; what each of these comes to, plainly. -/
namespace Go.Proofs.YtofmoggjpgjdgaaDoor
open Go.RowKit
set_option linter.unusedVariables false
set_option maxRecDepth 100000

theorem Aside.box {g : Nat} {w : World} (o : Obj) (q : Nat) (u : Value) : Aside (fun k => k = g) w ((w.setCell ⟨g, q, none⟩ u).alloc o) :=
  ⟨rfl, rfl, rfl, by simp [World.setCell], fun k hk hn => (Below.heap_alloc _ _ _ (by simp [World.setCell]; exact hk)).trans (Below.heap_setCell _ _ _ _ (by show k ≠ g; exact hn))⟩
theorem cell_set_alloc {w : World} {g q b c : Nat} (o : Obj) (u : Value) (hb : b < w.heap.size) (hne : (⟨g, q, none⟩ : Addr) ≠ ⟨b, c, none⟩) : ((w.setCell ⟨g, q, none⟩ u).alloc o).cell? ⟨b, c, none⟩ = w.cell? ⟨b, c, none⟩ :=
  (World.cell?_alloc_lt _ _ _ (by simp [World.setCell]; exact hb)).trans (World.cell?_setCell_other _ _ _ _ hne)
theorem Aside.none {T : Nat → Prop} {w : World} (o : Obj) : Aside T w (w.alloc o) := Aside.of_below ((Below.refl _ _).alloc (Nat.le_refl _) _)

def hasF (n : Int) (p : Bool) (t : TM) (x : Int) : Bool := p || (t.k == 1 && (t.n - x == n))
def looseF (p : Int) (t : TM) (x : Int) : Int := if t.k = 1 then max p (t.n - x + 1) else p
def rightF (loose entries : Int) (p : Bool) (t : TM) (x : Int) : Bool := if t.k = 1 then p && decide (t.n - x < loose) else if t.k = 6 ∨ t.k = 7 then p && decide (t.n < entries) else p

end Go.Proofs.YtofmoggjpgjdgaaDoor

/- term.Has, term.Loose, term.Right, for every term; the document's Has and Loose, plainly. -/
namespace Go.Proofs.YtofmoggjpgjdgaaDoor
open Go.RowKit
set_option linter.unusedVariables false
set_option maxRecDepth 100000

/-- How many binders more stand above a Sub, as the document's text counts them. -/
def bndR (k : Int) (i : Nat) : Int := if i = 1 ∧ k ≠ 5 then 1 else 0
theorem bndR_01 (k : Int) (i : Nat) : 0 ≤ bndR k i ∧ bndR k i ≤ 1 := by unfold bndR; split <;> omega
theorem bnd_eq {k : Int} {l : List TM} {i : Nat} (hl : l.length = manyM k) (hi : i < l.length) : bndR k i = bnd k i := by
  unfold bndR bnd
  unfold manyM at hl
  split at hl
  · split <;> split <;> omega
  · split at hl
    · have : i = 0 := by omega
      subst this; simp
    · omega
mutual
def looseT : TM → Int → Int
  | .node k n l, x => if k = 1 ∧ x ≤ n then n - x + 1 else looseL k 0 l x
def looseL (k : Int) (i : Nat) : List TM → Int → Int
  | [], _ => 0
  | t :: r, x => max (looseT t (x + bndR k i)) (looseL k (i + 1) r x)
end
mutual
def hasT : TM → Int → Bool
  | .node k n l, m => if k = 1 then decide (n = m) else hasL k 0 l m
def hasL (k : Int) (i : Nat) : List TM → Int → Bool
  | [], _ => false
  | t :: r, m => hasT t (m + bndR k i) || hasL k (i + 1) r m
end
theorem looseT_node (k n : Int) (l : List TM) (x : Int) : looseT (.node k n l) x = if k = 1 ∧ x ≤ n then n - x + 1 else looseL k 0 l x := by rw [looseT]
theorem looseL_nil (k : Int) (i : Nat) (x : Int) : looseL k i [] x = 0 := by rw [looseL]
theorem looseL_cons (k : Int) (i : Nat) (t : TM) (r : List TM) (x : Int) : looseL k i (t :: r) x = max (looseT t (x + bndR k i)) (looseL k (i + 1) r x) := by rw [looseL]
theorem hasT_node (k n : Int) (l : List TM) (m : Int) : hasT (.node k n l) m = if k = 1 then decide (n = m) else hasL k 0 l m := by rw [hasT]
theorem hasL_nil (k : Int) (i : Nat) (m : Int) : hasL k i [] m = false := by rw [hasL]
theorem hasL_cons (k : Int) (i : Nat) (t : TM) (r : List TM) (m : Int) : hasL k i (t :: r) m = (hasT t (m + bndR k i) || hasL k (i + 1) r m) := by rw [hasL]
theorem looseL_snoc : ∀ (l : List TM) (k : Int) (i : Nat) (t : TM) (x : Int), looseL k i (l ++ [t]) x = max (looseL k i l x) (max (looseT t (x + bndR k (i + l.length))) 0)
  | [], k, i, t, x => by rw [List.nil_append, looseL_cons, looseL_nil, looseL_nil]; simp; omega
  | u :: l, k, i, t, x => by
    rw [List.cons_append, looseL_cons, looseL_snoc l, looseL_cons]
    have e : i + 1 + l.length = i + (u :: l).length := by simp; omega
    rw [e]; omega
theorem hasL_snoc : ∀ (l : List TM) (k : Int) (i : Nat) (t : TM) (m : Int), hasL k i (l ++ [t]) m = (hasL k i l m || hasT t (m + bndR k (i + l.length)))
  | [], k, i, t, m => by rw [List.nil_append, hasL_cons, hasL_nil, hasL_nil]; simp
  | u :: l, k, i, t, m => by
    rw [List.cons_append, hasL_cons, hasL_snoc l, hasL_cons]
    have e : i + 1 + l.length = i + (u :: l).length := by simp; omega
    rw [e, Bool.or_assoc]
theorem looseT_nonneg : ∀ (t : TM) (x : Int), 0 ≤ looseT t x := by
  intro t
  induction t using TM.ind with
  | h k n l ih =>
    intro x
    rw [looseT_node]
    split
    · omega
    · have : ∀ (r : List TM) (i : Nat), 0 ≤ looseL k i r x := by
        intro r
        induction r with
        | nil => intro i; rw [looseL_nil]; omega
        | cons u r ih2 => intro i; rw [looseL_cons]; have := ih2 (i + 1); omega
      exact this l 0
theorem looseL_nonneg (k x : Int) : ∀ (r : List TM) (i : Nat), 0 ≤ looseL k i r x := by
  intro r
  induction r with
  | nil => intro i; rw [looseL_nil]; omega
  | cons u r ih2 => intro i; rw [looseL_cons]; have := ih2 (i + 1); omega

/-- What the telling comes to. -/
theorem fold_loose : ∀ (t : TM) (p x : Int), 0 ≤ p → tgoodB t = true → foldT looseF p t x = max p (looseT t x) := by
  intro t
  induction t using TM.ind with
  | h k n l ih =>
    intro p x hp hg
    rw [tgoodB_node, Bool.and_eq_true] at hg
    obtain ⟨_, _, hlen, _, _, _⟩ := ttop_facts hg.1
    rw [foldT_node, looseT_node]
    have hL : ∀ (m : Nat), m ≤ l.length → ∀ q : Int, 0 ≤ q → foldM looseF q k 0 (l.take m) x = max q (looseL k 0 (l.take m) x) := by
      intro m
      induction m with
      | zero => intro _ q hq; rw [List.take_zero, foldM_nil, looseL_nil]; omega
      | succ m ihm =>
        intro hm q hq
        have hml : m < l.length := by omega
        have h0 := looseL_nonneg k x (l.take m) 0
        rw [foldM_take _ _ _ _ hml, ihm (by omega) q hq, take_snocM hml, looseL_snoc, ih _ (List.getElem_mem hml) _ _ (by omega) (tgoodL_at hg.2 hml)]
        have e : 0 + (l.take m).length = m := by simp; omega
        rw [e, bnd_eq hlen hml]
        have := looseT_nonneg l[m] (x + bnd k m)
        omega
    have hall := hL l.length (Nat.le_refl _)
    rw [List.take_length] at hall
    by_cases hk : k = 1
    · subst hk
      have hl0 : l = [] := List.eq_nil_of_length_eq_zero (by rw [hlen]; rfl)
      subst hl0
      rw [foldM_nil]
      unfold looseF
      simp only [TM.k, TM.n, if_pos, true_and, looseL_nil]
      split <;> omega
    · have e1 : looseF p (.node k n l) x = p := by unfold looseF; exact if_neg hk
      rw [e1, hall p hp, if_neg (fun h => hk h.1)]
theorem fold_has (n : Int) : ∀ (t : TM) (p : Bool) (x : Int), tgoodB t = true → foldT (hasF n) p t x = (p || hasT t (n + x)) := by
  intro t
  induction t using TM.ind with
  | h k v l ih =>
    intro p x hg
    rw [tgoodB_node, Bool.and_eq_true] at hg
    obtain ⟨_, _, hlen, _, _, _⟩ := ttop_facts hg.1
    rw [foldT_node, hasT_node]
    have hL : ∀ (m : Nat), m ≤ l.length → ∀ q : Bool, foldM (hasF n) q k 0 (l.take m) x = (q || hasL k 0 (l.take m) (n + x)) := by
      intro m
      induction m with
      | zero => intro _ q; rw [List.take_zero, foldM_nil, hasL_nil]; simp
      | succ m ihm =>
        intro hm q
        have hml : m < l.length := by omega
        rw [foldM_take _ _ _ _ hml, ihm (by omega) q, take_snocM hml, hasL_snoc, ih _ (List.getElem_mem hml) _ _ (tgoodL_at hg.2 hml)]
        have e : 0 + (l.take m).length = m := by simp; omega
        rw [e, bnd_eq hlen hml, ← Int.add_assoc, Bool.or_assoc]
    have hall := hL l.length (Nat.le_refl _)
    rw [List.take_length] at hall
    by_cases hk : k = 1
    · subst hk
      have hl0 : l = [] := List.eq_nil_of_length_eq_zero (by rw [hlen]; rfl)
      subst hl0
      rw [foldM_nil]
      unfold hasF
      simp only [TM.k, TM.n, if_pos]
      have e : (v - x == n) = decide (v = n + x) := by
        by_cases h : v = n + x
        · rw [decide_eq_true h, beq_iff_eq]; omega
        · rw [decide_eq_false h, beq_eq_false_iff_ne]; omega
      rw [e]; simp
    · have e1 : hasF n p (.node k v l) x = p := by
        unfold hasF
        have : ((TM.node k v l).k == 1) = false := by rw [beq_eq_false_iff_ne]; exact hk
        rw [this]; simp
      rw [e1, hall p, if_neg hk]

mutual
/-- The numbers of all nodes of some kinds, in the order in which they are told. -/
def colT (f : Int → Bool) : TM → List Int
  | .node k n l => (if f k then [n] else []) ++ colL f l
def colL (f : Int → Bool) : List TM → List Int
  | [] => []
  | t :: r => colT f t ++ colL f r
end
theorem colT_node (f : Int → Bool) (k n : Int) (l : List TM) : colT f (.node k n l) = (if f k then [n] else []) ++ colL f l := by rw [colT]
theorem colL_nil (f : Int → Bool) : colL f [] = [] := by rw [colL]
theorem colL_cons (f : Int → Bool) (t : TM) (r : List TM) : colL f (t :: r) = colT f t ++ colL f r := by rw [colL]
theorem colL_append (f : Int → Bool) : ∀ l r : List TM, colL f (l ++ r) = colL f l ++ colL f r
  | [], r => by rw [List.nil_append, colL_nil, List.nil_append]
  | t :: l, r => by rw [List.cons_append, colL_cons, colL_append f l r, colL_cons, List.append_assoc]
theorem colL_take (f : Int → Bool) {l : List TM} {i : Nat} (h : i < l.length) : colL f (l.take (i + 1)) = colL f (l.take i) ++ colT f l[i] := by
  rw [take_snocM h, colL_append, colL_cons, colL_nil, List.append_nil]

def numF (f : Int → Bool) (p : List Int) (t : TM) (_ : Int) : List Int := if f t.k then p ++ [t.n] else p
theorem fold_num (f : Int → Bool) : ∀ (t : TM) (p : List Int) (x : Int), foldT (numF f) p t x = p ++ colT f t := by
  intro t
  induction t using TM.ind with
  | h k v l ih =>
    intro p x
    rw [foldT_node, colT_node]
    have hL : ∀ (i : Nat), i ≤ l.length → ∀ q, foldM (numF f) q k 0 (l.take i) x = q ++ colL f (l.take i) := by
      intro i
      induction i with
      | zero => intro _ q; rw [List.take_zero, foldM_nil, colL_nil, List.append_nil]
      | succ i ihm =>
        intro hm q
        have hml : i < l.length := by omega
        rw [foldM_take _ _ _ _ hml, ihm (by omega) q, ih _ (List.getElem_mem hml), colL_take f hml, List.append_assoc]
    have hall := hL l.length (Nat.le_refl _)
    rw [List.take_length] at hall
    rw [hall]
    unfold numF
    show (if f k = true then _ else _) ++ _ = _
    split <;> simp [TM.n]
/-- The kinds of entries. -/
def entK (k : Int) : Bool := decide (k = 6) || decide (k = 7)
theorem bool_and6 (a b c d e : Bool) : ((((a && b) && c) && d) && e) = ((a && (b && d)) && (c && e)) := by cases a <;> cases b <;> cases c <;> cases d <;> cases e <;> rfl
theorem fold_right (n m : Int) (hn : 0 ≤ n) : ∀ (t : TM) (p : Bool) (x : Int), tgoodB t = true → foldT (rightF n m) p t x = ((p && decide (looseT t x ≤ n)) && (colT entK t).all fun z => decide (z < m)) := by
  intro t
  induction t using TM.ind with
  | h k v l ih =>
    intro p x hg
    rw [tgoodB_node, Bool.and_eq_true] at hg
    obtain ⟨_, _, hlen, _, _, _⟩ := ttop_facts hg.1
    rw [foldT_node, looseT_node, colT_node]
    have hL : ∀ (i : Nat), i ≤ l.length → ∀ q : Bool, foldM (rightF n m) q k 0 (l.take i) x = ((q && decide (looseL k 0 (l.take i) x ≤ n)) && (colL entK (l.take i)).all fun z => decide (z < m)) := by
      intro i
      induction i with
      | zero => intro _ q; rw [List.take_zero, foldM_nil, looseL_nil, colL_nil, decide_eq_true hn]; simp
      | succ i ihm =>
        intro hm q
        have hml : i < l.length := by omega
        rw [foldM_take _ _ _ _ hml, ihm (by omega) q, ih _ (List.getElem_mem hml) _ _ (tgoodL_at hg.2 hml), colL_take _ hml, take_snocM hml, looseL_snoc, List.all_append]
        have e : 0 + (l.take i).length = i := by simp; omega
        rw [e, bnd_eq hlen hml]
        have h0 := looseT_nonneg l[i] (x + bnd k i)
        have e2 : decide (max (looseL k 0 (l.take i) x) (max (looseT l[i] (x + bnd k i)) 0) ≤ n) = (decide (looseL k 0 (l.take i) x ≤ n) && decide (looseT l[i] (x + bnd k i) ≤ n)) := by
          rw [← Bool.decide_and]
          congr 1
          apply propext
          omega
        rw [e2, bool_and6]
    have hall := hL l.length (Nat.le_refl _)
    rw [List.take_length] at hall
    by_cases hk : k = 1
    · subst hk
      have hl0 : l = [] := List.eq_nil_of_length_eq_zero (by rw [hlen]; rfl)
      subst hl0
      rw [foldM_nil, colL_nil]
      have e1 : rightF n m p (.node 1 v []) x = (p && decide (v - x < n)) := if_pos rfl
      have e2 : decide (v - x < n) = decide ((if (1 : Int) = 1 ∧ x ≤ v then v - x + 1 else looseL 1 0 [] x) ≤ n) := by
        congr 1
        apply propext
        rw [looseL_nil]
        split <;> omega
      rw [e1, e2]
      simp [entK]
    · rw [hall, if_neg (fun h => hk h.1), List.all_append]
      by_cases hk6 : k = 6 ∨ k = 7
      · have e1 : rightF n m p (.node k v l) x = (p && decide (v < m)) := (if_neg hk).trans (if_pos hk6)
        have e2 : entK k = true := by unfold entK; rcases hk6 with rfl | rfl <;> rfl
        rw [e1, e2, if_pos rfl]
        simp only [List.all_cons, List.all_nil, Bool.and_true]
        cases p <;> cases decide (v < m) <;> simp
      · have e1 : rightF n m p (.node k v l) x = p := (if_neg hk).trans (if_neg hk6)
        have e2 : entK k = false := by
          unfold entK
          rw [decide_eq_false (fun h => hk6 (.inl h)), decide_eq_false (fun h => hk6 (.inr h))]; rfl
        rw [e1, e2]
        simp

theorem good_num {t : TM} (h : tgoodB t = true) : 0 ≤ t.n ∧ t.n ≤ 1048576 := by
  obtain ⟨k, n, l⟩ := t
  rw [tgoodB_node, Bool.and_eq_true] at h
  obtain ⟨_, _, _, h4, h5, _⟩ := ttop_facts h.1
  have : mostM k ≤ 1048576 := by unfold mostM; split; omega; split <;> omega
  exact ⟨h4, by show n ≤ _; omega⟩

def hasB (t : TM) (n : Int) : Bool := decide (0 ≤ n) && (shapedB t && hasT t n)
def looseN (t : TM) : Int := if shapedB t then looseT t 0 else 0
def rightB (t : TM) (n m : Int) : Bool := decide (0 ≤ n) && (shapedB t && (decide (looseT t 0 ≤ n) && (colT entK t).all fun z => decide (z < m)))

end Go.Proofs.YtofmoggjpgjdgaaDoor
