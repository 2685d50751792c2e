/- Worlds of which one block alone, g, and new ones have turned: what lies elsewhere stays. No walk. -/
import Derived.Test.YtofmoggjpgjdgaaDoorM5
import Derived.Test.YtofmoggjpgjdgaaDoorTBox
import Derived.Test.YtofmoggjpgjdgaaDoorUPlain
import Derived.Deep.RegionLaw
namespace Go.Proofs.YtofmoggjpgjdgaaDoor
open Go.RowKit
set_option linter.unusedVariables false

/-- Below block number B, but for block g, the world b is as a was. -/
structure Near (g B : Nat) (a b : World) : Prop where
  os : b.os = a.os
  tape : b.tape = a.tape
  output : b.output = a.output
  size : a.heap.size ≤ b.heap.size
  block : ∀ k, k < B → k ≠ g → b.heap[k]? = a.heap[k]?
theorem Near.refl (g B : Nat) (w : World) : Near g B w w := ⟨rfl, rfl, rfl, Nat.le_refl _, fun _ _ _ => rfl⟩
theorem Near.of {g B : Nat} {a b : World} (h : Below B a b) : Near g B a b := ⟨h.os, h.tape, h.output, h.size, fun k hk _ => h.block k hk⟩
theorem Near.trans {g B : Nat} {a b c : World} (h : Near g B a b) (k : Near g B b c) : Near g B a c :=
  ⟨k.os.trans h.os, k.tape.trans h.tape, k.output.trans h.output, Nat.le_trans h.size k.size, fun i hi hg => (k.block i hi hg).trans (h.block i hi hg)⟩
theorem Near.mono {g B B' : Nat} {w w' : World} (h : Near g B w w') (hB : B' ≤ B) : Near g B' w w' := ⟨h.os, h.tape, h.output, h.size, fun k hk => h.block k (Nat.lt_of_lt_of_le hk hB)⟩
theorem Near.drew {g B : Nat} {a w : World} (h : Near g B a w) : Near g B a w.drew := ⟨h.os, h.tape, h.output, h.size, h.block⟩
theorem Near.alloc {g B : Nat} {a w : World} (h : Near g B a w) (hB : B ≤ w.heap.size) (o : Obj) : Near g B a (w.alloc o) :=
  h.trans (Near.of ((Below.refl B w).alloc hB o))
theorem Near.setCell {g B : Nat} {a w : World} (h : Near g B a w) {p : Addr} (hp : B ≤ p.block) (u : Value) : Near g B a (w.setCell p u) :=
  h.trans (Near.of ((Below.refl B w).setCell hp u))
/-- A store into block g itself. -/
theorem Near.own {g B : Nat} {a w : World} (h : Near g B a w) (o : Nat) (u : Value) : Near g B a (w.setCell ⟨g, o, none⟩ u) :=
  h.trans ⟨rfl, rfl, rfl, by simp [World.setCell], fun k _ hk => Below.heap_setCell _ _ _ _ hk⟩
theorem Near.grown {g B : Nat} {a w w' : World} {row : Option Nat} (h : Near g B a w) (hg : w.grownBy w' row) (hB : B ≤ w.heap.size) (hr : ∀ k, row = some k → B ≤ k) : Near g B a w' :=
  h.trans (Near.of ((Below.refl B w).grown hg hB hr))
theorem Near.cell {g B : Nat} {w w' : World} (h : Near g B w w') {b o : Nat} (hb : b < B) (hg : b ≠ g) : w'.cell? ⟨b, o, none⟩ = w.cell? ⟨b, o, none⟩ := World.cell?_of_block (a := ⟨b, o, none⟩) (h.block b hb hg)
/-- What lies below g is as it was. -/
theorem Near.below {g B A : Nat} {a b c : World} (h : Below A a b) (k : Near g B b c) (hA : A ≤ g) (hB : A ≤ B) : Below A a c :=
  h.trans ⟨k.os, k.tape, k.output, k.size, fun i hi => k.block i (by omega) (by omega)⟩
theorem Bk.near {w w' : World} {b g B : Nat} {e : TypeId} {cs : Array Value} (h : Bk w b e cs) (hb : Near g B w w') (hB : b < B) (hg : b ≠ g) : Bk w' b e cs := (hb.block b hB hg).trans h
theorem IsTerm.near {w w' : World} {lo hi g B : Nat} {t : TM} {A : Option Addr} {cap : Nat} (h : IsTerm w lo hi t A cap) (hb : Near g B w w') (hB : hi ≤ B) (hg : hi ≤ g ∨ g < lo) : IsTerm w' lo hi t A cap :=
  h.imp (fun b o h1 h2 => hb.cell (by omega) (by omega)) (Nat.le_refl _) (Nat.le_refl _)
theorem TBox.near {W W' : World} {b g B : Nat} {k n : Int} {v : Value} (h : TBox W b k n v) (hb : Near g B W W') (hB : b < B) (hg : b ≠ g) : TBox W' b k n v :=
  ⟨(hb.cell hB hg).trans h.c0, (hb.cell hB hg).trans h.c1, (hb.cell hB hg).trans h.c2, Nat.lt_of_lt_of_le h.lt hb.size⟩
theorem SubTm.near {w w' : World} {lo hi g B : Nat} {A : Option Addr} {l : List TM} {i : Nat} {h : i < l.length} (hx : SubTm w lo hi A l i h) (hb : Near g B w w') (hB : hi ≤ B) (hg : hi ≤ g) : SubTm w' lo hi A l i h := by
  obtain ⟨b, o, F, C, hA, h1, h2, ⟨x0, x1, x2⟩, h4⟩ := hx
  have e : ∀ q, w'.cell? ⟨b, q, none⟩ = w.cell? ⟨b, q, none⟩ := fun q => hb.cell (by omega) (by omega)
  exact ⟨b, o, F, C, hA, h1, h2, ⟨by rw [e, x0], by rw [e, x1], by rw [e, x2]⟩, h4.near hb hB (.inl hg)⟩
theorem TermRow.near {w w' : World} {base g : Nat} {e : TypeId} {v : Value} {ps : List (TM × Option Addr × Nat)} {P : Nat → Prop} (h : TermRow w base e v ps P) (hb : Near g w.heap.size w w') (hg : g < base) (hP : ∀ b, P b → g < b) : TermRow w' base e v ps P := by
  refine h.kept hb.size (h.row.kept (row := some g) ⟨hb.os, hb.tape, hb.output, hb.size, fun k hk hne => hb.block k hk (fun e => hne (by rw [e]))⟩ ?_) (fun b hb' => hb.block b (h.far b hb').1 (fun e => by have := hP b hb'; omega))
  right
  intro e2
  have := (h.row.lt _ e2).1
  omega

end Go.Proofs.YtofmoggjpgjdgaaDoor

/- Package subst: what becomes of one variable: the four closures; how many binders a term lays above its Subs; may a variable bear a number? -/
namespace Go.Proofs.YtofmoggjpgjdgaaDoor
open Go.RowKit
set_option linter.unusedVariables false
set_option maxRecDepth 100000

def firstG (ls : List TM) : Bec := fun k n b => if k = 8 then (.node k n [], 0) else if n - b < (ls.length : Int) then liftX (ls.getD (n - b).toNat (.node 0 0 [])) b 0 else (.node 1 (n - ls.length) [], 0)
def atG (a : TM) (N : Int) : Bec := fun k n b => if k = 8 ∨ n - b < N then (.node k n [], 0) else if n - b = N then liftX a (N + b) 0 else (.node 1 (n - 1) [], 0)
def namedG (a : TM) (N : Int) : Bec := fun k n b => if k = 8 ∧ n = N then liftX a b 0 else (.node k n [], 0)
def bindG (N : Int) : Bec := fun k n b => if k = 1 then (.node 1 (n + 1) [], 0) else if n = N then (.node 1 b [], 0) else (.node k n [], 0)

theorem GivesT.leafK {w w' : World} {k n : Int} (hb : Below w.heap.size w w') : GivesT (.node k n [], 0) w (.returned (.tuple #[.agg #[.int .i64 k, .int .i64 n, .slice none 0 0], .int .i64 0])) w' :=
  ⟨none, 0, rfl, leaf_in _ _ _ _, hb⟩

theorem sbinders_any (k : Int) (i : Nat) (w : World) : Calls Tryd.prog 78 #[.int .i64 k, .int .i64 (i : Int)] w fun e w' => e = .returned (.int .i64 (bnd k i)) ∧ w' = w := by
  by_cases hi : i = 1
  · have t1 : ((i : Int) == 1) = true := by rw [hi]; rfl
    by_cases h3 : k = 3
    · have t2 : (k == 3) = true := by simpa using h3
      have e : bnd k i = 1 := by unfold bnd; rw [if_pos ⟨hi, .inl h3⟩]
      rw [e]
      clear hi h3 e
      go_enter Tryd.func78, Tryd.ntmps78
      go_wp2_with fail
      go_ret
      exact ⟨rfl, rfl⟩
    · have t2 : (k == 3) = false := by simpa using h3
      by_cases h4 : k = 4
      · have t3 : (k == 4) = true := by simpa using h4
        have e : bnd k i = 1 := by unfold bnd; rw [if_pos ⟨hi, .inr h4⟩]
        rw [e]
        clear hi h3 h4 e
        go_enter Tryd.func78, Tryd.ntmps78
        go_wp2_with fail
        go_ret
        exact ⟨rfl, rfl⟩
      · have t3 : (k == 4) = false := by simpa using h4
        have e : bnd k i = 0 := by unfold bnd; rw [if_neg (fun h => h.2.elim h3 h4)]
        rw [e]
        clear hi h3 h4 e
        go_enter Tryd.func78, Tryd.ntmps78
        go_wp2_with fail
        go_ret
        exact ⟨rfl, rfl⟩
  · have t1 : ((i : Int) == 1) = false := by simp; omega
    have e : bnd k i = 0 := by unfold bnd; rw [if_neg (fun h => hi h.1)]
    rw [e]
    clear hi e
    go_enter Tryd.func78, Tryd.ntmps78
    go_wp2_with fail
    go_ret
    exact ⟨rfl, rfl⟩

set_option maxHeartbeats 1000000 in
theorem cl_first (g1 : Nat) (ls : List TM) (k n b : Int) (lo hi : Nat) (A : Option Addr) (cap : Nat) (w : World) (h1 : w.cell? ⟨g1, 0, none⟩ = some (.slice A ls.length cap)) (ha : IsTerm w lo hi (.node 0 0 ls) A cap) (hhi : hi ≤ w.heap.size) (hS : ShapesM w) (hl : ls.length ≤ 4000000000) (hv : varOk k n b) :
    Calls Tryd.prog 72 #[.agg #[.int .i64 k, .int .i64 n, .slice none 0 0], .int .i64 b, .pointer (some ⟨g1, 0, none⟩)] w (GivesT (firstG ls k n b) w) := by
  have hlt : g1 < w.heap.size := World.block_lt_of_cell? w _ h1
  obtain ⟨hv0, hn0, hn1, hb0, hb1⟩ := hv
  have HSS := Lib.hid hS
  have HA := Lib.hid ha
  have HW2 := Lib.hid (fun o1 o2 => ((Below.refl w.heap.size w).alloc (Nat.le_refl _) o1).alloc (by simp) o2)
  have HBZ := Lib.hid (fun (V : World) (hV : Below ((w.alloc (.cells #[.int .i64 k, .int .i64 n, .slice none 0 0] 24)).alloc (.cells #[.int .i64 0, .int .i64 0, .slice none 0 0] 24)).heap.size ((w.alloc (.cells #[.int .i64 k, .int .i64 n, .slice none 0 0] 24)).alloc (.cells #[.int .i64 0, .int .i64 0, .slice none 0 0] 24)) V) => (show Bk V (w.heap.size + 1) 24 #[.int .i64 0, .int .i64 0, .slice none 0 0] from (Bk.last (w.alloc (.cells #[.int .i64 k, .int .i64 n, .slice none 0 0] 24)) 24 #[.int .i64 0, .int .i64 0, .slice none 0 0] (by simp)).below hV (by simp)))
  have hw1 : IntKind.i64.wrap (n - b) = n - b := IntWalk.i64_in _ (by omega)
  have hw2 : IntKind.i64.wrap (n - (ls.length : Int)) = n - (ls.length : Int) := IntWalk.i64_in _ (by omega)
  clear ha hS
  by_cases hk : k = 8
  · have t1 : (k == 8) = true := by simpa using hk
    have e : firstG ls k n b = (.node k n [], 0) := by unfold firstG; rw [if_pos hk]
    rw [e]
    clear e hk HBZ HW2 hv0 hn0 hn1 hb0 hb1 hl
    go_enter Tryd.func72, Tryd.ntmps72
    go_wp2_with fail
    refine bodyPost_ret (v := .tuple #[.agg #[.int .i64 k, .int .i64 n, .slice none 0 0], .int .i64 0]) (by simp [results, Tryd.results72, go_sem]) rfl ?_
    exact GivesT.leafK (by repeat first | exact Below.refl _ _ | refine Below.setCell ?_ (by simp) _ | refine Below.alloc ?_ (by simp <;> omega) _)
  · have t1 : (k == 8) = false := by simpa using hk
    have hbn : b ≤ n := by rcases hv0 with h | h; exact absurd h hk; exact h.2
    by_cases hm : n - b < (ls.length : Int)
    · obtain ⟨m, hmm⟩ : ∃ m : Nat, n - b = (m : Int) := ⟨(n - b).toNat, by omega⟩
      have hml : m < ls.length := by omega
      have e : firstG ls k n b = liftX ls[m] b 0 := by
        unfold firstG; rw [if_neg hk, if_pos hm, hmm]
        show liftX (ls.getD (m : Int).toNat _) b 0 = _
        rw [Int.toNat_natCast, List.getD_eq_getElem?_getD, List.getElem?_eq_getElem hml]; rfl
      rw [e]
      rw [hmm] at hw1 hm
      have hm0 : (0 : Int) ≤ (m : Int) := by omega
      have t2 : decide ((m : Int) < (ls.length : Int)) = true := decide_eq_true hm
      obtain ⟨gb, go, F, C, hA, hb1', hb2', ⟨y0, y1, y2⟩, hnode⟩ := HA.out.sub m hml
      subst hA
      obtain ⟨u, hu⟩ : ∃ u, ls[m] = u := ⟨_, rfl⟩
      rw [hu] at y0 y1 y2 hnode ⊢
      have hgb : gb < w.heap.size := by omega
      have CL := Lib.hid (fun (V : World) (hV : Below w.heap.size w V) => up_any u b lo hi F C V (hnode.kept hV hhi) (by have := hV.size; omega) (HSS.out.kept hV))
      obtain ⟨x, c, hxc⟩ : ∃ x c, liftX u b 0 = (x, c) := ⟨_, _, rfl⟩
      rw [hxc] at CL ⊢
      clear hxc e hk hu hnode hv0 hn0 hn1 hb0 hb1 hl hbn hb1' hb2' hhi HA
      unfold termV at CL
      go_enter Tryd.func72, Tryd.ntmps72
      go_wp2_with fail
      refine (CL.out _ (HW2.out _ _)).mono ?_
      rintro e w2 ⟨A', cap', rfl, hx2, hb2⟩
      rw [termV]
      have hz2 := hb2.size
      simp at hz2
      have HB2 := Lib.hid ((HW2.out _ _).trans (hb2.mono (by simp <;> omega)))
      have BZ := HBZ.out _ hb2
      have HX2 := Lib.hid hx2
      clear hb2 hx2
      have d0 : w2.cell? ⟨w.heap.size + 1, 0, none⟩ = some (.int .i64 0) := BZ.cell 0
      have d1 : w2.cell? ⟨w.heap.size + 1, 1, none⟩ = some (.int .i64 0) := BZ.cell 1
      have d2 : w2.cell? ⟨w.heap.size + 1, 2, none⟩ = some (.slice none 0 0) := BZ.cell 2
      have hfz : ∀ o, w2.frozen? ⟨w.heap.size + 1, o, none⟩ = false := fun o => BZ.cold o
      have B5 := ((BZ.at_ 0 (.int .i64 x.k)).at_ 1 (.int .i64 x.n)).at_ 2 (.slice A' x.l.length cap')
      have HS0 := Lib.hid (B5.cell 0)
      have HS1 := Lib.hid (B5.cell 1)
      have HS2 := Lib.hid (B5.cell 2)
      clear B5 BZ
      go_wp2_with fail
      refine bodyPost_ret (v := .tuple #[.agg #[.int .i64 x.k, .int .i64 x.n, .slice A' x.l.length cap'], .int .i64 c]) (by simp [results, Tryd.results72, go_sem, HS0.out, HS1.out, HS2.out]) rfl ?_
      exact give_term HB2.out (by omega) HX2.out (by simp)
    · have t2 : decide (n - b < (ls.length : Int)) = false := decide_eq_false hm
      have e : firstG ls k n b = (.node 1 (n - (ls.length : Int)) [], 0) := by unfold firstG; rw [if_neg hk, if_neg hm]
      rw [e]
      clear e hk hm HBZ HW2 hv0 hn0 hn1 hb0 hb1 hl hbn
      go_enter Tryd.func72, Tryd.ntmps72
      go_wp2_with fail
      refine (mk_var _ _).mono ?_
      rintro e w1 ⟨rfl, rfl⟩
      go_wp2_with fail
      refine bodyPost_ret (v := .tuple #[.agg #[.int .i64 1, .int .i64 (n - (ls.length : Int)), .slice none 0 0], .int .i64 0]) (by simp [results, Tryd.results72, go_sem]) rfl ?_
      exact GivesT.leafK (by repeat first | exact Below.refl _ _ | refine Below.setCell ?_ (by simp) _ | refine Below.alloc ?_ (by simp <;> omega) _)

end Go.Proofs.YtofmoggjpgjdgaaDoor

/- subst.changed's own closure: what becomes of a variable, and the room that is left; with each of the four closures. -/
namespace Go.Proofs.YtofmoggjpgjdgaaDoor
open Go.RowKit
set_option linter.unusedVariables false
set_option maxRecDepth 100000

/-- What the call leaves: the term, the error, the room. -/
def ChIs (p : TM × Int) (r : Int) (g : Nat) (w : World) (e : Ending) (w' : World) : Prop :=
  ∃ A cap, e = .returned (.tuple #[termV p.1 A cap, .int .i64 (if r - (topN p.1.size : Int) < 0 then 2 else p.2)]) ∧ IsTerm w' w.heap.size w'.heap.size p.1 A cap ∧ Near g w.heap.size w w' ∧ Bk w' g 3 #[.int .i64 (r - (topN p.1.size : Int))]
theorem chIs_of {x : TM} {c d r s : Int} {g : Nat} {w w' : World} {A : Option Addr} {cap : Nat} (hs : (topN x.size : Int) = s) (hd : d = if r - s < 0 then 2 else c) (hx : IsTerm w' w.heap.size w'.heap.size x A cap) (hn : Near g w.heap.size w w') (hb : Bk w' g 3 #[.int .i64 (r - s)]) :
    ChIs (x, c) r g w (.returned (.tuple #[.agg #[.int .i64 x.k, .int .i64 x.n, .slice A x.l.length cap], .int .i64 d])) w' := by
  subst hd; subst hs
  exact ⟨A, cap, rfl, hx, hn, hb⟩
theorem IsTerm.far6 {w : World} {lo hi : Nat} {t : TM} {A : Option Addr} {cap g h : Nat} (x : IsTerm w lo hi t A cap) (hg : g < lo) (hh : h < lo) (v0 v1 v2 u : Value) :
    IsTerm ((((w.setCell ⟨g, 0, none⟩ v0).setCell ⟨g, 1, none⟩ v1).setCell ⟨g, 2, none⟩ v2).setCell ⟨h, 0, none⟩ u) lo hi t A cap := (x.far3 hg v0 v1 v2).setFar hh u

set_option maxHeartbeats 2000000 in
theorem ch_first (a0 gb g : Nat) (p : TM × Int) (k n b r : Int) (w : World) (h0 : w.cell? ⟨gb, 0, none⟩ = some (.func (.func 72) #[] #[.pointer (some ⟨a0, 0, none⟩)])) (hr : Bk w g 3 #[.int .i64 r]) (hr0 : 0 ≤ r ∧ r ≤ 8192) (hgb : gb ≠ g)
    (HC0 : ∀ V, Below w.heap.size w V → Calls Tryd.prog 72 #[.agg #[.int .i64 k, .int .i64 n, .slice none 0 0], .int .i64 b, .pointer (some ⟨a0, 0, none⟩)] V (GivesT p V)) :
    Calls Tryd.prog 70 #[.agg #[.int .i64 k, .int .i64 n, .slice none 0 0], .int .i64 b, .pointer (some ⟨gb, 0, none⟩), .pointer (some ⟨g, 0, none⟩)] w (ChIs p r g w) := by
  have hltb : gb < w.heap.size := World.block_lt_of_cell? w _ h0
  have hltg : g < w.heap.size := hr.lt
  have HC := Lib.hid HC0
  have HR := Lib.hid hr
  obtain ⟨x, c⟩ := p
  obtain ⟨s, hs⟩ : ∃ s : Int, (topN x.size : Int) = s := ⟨_, rfl⟩
  have hsb : 0 ≤ s ∧ s ≤ 8193 := by have := topN_le x.size; omega
  have hw1 : IntKind.i64.wrap (r - s) = r - s := IntWalk.i64_in _ (by omega)
  have HSZ := Lib.hid (fun (lo hi : Nat) (A : Option Addr) (cap : Nat) (V : World) (h : IsTerm V lo hi x A cap) (hh : hi ≤ V.heap.size) => tsize_any x lo hi A cap V h hh)
  rw [hs] at HSZ
  have HS := Lib.hid hs
  have HW2 := Lib.hid (fun o1 o2 => ((Below.refl w.heap.size w).alloc (Nat.le_refl _) o1).alloc (by simp) o2)
  have HBX := Lib.hid (fun (V : World) (hV : Below ((w.alloc (.cells #[.int .i64 k, .int .i64 n, .slice none 0 0] 24)).alloc (.cells #[.int .i64 0, .int .i64 0, .slice none 0 0] 24)).heap.size ((w.alloc (.cells #[.int .i64 k, .int .i64 n, .slice none 0 0] 24)).alloc (.cells #[.int .i64 0, .int .i64 0, .slice none 0 0] 24)) V) => (show Bk V w.heap.size 24 #[.int .i64 k, .int .i64 n, .slice none 0 0] ∧ Bk V (w.heap.size + 1) 24 #[.int .i64 0, .int .i64 0, .slice none 0 0] ∧ Bk V g 3 #[.int .i64 r] from ⟨((Bk.new w 24 _).alloc (.cells #[.int .i64 0, .int .i64 0, .slice none 0 0] 24)).below hV (by simp <;> omega), (Bk.last (w.alloc (.cells #[.int .i64 k, .int .i64 n, .slice none 0 0] 24)) 24 #[.int .i64 0, .int .i64 0, .slice none 0 0] (by simp)).below hV (by simp), ((HR.out.alloc (.cells #[.int .i64 k, .int .i64 n, .slice none 0 0] 24)).alloc (.cells #[.int .i64 0, .int .i64 0, .slice none 0 0] 24)).below hV (by simp <;> omega)⟩))
  clear HC0 hr hr0 hsb hs
  go_enter Tryd.func70, Tryd.ntmps70
  go_wp2_with fail
  refine (HC.out _ (HW2.out _ _)).mono ?_
  rintro e w1 ⟨A', cap', rfl, hx1, hb1⟩
  rw [termV]
  have hz1 := hb1.size
  simp at hz1
  obtain ⟨K1, K2, K3⟩ := HBX.out _ hb1
  have HB1 := Lib.hid ((HW2.out _ _).trans (hb1.mono (by simp <;> omega)))
  have B1 := ((K1.at_ 0 (.int .i64 x.k)).at_ 1 (.int .i64 x.n)).at_ 2 (.slice A' x.l.length cap')
  have B2 := ((K2.far (a := ⟨w.heap.size, 0, none⟩) (by simp) (.int .i64 x.k)).far (a := ⟨w.heap.size, 1, none⟩) (by simp) (.int .i64 x.n)).far (a := ⟨w.heap.size, 2, none⟩) (by simp) (.slice A' x.l.length cap')
  have B3 := ((K3.far (a := ⟨w.heap.size, 0, none⟩) (by show g ≠ w.heap.size; omega) (.int .i64 x.k)).far (a := ⟨w.heap.size, 1, none⟩) (by show g ≠ w.heap.size; omega) (.int .i64 x.n)).far (a := ⟨w.heap.size, 2, none⟩) (by show g ≠ w.heap.size; omega) (.slice A' x.l.length cap')
  have HX1 := Lib.hid ((hx1.far3 (g := w.heap.size) (by simp <;> omega) (.int .i64 x.k) (.int .i64 x.n) (.slice A' x.l.length cap')).wide (lo' := w.heap.size + 2) (hi' := w1.heap.size) (by simp) (Nat.le_refl _))
  have HN1 := Lib.hid (((HB1.out.setCell (p := ⟨w.heap.size, 0, none⟩) (Nat.le_refl _) (.int .i64 x.k)).setCell (p := ⟨w.heap.size, 1, none⟩) (Nat.le_refl _) (.int .i64 x.n)).setCell (p := ⟨w.heap.size, 2, none⟩) (Nat.le_refl _) (.slice A' x.l.length cap'))
  have c0 : w1.cell? ⟨w.heap.size, 0, none⟩ = some (.int .i64 k) := K1.cell 0
  have c1 : w1.cell? ⟨w.heap.size, 1, none⟩ = some (.int .i64 n) := K1.cell 1
  have c2 : w1.cell? ⟨w.heap.size, 2, none⟩ = some (.slice none 0 0) := K1.cell 2
  have hfz0 : ∀ o, w1.frozen? ⟨w.heap.size, o, none⟩ = false := fun o => K1.cold o
  obtain ⟨X, hX⟩ : ∃ X, ((w1.setCell ⟨w.heap.size, 0, none⟩ (.int .i64 x.k)).setCell ⟨w.heap.size, 1, none⟩ (.int .i64 x.n)).setCell ⟨w.heap.size, 2, none⟩ (.slice A' x.l.length cap') = X := ⟨_, rfl⟩
  have hXz : X.heap.size = w1.heap.size := by rw [← hX]; simp [World.setCell]
  rw [hX] at B1 B2 B3 HX1 HN1
  have HB1' := Lib.hid B1
  have HB2' := Lib.hid B2
  have HB3' := Lib.hid B3
  clear K1 K2 K3 B1 B2 B3 hb1 hx1
  have HK := Lib.hid (fun (V : World) (hV : Below X.heap.size X V) => (show (V.cell? ⟨g, 0, none⟩ = some (.int .i64 r)) ∧ (∀ o, V.frozen? ⟨g, o, none⟩ = false) ∧ V.cell? ⟨w.heap.size, 0, none⟩ = some (.int .i64 x.k) ∧ V.cell? ⟨w.heap.size, 1, none⟩ = some (.int .i64 x.n) ∧ V.cell? ⟨w.heap.size, 2, none⟩ = some (.slice A' x.l.length cap') from
    ⟨(HB3'.out.below hV (by omega)).cell 0, fun o => (HB3'.out.below hV (by omega)).cold o, (HB1'.out.below hV (by omega)).cell 0, (HB1'.out.below hV (by omega)).cell 1, (HB1'.out.below hV (by omega)).cell 2⟩))
  have hbk := Lib.hid ((Below.refl X.heap.size X).drew)
  have HSX := Lib.hid (fun (V : World) (hV : Below X.heap.size X V) => HSZ.out (w.heap.size + 2) w1.heap.size A' cap' V (HX1.out.kept hV (by omega)) (by have := hV.size; omega))
  obtain ⟨y0, hfz, y1, y2, y3⟩ := HK.out _ hbk.out
  go_upto_region 2 with fail
  subst hX
  go_region_law
    (first
     | (go_simp; go_at_call 71; refine (HSX.out _ hbk.out).mono ?_; rintro e w3 ⟨rfl, hbn⟩; have hbk := Lib.hid (hbk.out.trans (hbn.mono hbk.out.size)); clear hbn y0 hfz y1 y2 y3; obtain ⟨y0, hfz, y1, y2, y3⟩ := HK.out _ hbk.out))
  all_goals
    have hz3 := hbk.out.size
    have K2 := HB2'.out.below hbk.out (by omega)
    have K3 := HB3'.out.below hbk.out (by omega)
    have HX3 := Lib.hid (((HX1.out.kept hbk.out (by omega)).setFar (a := ⟨g, 0, none⟩) (by show g < _; omega) (.int .i64 (r - s))).far3 (g := w.heap.size + 1) (by omega) (.int .i64 x.k) (.int .i64 x.n) (.slice A' x.l.length cap'))
    have HN3 := Lib.hid (((((Near.of (g := g) (HN1.out.trans (hbk.out.mono (by omega)))).own 0 (.int .i64 (r - s))).setCell (p := ⟨w.heap.size + 1, 0, none⟩) (by show w.heap.size ≤ w.heap.size + 1; omega) (.int .i64 x.k)).setCell (p := ⟨w.heap.size + 1, 1, none⟩) (by show w.heap.size ≤ w.heap.size + 1; omega) (.int .i64 x.n)).setCell (p := ⟨w.heap.size + 1, 2, none⟩) (by show w.heap.size ≤ w.heap.size + 1; omega) (.slice A' x.l.length cap'))
    have hfzR : ∀ o, w3.frozen? ⟨w.heap.size + 1, o, none⟩ = false := fun o => K2.cold o
    have d0 : w3.cell? ⟨w.heap.size + 1, 0, none⟩ = some (.int .i64 0) := K2.cell 0
    have d1 : w3.cell? ⟨w.heap.size + 1, 1, none⟩ = some (.int .i64 0) := K2.cell 1
    have d2 : w3.cell? ⟨w.heap.size + 1, 2, none⟩ = some (.slice none 0 0) := K2.cell 2
    have E5 := (((K2.far (a := ⟨g, 0, none⟩) (by show w.heap.size + 1 ≠ g; omega) (.int .i64 (r - s))).at_ 0 (.int .i64 x.k)).at_ 1 (.int .i64 x.n)).at_ 2 (.slice A' x.l.length cap')
    have HS0 := Lib.hid (E5.cell 0)
    have HS1 := Lib.hid (E5.cell 1)
    have HS2 := Lib.hid (E5.cell 2)
    have HBK := Lib.hid ((((K3.at_ 0 (.int .i64 (r - s))).far (a := ⟨w.heap.size + 1, 0, none⟩) (by show g ≠ w.heap.size + 1; omega) (.int .i64 x.k)).far (a := ⟨w.heap.size + 1, 1, none⟩) (by show g ≠ w.heap.size + 1; omega) (.int .i64 x.n)).far (a := ⟨w.heap.size + 1, 2, none⟩) (by show g ≠ w.heap.size + 1; omega) (.slice A' x.l.length cap'))
    have HZ3 : Hid (w1.heap.size ≤ w3.heap.size) := Lib.hid (by omega)
    clear K2 K3 E5 HK HSX HBX HC HSZ
    by_cases hneg : r - s < 0
    · have HG := Lib.hid (show (2 : Int) = if r - s < 0 then 2 else c from (if_pos hneg).symm)
      go_wp2_with fail
      refine bodyPost_ret (v := .tuple #[.agg #[.int .i64 x.k, .int .i64 x.n, .slice A' x.l.length cap'], .int .i64 2]) (by simp [results, Tryd.results70, go_sem, HS0.out, HS1.out, HS2.out]) rfl ?_
      exact chIs_of HS.out HG.out (HX3.out.wide (by omega) (by have := HZ3.out; simp [World.setCell]; omega)) HN3.out HBK.out
    · have HG := Lib.hid (show c = if r - s < 0 then 2 else c from (if_neg hneg).symm)
      go_wp2_with fail
      refine bodyPost_ret (v := .tuple #[.agg #[.int .i64 x.k, .int .i64 x.n, .slice A' x.l.length cap'], .int .i64 c]) (by simp [results, Tryd.results70, go_sem, HS0.out, HS1.out, HS2.out]) rfl ?_
      exact chIs_of HS.out HG.out (HX3.out.wide (by omega) (by have := HZ3.out; simp [World.setCell]; omega)) HN3.out HBK.out

end Go.Proofs.YtofmoggjpgjdgaaDoor
