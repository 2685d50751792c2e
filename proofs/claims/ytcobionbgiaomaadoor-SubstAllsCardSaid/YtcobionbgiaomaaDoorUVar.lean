/- Package subst: what becomes of one variable: the four closures; how many binders a term lays above its Subs; may a variable bear a number? -/
import Derived.Test.YtcobionbgiaomaaDoorUPlain
import Derived.Test.YtcobionbgiaomaaDoorUNear
namespace Go.Proofs.YtcobionbgiaomaaDoor
open Go.RowKit
set_option linter.unusedVariables false
set_option maxRecDepth 100000

def firstG (ls : List TM) : Bec := fun k n b => if k = 8 then (.node k n [], 0) else if n - b < (ls.length : Int) then liftX (ls.getD (n - b).toNat (.node 0 0 [])) b 0 else (.node 1 (n - ls.length) [], 0)
def atG (a : TM) (N : Int) : Bec := fun k n b => if k = 8 ∨ n - b < N then (.node k n [], 0) else if n - b = N then liftX a (N + b) 0 else (.node 1 (n - 1) [], 0)
def namedG (a : TM) (N : Int) : Bec := fun k n b => if k = 8 ∧ n = N then liftX a b 0 else (.node k n [], 0)
def bindG (N : Int) : Bec := fun k n b => if k = 1 then (.node 1 (n + 1) [], 0) else if n = N then (.node 1 b [], 0) else (.node k n [], 0)

theorem GivesT.leafK {w w' : World} {k n : Int} (hb : Below w.heap.size w w') : GivesT (.node k n [], 0) w (.returned (.tuple #[.agg #[.int .i64 k, .int .i64 n, .slice none 0 0], .int .i64 0])) w' :=
  ⟨none, 0, rfl, leaf_in _ _ _ _, hb⟩

theorem named_any (n : Int) (w : World) : Calls Tryd.prog 36 #[.int .i64 n] w fun e w' => e = .returned (.bool (fitsB n)) ∧ Below w.heap.size w w' := by
  by_cases h0 : 0 ≤ n
  · have t1 : decide (n ≥ 0) = true := decide_eq_true h0
    by_cases h1 : n ≤ 1048576
    · have t2 : decide (n ≤ 1048576) = true := decide_eq_true h1
      have e : fitsB n = true := fitsB_true.2 ⟨h0, h1⟩
      rw [e]
      clear e h0 h1
      go_enter Tryd.func36, Tryd.ntmps36
      go_wp2_with fail
      go_ret
      exact ⟨rfl, Below.refl _ _⟩
    · have t2 : decide (n ≤ 1048576) = false := decide_eq_false h1
      have e : fitsB n = false := by unfold fitsB; rw [t2]; simp
      rw [e]
      clear e h0 h1
      go_enter Tryd.func36, Tryd.ntmps36
      go_wp2_with fail
      go_ret
      exact ⟨rfl, Below.refl _ _⟩
  · have t1 : decide (n ≥ 0) = false := decide_eq_false h0
    have e : fitsB n = false := by unfold fitsB; rw [decide_eq_false h0]; simp
    rw [e]
    clear e h0
    go_enter Tryd.func36, Tryd.ntmps36
    go_wp2_with fail
    go_ret
    exact ⟨rfl, Below.refl _ _⟩

theorem sbinders_any (k : Int) (i : Nat) (w : World) : Calls Tryd.prog 64 #[.int .i64 k, .int .i64 (i : Int)] w fun e w' => e = .returned (.int .i64 (bnd k i)) ∧ w' = w := by
  by_cases hi : i = 1
  · have t1 : ((i : Int) == 1) = true := by rw [hi]; rfl
    by_cases h3 : k = 3
    · have t2 : (k == 3) = true := by simpa using h3
      have e : bnd k i = 1 := by unfold bnd; rw [if_pos ⟨hi, .inl h3⟩]
      rw [e]
      clear hi h3 e
      go_enter Tryd.func64, Tryd.ntmps64
      go_wp2_with fail
      go_ret
      exact ⟨rfl, rfl⟩
    · have t2 : (k == 3) = false := by simpa using h3
      by_cases h4 : k = 4
      · have t3 : (k == 4) = true := by simpa using h4
        have e : bnd k i = 1 := by unfold bnd; rw [if_pos ⟨hi, .inr h4⟩]
        rw [e]
        clear hi h3 h4 e
        go_enter Tryd.func64, Tryd.ntmps64
        go_wp2_with fail
        go_ret
        exact ⟨rfl, rfl⟩
      · have t3 : (k == 4) = false := by simpa using h4
        have e : bnd k i = 0 := by unfold bnd; rw [if_neg (fun h => h.2.elim h3 h4)]
        rw [e]
        clear hi h3 h4 e
        go_enter Tryd.func64, Tryd.ntmps64
        go_wp2_with fail
        go_ret
        exact ⟨rfl, rfl⟩
  · have t1 : ((i : Int) == 1) = false := by simp; omega
    have e : bnd k i = 0 := by unfold bnd; rw [if_neg (fun h => hi h.1)]
    rw [e]
    clear hi e
    go_enter Tryd.func64, Tryd.ntmps64
    go_wp2_with fail
    go_ret
    exact ⟨rfl, rfl⟩

theorem cl_bind (a1 : Nat) (N k n b : Int) (w : World) (h1 : w.cell? ⟨a1, 0, none⟩ = some (.int .i64 N)) (hv : varOk k n b) :
    Calls Tryd.prog 43 #[.agg #[.int .i64 k, .int .i64 n, .slice none 0 0], .int .i64 b, .pointer (some ⟨a1, 0, none⟩)] w (GivesT (bindG N k n b) w) := by
  have hlt : a1 < w.heap.size := World.block_lt_of_cell? w _ h1
  obtain ⟨_, hn0, hn1, hb0, hb1⟩ := hv
  by_cases hk : k = 1
  · have t1 : (k == 1) = true := by simpa using hk
    have e : bindG N k n b = (.node 1 (n + 1) [], 0) := by unfold bindG; rw [if_pos hk]
    have hw : IntKind.i64.wrap (n + 1) = n + 1 := IntWalk.i64_in _ (by omega)
    rw [e]
    clear e hk hn0 hn1 hb0 hb1
    go_enter Tryd.func43, Tryd.ntmps43
    go_wp2_with fail
    refine (mk_var _ _).mono ?_
    rintro e w1 ⟨rfl, rfl⟩
    go_wp2_with fail
    refine bodyPost_ret (v := .tuple #[.agg #[.int .i64 1, .int .i64 (n + 1), .slice none 0 0], .int .i64 0]) (by simp [results, Tryd.results43, go_sem]) rfl ?_
    exact GivesT.leafK (by repeat first | exact Below.refl _ _ | refine Below.setCell ?_ (by simp) _ | refine Below.alloc ?_ (by simp <;> omega) _)
  · have t1 : (k == 1) = false := by simpa using hk
    by_cases hn : n = N
    · have t2 : (n == N) = true := by simpa using hn
      have e : bindG N k n b = (.node 1 b [], 0) := by unfold bindG; rw [if_neg hk, if_pos hn]
      rw [e]
      clear e hk hn hn0 hn1 hb0 hb1
      go_enter Tryd.func43, Tryd.ntmps43
      go_wp2_with fail
      refine (mk_var _ _).mono ?_
      rintro e w1 ⟨rfl, rfl⟩
      go_wp2_with fail
      refine bodyPost_ret (v := .tuple #[.agg #[.int .i64 1, .int .i64 b, .slice none 0 0], .int .i64 0]) (by simp [results, Tryd.results43, go_sem]) rfl ?_
      exact GivesT.leafK (by repeat first | exact Below.refl _ _ | refine Below.setCell ?_ (by simp) _ | refine Below.alloc ?_ (by simp <;> omega) _)
    · have t2 : (n == N) = false := by simpa using hn
      have e : bindG N k n b = (.node k n [], 0) := by unfold bindG; rw [if_neg hk, if_neg hn]
      rw [e]
      clear e hk hn hn0 hn1 hb0 hb1
      go_enter Tryd.func43, Tryd.ntmps43
      go_wp2_with fail
      refine bodyPost_ret (v := .tuple #[.agg #[.int .i64 k, .int .i64 n, .slice none 0 0], .int .i64 0]) (by simp [results, Tryd.results43, go_sem]) rfl ?_
      exact GivesT.leafK (by repeat first | exact Below.refl _ _ | refine Below.setCell ?_ (by simp) _ | refine Below.alloc ?_ (by simp <;> omega) _)

set_option maxHeartbeats 1000000 in
theorem cl_named (g1 g2 : Nat) (N k n b : Int) (a : TM) (lo hi : Nat) (A : Option Addr) (cap : Nat) (w : World) (h1 : w.cell? ⟨g1, 0, none⟩ = some (.int .i64 N)) (h2 : TBox w g2 a.k a.n (.slice A a.l.length cap)) (ha : IsTerm w lo hi a A cap) (hhi : hi ≤ w.heap.size) (hS : ShapesM w) (hv : varOk k n b) :
    Calls Tryd.prog 41 #[.agg #[.int .i64 k, .int .i64 n, .slice none 0 0], .int .i64 b, .pointer (some ⟨g1, 0, none⟩), .pointer (some ⟨g2, 0, none⟩)] w (GivesT (namedG a N k n b) w) := by
  have hlt : g1 < w.heap.size := World.block_lt_of_cell? w _ h1
  obtain ⟨x0, x1, x2, hlt2⟩ := h2
  obtain ⟨_, hn0, hn1, hb0, hb1⟩ := hv
  have CL := Lib.hid (fun (V : World) (hV : Below w.heap.size w V) => up_any a b lo hi A cap V (ha.kept hV hhi) (by have := hV.size; omega) (hS.kept hV))
  have HW2 := Lib.hid (fun o1 o2 => ((Below.refl w.heap.size w).alloc (Nat.le_refl _) o1).alloc (by simp) o2)
  have HBZ := Lib.hid (fun (V : World) (hV : Below ((w.alloc (.cells #[.int .i64 k, .int .i64 n, .slice none 0 0] 24)).alloc (.cells #[.int .i64 0, .int .i64 0, .slice none 0 0] 24)).heap.size ((w.alloc (.cells #[.int .i64 k, .int .i64 n, .slice none 0 0] 24)).alloc (.cells #[.int .i64 0, .int .i64 0, .slice none 0 0] 24)) V) => (show Bk V (w.heap.size + 1) 24 #[.int .i64 0, .int .i64 0, .slice none 0 0] from (Bk.last (w.alloc (.cells #[.int .i64 k, .int .i64 n, .slice none 0 0] 24)) 24 #[.int .i64 0, .int .i64 0, .slice none 0 0] (by simp)).below hV (by simp)))
  clear ha hhi hS hn0 hn1 hb0 hb1
  by_cases hk : k = 8
  · have t1 : (k == 8) = true := by simpa using hk
    by_cases hn : n = N
    · have t2 : (n == N) = true := by simpa using hn
      have e : namedG a N k n b = liftX a b 0 := by unfold namedG; rw [if_pos ⟨hk, hn⟩]
      rw [e]
      obtain ⟨x, c, hxc⟩ : ∃ x c, liftX a b 0 = (x, c) := ⟨_, _, rfl⟩
      rw [hxc] at CL ⊢
      clear hxc e hk hn
      unfold termV at CL
      go_enter Tryd.func41, Tryd.ntmps41
      go_wp2_with fail
      refine (CL.out _ (HW2.out _ _)).mono ?_
      rintro e w2 ⟨A', cap', rfl, hx2, hb2⟩
      rw [termV]
      have hz2 := hb2.size
      simp at hz2
      have HB2 := Lib.hid ((HW2.out _ _).trans (hb2.mono (by simp <;> omega)))
      have BZ := HBZ.out _ hb2
      have HX2 := Lib.hid hx2
      clear hb2 hx2
      have d0 : w2.cell? ⟨w.heap.size + 1, 0, none⟩ = some (.int .i64 0) := BZ.cell 0
      have d1 : w2.cell? ⟨w.heap.size + 1, 1, none⟩ = some (.int .i64 0) := BZ.cell 1
      have d2 : w2.cell? ⟨w.heap.size + 1, 2, none⟩ = some (.slice none 0 0) := BZ.cell 2
      have hfz : ∀ o, w2.frozen? ⟨w.heap.size + 1, o, none⟩ = false := fun o => BZ.cold o
      have B5 := ((BZ.at_ 0 (.int .i64 x.k)).at_ 1 (.int .i64 x.n)).at_ 2 (.slice A' x.l.length cap')
      have HS0 := Lib.hid (B5.cell 0)
      have HS1 := Lib.hid (B5.cell 1)
      have HS2 := Lib.hid (B5.cell 2)
      clear B5 BZ
      go_wp2_with fail
      refine bodyPost_ret (v := .tuple #[.agg #[.int .i64 x.k, .int .i64 x.n, .slice A' x.l.length cap'], .int .i64 c]) (by simp [results, Tryd.results41, go_sem, HS0.out, HS1.out, HS2.out]) rfl ?_
      exact give_term HB2.out (by omega) HX2.out (by simp)
    · have t2 : (n == N) = false := by simpa using hn
      have e : namedG a N k n b = (.node k n [], 0) := by unfold namedG; rw [if_neg (fun h => hn h.2)]
      rw [e]
      clear e hk hn CL HBZ HW2
      go_enter Tryd.func41, Tryd.ntmps41
      go_wp2_with fail
      refine bodyPost_ret (v := .tuple #[.agg #[.int .i64 k, .int .i64 n, .slice none 0 0], .int .i64 0]) (by simp [results, Tryd.results41, go_sem]) rfl ?_
      exact GivesT.leafK (by repeat first | exact Below.refl _ _ | refine Below.setCell ?_ (by simp) _ | refine Below.alloc ?_ (by simp <;> omega) _)
  · have t1 : (k == 8) = false := by simpa using hk
    have e : namedG a N k n b = (.node k n [], 0) := by unfold namedG; rw [if_neg (fun h => hk h.1)]
    rw [e]
    clear e hk CL HBZ HW2
    go_enter Tryd.func41, Tryd.ntmps41
    go_wp2_with fail
    refine bodyPost_ret (v := .tuple #[.agg #[.int .i64 k, .int .i64 n, .slice none 0 0], .int .i64 0]) (by simp [results, Tryd.results41, go_sem]) rfl ?_
    exact GivesT.leafK (by repeat first | exact Below.refl _ _ | refine Below.setCell ?_ (by simp) _ | refine Below.alloc ?_ (by simp <;> omega) _)

set_option maxHeartbeats 1000000 in
theorem cl_at (g1 g2 : Nat) (N k n b : Int) (a : TM) (lo hi : Nat) (A : Option Addr) (cap : Nat) (w : World) (h1 : w.cell? ⟨g1, 0, none⟩ = some (.int .i64 N)) (h2 : TBox w g2 a.k a.n (.slice A a.l.length cap)) (ha : IsTerm w lo hi a A cap) (hhi : hi ≤ w.heap.size) (hS : ShapesM w) (hN : 0 ≤ N ∧ N ≤ 1048576) (hv : varOk k n b) :
    Calls Tryd.prog 37 #[.agg #[.int .i64 k, .int .i64 n, .slice none 0 0], .int .i64 b, .pointer (some ⟨g1, 0, none⟩), .pointer (some ⟨g2, 0, none⟩)] w (GivesT (atG a N k n b) w) := by
  have hlt : g1 < w.heap.size := World.block_lt_of_cell? w _ h1
  obtain ⟨x0, x1, x2, hlt2⟩ := h2
  obtain ⟨_, hn0, hn1, hb0, hb1⟩ := hv
  have CL := Lib.hid (fun (V : World) (hV : Below w.heap.size w V) => up_any a (N + b) lo hi A cap V (ha.kept hV hhi) (by have := hV.size; omega) (hS.kept hV))
  have HW2 := Lib.hid (fun o1 o2 => ((Below.refl w.heap.size w).alloc (Nat.le_refl _) o1).alloc (by simp) o2)
  have HBZ := Lib.hid (fun (V : World) (hV : Below ((w.alloc (.cells #[.int .i64 k, .int .i64 n, .slice none 0 0] 24)).alloc (.cells #[.int .i64 0, .int .i64 0, .slice none 0 0] 24)).heap.size ((w.alloc (.cells #[.int .i64 k, .int .i64 n, .slice none 0 0] 24)).alloc (.cells #[.int .i64 0, .int .i64 0, .slice none 0 0] 24)) V) => (show Bk V (w.heap.size + 1) 24 #[.int .i64 0, .int .i64 0, .slice none 0 0] from (Bk.last (w.alloc (.cells #[.int .i64 k, .int .i64 n, .slice none 0 0] 24)) 24 #[.int .i64 0, .int .i64 0, .slice none 0 0] (by simp)).below hV (by simp)))
  have hw1 : IntKind.i64.wrap (n - b) = n - b := IntWalk.i64_in _ (by omega)
  have hw2 : IntKind.i64.wrap (N + b) = N + b := IntWalk.i64_in _ (by omega)
  have hw3 : IntKind.i64.wrap (n - 1) = n - 1 := IntWalk.i64_in _ (by omega)
  clear ha hhi hS hn0 hn1 hb0 hb1 hN
  by_cases hk : k = 8
  · have t1 : (k == 8) = true := by simpa using hk
    have e : atG a N k n b = (.node k n [], 0) := by unfold atG; rw [if_pos (.inl hk)]
    rw [e]
    clear e hk CL HBZ HW2
    go_enter Tryd.func37, Tryd.ntmps37
    go_wp2_with fail
    refine bodyPost_ret (v := .tuple #[.agg #[.int .i64 k, .int .i64 n, .slice none 0 0], .int .i64 0]) (by simp [results, Tryd.results37, go_sem]) rfl ?_
    exact GivesT.leafK (by repeat first | exact Below.refl _ _ | refine Below.setCell ?_ (by simp) _ | refine Below.alloc ?_ (by simp <;> omega) _)
  · have t1 : (k == 8) = false := by simpa using hk
    by_cases hm : n - b < N
    · have t2 : decide (n - b < N) = true := decide_eq_true hm
      have e : atG a N k n b = (.node k n [], 0) := by unfold atG; rw [if_pos (.inr hm)]
      rw [e]
      clear e hk hm CL HBZ HW2
      go_enter Tryd.func37, Tryd.ntmps37
      go_wp2_with fail
      refine bodyPost_ret (v := .tuple #[.agg #[.int .i64 k, .int .i64 n, .slice none 0 0], .int .i64 0]) (by simp [results, Tryd.results37, go_sem]) rfl ?_
      exact GivesT.leafK (by repeat first | exact Below.refl _ _ | refine Below.setCell ?_ (by simp) _ | refine Below.alloc ?_ (by simp <;> omega) _)
    · have t2 : decide (n - b < N) = false := decide_eq_false hm
      by_cases hq : n - b = N
      · have t3 : (n - b == N) = true := by simpa using hq
        have e : atG a N k n b = liftX a (N + b) 0 := by unfold atG; rw [if_neg (fun h => h.elim hk hm), if_pos hq]
        rw [e]
        obtain ⟨x, c, hxc⟩ : ∃ x c, liftX a (N + b) 0 = (x, c) := ⟨_, _, rfl⟩
        rw [hxc] at CL ⊢
        clear hxc e hk hm hq
        unfold termV at CL
        go_enter Tryd.func37, Tryd.ntmps37
        go_wp2_with fail
        refine (CL.out _ (HW2.out _ _)).mono ?_
        rintro e w2 ⟨A', cap', rfl, hx2, hb2⟩
        rw [termV]
        have hz2 := hb2.size
        simp at hz2
        have HB2 := Lib.hid ((HW2.out _ _).trans (hb2.mono (by simp <;> omega)))
        have BZ := HBZ.out _ hb2
        have HX2 := Lib.hid hx2
        clear hb2 hx2
        have d0 : w2.cell? ⟨w.heap.size + 1, 0, none⟩ = some (.int .i64 0) := BZ.cell 0
        have d1 : w2.cell? ⟨w.heap.size + 1, 1, none⟩ = some (.int .i64 0) := BZ.cell 1
        have d2 : w2.cell? ⟨w.heap.size + 1, 2, none⟩ = some (.slice none 0 0) := BZ.cell 2
        have hfz : ∀ o, w2.frozen? ⟨w.heap.size + 1, o, none⟩ = false := fun o => BZ.cold o
        have B5 := ((BZ.at_ 0 (.int .i64 x.k)).at_ 1 (.int .i64 x.n)).at_ 2 (.slice A' x.l.length cap')
        have HS0 := Lib.hid (B5.cell 0)
        have HS1 := Lib.hid (B5.cell 1)
        have HS2 := Lib.hid (B5.cell 2)
        clear B5 BZ
        go_wp2_with fail
        refine bodyPost_ret (v := .tuple #[.agg #[.int .i64 x.k, .int .i64 x.n, .slice A' x.l.length cap'], .int .i64 c]) (by simp [results, Tryd.results37, go_sem, HS0.out, HS1.out, HS2.out]) rfl ?_
        exact give_term HB2.out (by omega) HX2.out (by simp)
      · have t3 : (n - b == N) = false := by simpa using hq
        have e : atG a N k n b = (.node 1 (n - 1) [], 0) := by unfold atG; rw [if_neg (fun h => h.elim hk hm), if_neg hq]
        rw [e]
        clear e hk hm hq CL HBZ HW2
        go_enter Tryd.func37, Tryd.ntmps37
        go_wp2_with fail
        refine (mk_var _ _).mono ?_
        rintro e w1 ⟨rfl, rfl⟩
        go_wp2_with fail
        refine bodyPost_ret (v := .tuple #[.agg #[.int .i64 1, .int .i64 (n - 1), .slice none 0 0], .int .i64 0]) (by simp [results, Tryd.results37, go_sem]) rfl ?_
        exact GivesT.leafK (by repeat first | exact Below.refl _ _ | refine Below.setCell ?_ (by simp) _ | refine Below.alloc ?_ (by simp <;> omega) _)

set_option maxHeartbeats 1000000 in
theorem cl_first (g1 : Nat) (ls : List TM) (k n b : Int) (lo hi : Nat) (A : Option Addr) (cap : Nat) (w : World) (h1 : w.cell? ⟨g1, 0, none⟩ = some (.slice A ls.length cap)) (ha : IsTerm w lo hi (.node 0 0 ls) A cap) (hhi : hi ≤ w.heap.size) (hS : ShapesM w) (hl : ls.length ≤ 4000000000) (hv : varOk k n b) :
    Calls Tryd.prog 55 #[.agg #[.int .i64 k, .int .i64 n, .slice none 0 0], .int .i64 b, .pointer (some ⟨g1, 0, none⟩)] w (GivesT (firstG ls k n b) w) := by
  have hlt : g1 < w.heap.size := World.block_lt_of_cell? w _ h1
  obtain ⟨hv0, hn0, hn1, hb0, hb1⟩ := hv
  have HSS := Lib.hid hS
  have HA := Lib.hid ha
  have HW2 := Lib.hid (fun o1 o2 => ((Below.refl w.heap.size w).alloc (Nat.le_refl _) o1).alloc (by simp) o2)
  have HBZ := Lib.hid (fun (V : World) (hV : Below ((w.alloc (.cells #[.int .i64 k, .int .i64 n, .slice none 0 0] 24)).alloc (.cells #[.int .i64 0, .int .i64 0, .slice none 0 0] 24)).heap.size ((w.alloc (.cells #[.int .i64 k, .int .i64 n, .slice none 0 0] 24)).alloc (.cells #[.int .i64 0, .int .i64 0, .slice none 0 0] 24)) V) => (show Bk V (w.heap.size + 1) 24 #[.int .i64 0, .int .i64 0, .slice none 0 0] from (Bk.last (w.alloc (.cells #[.int .i64 k, .int .i64 n, .slice none 0 0] 24)) 24 #[.int .i64 0, .int .i64 0, .slice none 0 0] (by simp)).below hV (by simp)))
  have hw1 : IntKind.i64.wrap (n - b) = n - b := IntWalk.i64_in _ (by omega)
  have hw2 : IntKind.i64.wrap (n - (ls.length : Int)) = n - (ls.length : Int) := IntWalk.i64_in _ (by omega)
  clear ha hS
  by_cases hk : k = 8
  · have t1 : (k == 8) = true := by simpa using hk
    have e : firstG ls k n b = (.node k n [], 0) := by unfold firstG; rw [if_pos hk]
    rw [e]
    clear e hk HBZ HW2 hv0 hn0 hn1 hb0 hb1 hl
    go_enter Tryd.func55, Tryd.ntmps55
    go_wp2_with fail
    refine bodyPost_ret (v := .tuple #[.agg #[.int .i64 k, .int .i64 n, .slice none 0 0], .int .i64 0]) (by simp [results, Tryd.results55, go_sem]) rfl ?_
    exact GivesT.leafK (by repeat first | exact Below.refl _ _ | refine Below.setCell ?_ (by simp) _ | refine Below.alloc ?_ (by simp <;> omega) _)
  · have t1 : (k == 8) = false := by simpa using hk
    have hbn : b ≤ n := by rcases hv0 with h | h; exact absurd h hk; exact h.2
    by_cases hm : n - b < (ls.length : Int)
    · obtain ⟨m, hmm⟩ : ∃ m : Nat, n - b = (m : Int) := ⟨(n - b).toNat, by omega⟩
      have hml : m < ls.length := by omega
      have e : firstG ls k n b = liftX ls[m] b 0 := by
        unfold firstG; rw [if_neg hk, if_pos hm, hmm]
        show liftX (ls.getD (m : Int).toNat _) b 0 = _
        rw [Int.toNat_natCast, List.getD_eq_getElem?_getD, List.getElem?_eq_getElem hml]; rfl
      rw [e]
      rw [hmm] at hw1 hm
      have hm0 : (0 : Int) ≤ (m : Int) := by omega
      have t2 : decide ((m : Int) < (ls.length : Int)) = true := decide_eq_true hm
      obtain ⟨gb, go, F, C, hA, hb1', hb2', ⟨y0, y1, y2⟩, hnode⟩ := HA.out.sub m hml
      subst hA
      obtain ⟨u, hu⟩ : ∃ u, ls[m] = u := ⟨_, rfl⟩
      rw [hu] at y0 y1 y2 hnode ⊢
      have hgb : gb < w.heap.size := by omega
      have CL := Lib.hid (fun (V : World) (hV : Below w.heap.size w V) => up_any u b lo hi F C V (hnode.kept hV hhi) (by have := hV.size; omega) (HSS.out.kept hV))
      obtain ⟨x, c, hxc⟩ : ∃ x c, liftX u b 0 = (x, c) := ⟨_, _, rfl⟩
      rw [hxc] at CL ⊢
      clear hxc e hk hu hnode hv0 hn0 hn1 hb0 hb1 hl hbn hb1' hb2' hhi HA
      unfold termV at CL
      go_enter Tryd.func55, Tryd.ntmps55
      go_wp2_with fail
      refine (CL.out _ (HW2.out _ _)).mono ?_
      rintro e w2 ⟨A', cap', rfl, hx2, hb2⟩
      rw [termV]
      have hz2 := hb2.size
      simp at hz2
      have HB2 := Lib.hid ((HW2.out _ _).trans (hb2.mono (by simp <;> omega)))
      have BZ := HBZ.out _ hb2
      have HX2 := Lib.hid hx2
      clear hb2 hx2
      have d0 : w2.cell? ⟨w.heap.size + 1, 0, none⟩ = some (.int .i64 0) := BZ.cell 0
      have d1 : w2.cell? ⟨w.heap.size + 1, 1, none⟩ = some (.int .i64 0) := BZ.cell 1
      have d2 : w2.cell? ⟨w.heap.size + 1, 2, none⟩ = some (.slice none 0 0) := BZ.cell 2
      have hfz : ∀ o, w2.frozen? ⟨w.heap.size + 1, o, none⟩ = false := fun o => BZ.cold o
      have B5 := ((BZ.at_ 0 (.int .i64 x.k)).at_ 1 (.int .i64 x.n)).at_ 2 (.slice A' x.l.length cap')
      have HS0 := Lib.hid (B5.cell 0)
      have HS1 := Lib.hid (B5.cell 1)
      have HS2 := Lib.hid (B5.cell 2)
      clear B5 BZ
      go_wp2_with fail
      refine bodyPost_ret (v := .tuple #[.agg #[.int .i64 x.k, .int .i64 x.n, .slice A' x.l.length cap'], .int .i64 c]) (by simp [results, Tryd.results55, go_sem, HS0.out, HS1.out, HS2.out]) rfl ?_
      exact give_term HB2.out (by omega) HX2.out (by simp)
    · have t2 : decide (n - b < (ls.length : Int)) = false := decide_eq_false hm
      have e : firstG ls k n b = (.node 1 (n - (ls.length : Int)) [], 0) := by unfold firstG; rw [if_neg hk, if_neg hm]
      rw [e]
      clear e hk hm HBZ HW2 hv0 hn0 hn1 hb0 hb1 hl hbn
      go_enter Tryd.func55, Tryd.ntmps55
      go_wp2_with fail
      refine (mk_var _ _).mono ?_
      rintro e w1 ⟨rfl, rfl⟩
      go_wp2_with fail
      refine bodyPost_ret (v := .tuple #[.agg #[.int .i64 1, .int .i64 (n - (ls.length : Int)), .slice none 0 0], .int .i64 0]) (by simp [results, Tryd.results55, go_sem]) rfl ?_
      exact GivesT.leafK (by repeat first | exact Below.refl _ _ | refine Below.setCell ?_ (by simp) _ | refine Below.alloc ?_ (by simp <;> omega) _)

end Go.Proofs.YtcobionbgiaomaaDoor
