/- term.each: each node of a good term is told to a function value, with how many binders stand above it; for the four closures of package term. -/
import Derived.Test.YtodmnollgejgeaaDoorTSpare
import Derived.Deep.RegionHeld3
import Derived.Deep.QuietTactic
import Derived.BigQuiet
namespace Go.Proofs.YtodmnollgejgeaaDoor
open Go.RowKit
set_option linter.unusedVariables false
set_option maxRecDepth 100000

/-- How many binders more stand above a Sub. -/
def bnd (k : Int) (i : Nat) : Int := if i = 1 ∧ (k = 3 ∨ k = 4) then 1 else 0
theorem bnd_01 (k : Int) (i : Nat) : 0 ≤ bnd k i ∧ bnd k i ≤ 1 := by unfold bnd; split <;> omega
theorem shm_bnd {K i : Nat} (h1 : 1 ≤ K) (h2 : K ≤ 8) (hi : i < 2) : shm K (3 + i) = bnd (K : Int) i := by
  have h : i = 0 ∨ i = 1 := by omega
  rcases h with rfl | rfl <;> rcases kind_m h1 h2 with rfl | rfl | rfl | rfl | rfl | rfl | rfl | rfl <;> rfl

section
variable {S : Type}
mutual
def foldT (f : S → TM → Int → S) (p : S) : TM → Int → S
  | .node k n l, x => foldM f (f p (.node k n l) x) k 0 l x
def foldM (f : S → TM → Int → S) (p : S) (k : Int) (i : Nat) : List TM → Int → S
  | [], _ => p
  | t :: r, x => foldM f (foldT f p t (x + bnd k i)) k (i + 1) r x
end
theorem foldT_node (f : S → TM → Int → S) (p : S) (k n : Int) (l : List TM) (x : Int) : foldT f p (.node k n l) x = foldM f (f p (.node k n l) x) k 0 l x := by rw [foldT]
theorem foldM_nil (f : S → TM → Int → S) (p : S) (k : Int) (i : Nat) (x : Int) : foldM f p k i [] x = p := by rw [foldM]
theorem foldM_cons (f : S → TM → Int → S) (p : S) (k : Int) (i : Nat) (t : TM) (r : List TM) (x : Int) : foldM f p k i (t :: r) x = foldM f (foldT f p t (x + bnd k i)) k (i + 1) r x := by rw [foldM]
theorem foldM_snoc (f : S → TM → Int → S) : ∀ (l : List TM) (p : S) (k : Int) (i : Nat) (t : TM) (x : Int), foldM f p k i (l ++ [t]) x = foldT f (foldM f p k i l x) t (x + bnd k (i + l.length))
  | [], p, k, i, t, x => by rw [List.nil_append, foldM_cons, foldM_nil, foldM_nil]; rfl
  | u :: l, p, k, i, t, x => by
    rw [List.cons_append, foldM_cons, foldM_snoc f l, foldM_cons]
    have e : i + 1 + l.length = i + (u :: l).length := by simp; omega
    rw [e]
theorem foldM_take (f : S → TM → Int → S) (p : S) (k : Int) (x : Int) {l : List TM} {i : Nat} (h : i < l.length) : foldM f p k 0 (l.take (i + 1)) x = foldT f (foldM f p k 0 (l.take i) x) l[i] (x + bnd k i) := by
  rw [take_snocM h, foldM_snoc]
  have e : 0 + (l.take i).length = i := by simp; omega
  rw [e]

theorem foldM_cnt {f : S → TM → Int → S} {c : S → Nat} (hc : ∀ p t x, c (f p t x) ≤ c p + 1) : ∀ (t : TM) (p : S) (x : Int), c (foldT f p t x) ≤ c p + t.size := by
  intro t
  induction t using TM.ind with
  | h k n l ih =>
    intro p x
    have hL : ∀ (r : List TM), (∀ u ∈ r, u ∈ l) → ∀ (i : Nat) (q : S), c (foldM f q k i r x) ≤ c q + sizeM r := by
      intro r
      induction r with
      | nil => intro _ i q; rw [foldM_nil]; omega
      | cons u r ihr =>
        intro hm i q
        rw [foldM_cons, sizeM_cons]
        have h1 := ihr (fun v hv => hm v (List.mem_cons_of_mem _ hv)) (i + 1) (foldT f q u (x + bnd k i))
        have h2 := ih u (hm u List.mem_cons_self) q (x + bnd k i)
        omega
    rw [foldT_node, tsize_node]
    have h1 := hL l (fun _ h => h) 0 (f p (.node k n l) x)
    have h2 := hc p (.node k n l) x
    omega
theorem foldM_cntL {f : S → TM → Int → S} {c : S → Nat} (hc : ∀ p t x, c (f p t x) ≤ c p + 1) (k x : Int) : ∀ (r : List TM) (i : Nat) (q : S), c (foldM f q k i r x) ≤ c q + sizeM r
  | [], i, q => by rw [foldM_nil]; omega
  | u :: r, i, q => by
    rw [foldM_cons, sizeM_cons]
    have h1 := foldM_cntL hc k x r (i + 1) (foldT f q u (x + bnd k i))
    have h2 := foldM_cnt hc u q (x + bnd k i)
    omega

/-- Between two worlds nothing has turned but blocks of which T speaks, and new ones. -/
structure Aside (T : Nat → Prop) (w w' : World) : Prop where
  os : w'.os = w.os
  tape : w'.tape = w.tape
  output : w'.output = w.output
  size : w.heap.size ≤ w'.heap.size
  block : ∀ k, k < w.heap.size → ¬ T k → w'.heap[k]? = w.heap[k]?
theorem Aside.of_below {T : Nat → Prop} {w w' : World} (h : Below w.heap.size w w') : Aside T w w' := ⟨h.os, h.tape, h.output, h.size, fun k hk _ => h.block k hk⟩
theorem Aside.trans {T T' : Nat → Prop} {a b c : World} (h : Aside T a b) (k : Aside T' b c) (ht : ∀ i, T' i → T i ∨ a.heap.size ≤ i) : Aside T a c :=
  ⟨k.os.trans h.os, k.tape.trans h.tape, k.output.trans h.output, Nat.le_trans h.size k.size, fun i hi hp => (k.block i (Nat.lt_of_lt_of_le hi h.size) (fun e => (ht i e).elim hp (fun h => by omega))).trans (h.block i hi hp)⟩
theorem Aside.below {T : Nat → Prop} {B : Nat} {w w' : World} (h : Aside T w w') (hT : ∀ k, T k → B ≤ k) (hB : B ≤ w.heap.size) : Below B w w' :=
  ⟨h.os, h.tape, h.output, h.size, fun k hk => h.block k (by omega) (fun e => by have := hT k e; omega)⟩
theorem Aside.cell {T : Nat → Prop} {w w' : World} (h : Aside T w w') {b o : Nat} (hb : b < w.heap.size) (ht : ¬ T b) : w'.cell? ⟨b, o, none⟩ = w.cell? ⟨b, o, none⟩ := World.cell?_of_block (a := ⟨b, o, none⟩) (h.block b hb ht)

/-- What the call of a told function leaves. -/
def TellIs (I : S → Value → World → Prop) (T : Value → Nat → Prop) (q : S) (v : Value) (w : World) (e : Ending) (w' : World) : Prop := e = .returned (.tuple #[]) ∧ ∃ v', I q v' w' ∧ Aside (T v) w w' ∧ ∀ k, T v' k → T v k ∨ w.heap.size ≤ k
/-- What a told function does: its state goes one step, nothing else turns but what is its own. -/
structure Teller (B : Nat) (g : FuncId) (cs : List Value) (I : S → Value → World → Prop) (T : Value → Nat → Prop) (f : S → TM → Int → S) (c : S → Nat) : Prop where
  cnt : ∀ p t x, c (f p t x) ≤ c p + 1
  keep : ∀ p v w w', I p v w → Below w.heap.size w w' → I p v w'
  lt : ∀ p v w, I p v w → ∀ k, T v k → B ≤ k ∧ k < w.heap.size
  call : ∀ (t : TM) (x : Int) (lo hi : Nat) (A : Option Addr) (cap : Nat) (p : S) (v : Value) (w : World), I p v w → IsTerm w lo hi t A cap → hi ≤ B → B ≤ w.heap.size → 0 ≤ x → x ≤ 128 → 0 ≤ t.n → t.n ≤ 1048576 → c p ≤ 8191 →
    Calls Tryd.prog g (⟨termV t A cap :: .int .i64 x :: cs⟩ : Array Value) w (TellIs I T (f p t x) v w)
end
def EachIs {S : Type} (I : S → Value → World → Prop) (T : Value → Nat → Prop) (q : S) (v : Value) (w : World) (e : Ending) (w' : World) : Prop := e = .returned (.tuple #[]) ∧ ∃ v', I q v' w' ∧ Aside (T v) w w' ∧ ∀ k, T v' k → T v k ∨ w.heap.size ≤ k
def EachRel {S : Type} (I : S → Value → World → Prop) (T : Value → Nat → Prop) (f : S → TM → Int → S) (p : S) (v : Value) (w : World) (k : Int) (l : List TM) (x : Int) (iv : Value) (wr : World) : Prop :=
  ∃ (i : Nat) (v' : Value), i ≤ l.length ∧ iv = .int .i64 i ∧ I (foldM f p k 0 (l.take i) x) v' wr ∧ Aside (T v) w wr ∧ (∀ k, T v' k → T v k ∨ w.heap.size < k) ∧ wr.cell? ⟨w.heap.size, 0, none⟩ = some (.int .i64 k) ∧ w.heap.size < wr.heap.size

set_option maxHeartbeats 2000000 in
theorem each_has {S : Type} {B : Nat} (a0 a1 : Addr) {I : S → Value → World → Prop} {T : Value → Nat → Prop} {f : S → TM → Int → S} {c : S → Nat} (ht : Teller B 46 [.pointer (some a0), .pointer (some a1)] I T f c) :
    ∀ (t : TM) (x : Int) (lo hi : Nat) (A : Option Addr) (cap : Nat) (p : S) (v : Value) (w : World), I p v w → IsTerm w lo hi t A cap → hi ≤ B → B ≤ w.heap.size → 0 ≤ x → x + t.depth ≤ 129 → tgoodB t = true → ShapesM w → 0 < B → c p + t.size ≤ 8192 →
    Calls Tryd.prog 45 #[termV t A cap, .int .i64 x, .func (.func 46) #[] #[.pointer (some a0), .pointer (some a1)]] w (EachIs I T (foldT f p t x) v w) := by
  intro t
  induction t using TM.ind with
  | h k n l ih =>
    intro x lo hi A cap p v w hI h hhi hBw hx0 hx1 hg hS hgB hcnt
    rw [tsize_node] at hcnt
    obtain ⟨hl, hm⟩ := h.bounds
    rw [tgoodB_node, Bool.and_eq_true] at hg
    rw [tdepth_node] at hx1
    obtain ⟨hk1, hk8, hlen, hn0, hn1, _⟩ := ttop_facts hg.1
    have hmost : mostM k ≤ 1048576 := by unfold mostM; split; omega; split <;> omega
    have hl2 := manyM_le k
    obtain ⟨K, rfl⟩ : ∃ K : Nat, k = (K : Int) := ⟨k.toNat, by omega⟩
    have HFACT : Hid (1 ≤ K ∧ K ≤ 8 ∧ tgoodL l = true ∧ x + depthM l ≤ 128) := Lib.hid ⟨by omega, by omega, hg.2, by omega⟩
    have HX : Hid (0 ≤ x ∧ x ≤ 128) := Lib.hid ⟨hx0, by omega⟩
    have hK0 : (0 : Int) ≤ (K : Int) := by omega
    have hK9 : (K : Int) < 9 := by omega
    have hK9' : K < 9 := by omega
    have hll : l.length ≤ 2 := by omega
    have HW1 := Lib.hid (fun o1 => ((Below.refl w.heap.size w).alloc (Nat.le_refl _) o1))
    have HC1 := Lib.hid (fun o1 => ht.call (.node K n l) x lo hi A cap p v (w.alloc o1) (ht.keep _ _ _ _ hI (HW1.out o1)) (h.alloc (by omega) o1) hhi (by simp; omega) hx0 (by omega) hn0 (by show n ≤ _; omega) (by omega))
    have IH := Lib.hid ih
    have HN := Lib.hid h.sub
    have HT := Lib.hid ht
    have HLT := Lib.hid (ht.lt _ _ _ hI)
    have HBW := Lib.hid hBw
    have HHI := Lib.hid hhi
    have HSS := Lib.hid hS
    have HGB := Lib.hid hgB
    unfold maxLen at hm
    rw [foldT_node]
    have hc1 := ht.cnt p (.node K n l) x
    obtain ⟨p1, hp1⟩ : ∃ p1, f p (.node K n l) x = p1 := ⟨_, rfl⟩
    rw [hp1] at HC1 hc1 ⊢
    have HCN : Hid (c p1 + sizeM l ≤ 8192) := Lib.hid (by omega)
    rw [termV_node] at HC1 ⊢
    have hx2 : x ≤ 128 := by omega
    clear ih h hI ht hS hBw hhi hgB hg hk1 hk8 hlen hn0 hn1 hmost hl2 hp1 hx1 hc1 hcnt
    go_enter Tryd.func45, Tryd.ntmps45
    go_wp2_with fail
    refine (HC1.out _).mono ?_
    rintro e w1 ⟨rfl, v1, hI1, hA1, hT1⟩
    have hz1 := hA1.size
    simp at hz1
    have hnT : ¬ T v w.heap.size := fun e => by have := (HLT.out _ e).2; omega
    have hc0 : w1.cell? ⟨w.heap.size, 0, none⟩ = some (.int .i64 (K : Int)) := (hA1.cell (by simp) hnT).trans (by simp)
    have hc2 : w1.cell? ⟨w.heap.size, 2, none⟩ = some (.slice A l.length cap) := (hA1.cell (by simp) hnT).trans (by simp)
    have hA1' : Aside (T v) w w1 := (Aside.of_below (T := T v) (HW1.out _)).trans hA1 (fun i h => .inl h)
    have hT1' : ∀ k, T v1 k → T v k ∨ w.heap.size < k := fun k hk => (hT1 k hk).imp id (fun h => by simp at h; omega)
    have HI1 := Lib.hid hI1
    have HA1 := Lib.hid hA1'
    have HT1 := Lib.hid hT1'
    clear hI1 hA1 hT1 hnT hA1' hT1'
    go_wp2_with fail
    go_loopw [15] (EachRel I T f p1 v w K l x) (fun iv _ => l.length - (intOf iv).toNat)
    case atStart => exact ⟨0, v1, Nat.zero_le _, rfl, by rw [List.take_zero, foldM_nil]; exact HI1.out, HA1.out, HT1.out, hc0, by omega⟩
    case round =>
      obtain ⟨i, v2, hi1, rfl, hI2, hA2, hT2, y0, hlt⟩ := hrel
      clear hc0 hc2 HI1 HA1 HT1 HC1
      have HI2 := Lib.hid hI2
      have HA2 := Lib.hid hA2
      have HT2 := Lib.hid hT2
      have hB2 : Below B w wr := hA2.below (fun k hk => (HLT.out k hk).1) HBW.out
      have hz := hB2.size
      clear hI2 hA2 hT2
      by_cases hil : i < l.length
      · obtain ⟨b, o, F, C, rfl, hb1, hb2, hx', hnode⟩ := (HN.out i hil).kept hB2 HHI.out
        obtain ⟨x0, x1, x2⟩ := hx'
        have hi2 : i < 2 := by omega
        have hi2' : (i : Int) < 2 := by omega
        have hi0' : (0 : Int) ≤ (i : Int) := by omega
        have hil' : (i : Int) < (l.length : Int) := by omega
        have hbw : b < wr.heap.size := by have := HHI.out; have := HBW.out; omega
        have hsh : wr.cell? ⟨0, K * 5 + 3 + i, none⟩ = some (.int .i64 (bnd K i)) := by
          have h1 := HSS.out.below hB2 HGB.out K (3 + i) hK9' (by omega)
          rw [shm_bnd HFACT.out.1 HFACT.out.2.1 hi2] at h1
          rw [← h1, Nat.add_assoc]
        have hb01 := bnd_01 (K : Int) i
        have hstep := foldM_take f p1 (K : Int) x hil
        have hdep : l[i].depth ≤ depthM l := by
          have h1 := depthM_append (l.take (i + 1)) (l.drop (i + 1))
          rw [List.take_append_drop, depthM_snoc hil] at h1
          omega
        obtain ⟨bb, hbb⟩ : ∃ bb, bnd (K : Int) i = bb := ⟨_, rfl⟩
        rw [hbb] at hsh hb01 hstep
        have hcn : c (foldM f p1 (K : Int) 0 (l.take i) x) + l[i].size ≤ 8192 := by
          have h1 := foldM_cntL HT.out.cnt (K : Int) x (l.take i) 0 p1
          have h2 := sizeM_snoc hil
          have h3 := sizeM_take_le l (i + 1)
          have h4 := HCN.out
          omega
        have hIH := fun W h1 h2 h3 h4 => IH.out (l[i]'hil) (List.getElem_mem hil) (x + bb) lo hi F C (foldM f p1 (K : Int) 0 (l.take i) x) v2 W h1 h2 HHI.out h3 (by have := HX.out; omega) (by have := HFACT.out.2.2.2; omega) (tgoodL_at HFACT.out.2.2.1 hil) h4 HGB.out hcn
        rw [← hstep] at hIH
        have HC := Lib.hid hIH
        have HNO := Lib.hid hnode
        have HWA := Lib.hid (fun o1 => ((Below.refl wr.heap.size wr).alloc (Nat.le_refl _) o1))
        have hW1 : IntKind.i64.wrap (x + bb) = x + bb := IntWalk.i64_in _ (by have := HX.out; omega)
        have hg0 : 0 < wr.heap.size := by have := HGB.out; have := HBW.out; omega
        have hHS := HSS.out.below hB2 HGB.out
        have HHS := Lib.hid hHS
        have HBR := Lib.hid (Nat.le_trans HBW.out hz)
        obtain ⟨u, hu⟩ : ∃ u, l[i] = u := ⟨_, rfl⟩
        rw [hu] at x0 x1 x2 HC HNO
        have hn1 : ¬ T v2 w.heap.size := fun e => by
          rcases HT2.out _ e with h | h
          · have := (HLT.out _ h).2; omega
          · omega
        have hn2 : ¬ T v2 0 := fun e => by
          have := HGB.out
          have := HBW.out
          rcases HT2.out _ e with h | h
          · have := (HLT.out _ h).1; omega
          · omega
        have hn3 : ¬ T v2 wr.heap.size := fun e => by have := (HT.out.lt _ _ _ HI2.out _ e).2; omega
        have hq1 : ∀ o1, ((wr.alloc o1).drew).cell? ⟨w.heap.size, 0, none⟩ = some (.int .i64 (K : Int)) := fun o1 => (World.cell?_alloc_lt _ _ _ hlt).trans y0
        have hq2 : ∀ o1, ((wr.alloc o1).drew).cell? ⟨0, K * 5 + 3 + i, none⟩ = some (.int .i64 bb) := fun o1 => (World.cell?_alloc_lt _ _ _ hg0).trans hsh
        clear hcn hIH hnode hstep hdep hbb hHS IH HN hb01 hu hB2
        go_wp2_with fail
        go_region_held3 (fun w' => w'.cell? ⟨w.heap.size, 0, none⟩ = some (.int .i64 (K : Int)) ∧ w'.cell? ⟨0, K * 5 + 3 + i, none⟩ = some (.int .i64 bb) ∧
              w'.cell? ⟨wr.heap.size, 0, none⟩ = some (.int .i64 u.k) ∧ w'.cell? ⟨wr.heap.size, 1, none⟩ = some (.int .i64 u.n) ∧ w'.cell? ⟨wr.heap.size, 2, none⟩ = some (.slice F u.l.length C))
            (first | go_keep | (refine ⟨?_, ?_, ?_, ?_, ?_⟩ <;> first | (rw [hA3.cell (by simp <;> omega) hn1]; exact hq1 _) | (rw [hA3.cell (by simp <;> omega) hn2]; exact hq2 _) | (rw [hA3.cell (by simp <;> omega) hn3]; simp)))
            (first | (go_at_call 45; refine (HC.out _ (HT.out.keep _ _ _ _ HI2.out ((HWA.out _).drew)) (HNO.out.kept ((HWA.out _).drew) (by have := HHI.out; have := HBR.out; omega)) (by simp; have := HBR.out; omega) (HHS.out.kept ((HWA.out _).drew))).mono ?_; rintro e w3 ⟨rfl, v3, hI3, hA3, hT3⟩))
        have hz3 := hA3.size
        simp at hz3
        have hy3 : w3.cell? ⟨w.heap.size, 0, none⟩ = some (.int .i64 (K : Int)) := (hA3.cell (by simp; omega) hn1).trans (hq1 _)
        have hA3' : Aside (T v) w w3 := (HA2.out.trans (Aside.of_below (T := T v2) ((HWA.out _).drew)) (fun i h => (HT2.out i h).imp id (fun h => by omega))).trans hA3 (fun i h => (HT2.out i h).imp id (fun h => by omega))
        have hT3' : ∀ k, T v3 k → T v k ∨ w.heap.size < k := fun k hk => by
          rcases hT3 k hk with h | h
          · exact HT2.out k h
          · simp at h; right; omega
        have HI3 := Lib.hid hI3
        have HA3 := Lib.hid hA3'
        have HT3 := Lib.hid hT3'
        clear hq1 hq2 hI3 hA3 hT3 hn1 hn2 hn3 hA3' hT3' y0 x0 x1 x2 hsh
        go_wp2_with fail
        go_roundw
        case rel => exact ⟨i + 1, v3, by omega, rfl, HI3.out, HA3.out, HT3.out, hy3, by omega⟩
        case measure => simp [intOf]; omega
      · obtain rfl : i = l.length := by omega
        rw [List.take_length] at HI2
        go_wp2_with fail
        go_end0
        exact ⟨rfl, v2, HI2.out, HA2.out, fun k hk => (HT2.out k hk).imp id (fun h => by omega)⟩

set_option maxHeartbeats 2000000 in
theorem each_loose {S : Type} {B : Nat} (a0 : Addr) {I : S → Value → World → Prop} {T : Value → Nat → Prop} {f : S → TM → Int → S} {c : S → Nat} (ht : Teller B 47 [.pointer (some a0)] I T f c) :
    ∀ (t : TM) (x : Int) (lo hi : Nat) (A : Option Addr) (cap : Nat) (p : S) (v : Value) (w : World), I p v w → IsTerm w lo hi t A cap → hi ≤ B → B ≤ w.heap.size → 0 ≤ x → x + t.depth ≤ 129 → tgoodB t = true → ShapesM w → 0 < B → c p + t.size ≤ 8192 →
    Calls Tryd.prog 45 #[termV t A cap, .int .i64 x, .func (.func 47) #[] #[.pointer (some a0)]] w (EachIs I T (foldT f p t x) v w) := by
  intro t
  induction t using TM.ind with
  | h k n l ih =>
    intro x lo hi A cap p v w hI h hhi hBw hx0 hx1 hg hS hgB hcnt
    rw [tsize_node] at hcnt
    obtain ⟨hl, hm⟩ := h.bounds
    rw [tgoodB_node, Bool.and_eq_true] at hg
    rw [tdepth_node] at hx1
    obtain ⟨hk1, hk8, hlen, hn0, hn1, _⟩ := ttop_facts hg.1
    have hmost : mostM k ≤ 1048576 := by unfold mostM; split; omega; split <;> omega
    have hl2 := manyM_le k
    obtain ⟨K, rfl⟩ : ∃ K : Nat, k = (K : Int) := ⟨k.toNat, by omega⟩
    have HFACT : Hid (1 ≤ K ∧ K ≤ 8 ∧ tgoodL l = true ∧ x + depthM l ≤ 128) := Lib.hid ⟨by omega, by omega, hg.2, by omega⟩
    have HX : Hid (0 ≤ x ∧ x ≤ 128) := Lib.hid ⟨hx0, by omega⟩
    have hK0 : (0 : Int) ≤ (K : Int) := by omega
    have hK9 : (K : Int) < 9 := by omega
    have hK9' : K < 9 := by omega
    have hll : l.length ≤ 2 := by omega
    have HW1 := Lib.hid (fun o1 => ((Below.refl w.heap.size w).alloc (Nat.le_refl _) o1))
    have HC1 := Lib.hid (fun o1 => ht.call (.node K n l) x lo hi A cap p v (w.alloc o1) (ht.keep _ _ _ _ hI (HW1.out o1)) (h.alloc (by omega) o1) hhi (by simp; omega) hx0 (by omega) hn0 (by show n ≤ _; omega) (by omega))
    have IH := Lib.hid ih
    have HN := Lib.hid h.sub
    have HT := Lib.hid ht
    have HLT := Lib.hid (ht.lt _ _ _ hI)
    have HBW := Lib.hid hBw
    have HHI := Lib.hid hhi
    have HSS := Lib.hid hS
    have HGB := Lib.hid hgB
    unfold maxLen at hm
    rw [foldT_node]
    have hc1 := ht.cnt p (.node K n l) x
    obtain ⟨p1, hp1⟩ : ∃ p1, f p (.node K n l) x = p1 := ⟨_, rfl⟩
    rw [hp1] at HC1 hc1 ⊢
    have HCN : Hid (c p1 + sizeM l ≤ 8192) := Lib.hid (by omega)
    rw [termV_node] at HC1 ⊢
    have hx2 : x ≤ 128 := by omega
    clear ih h hI ht hS hBw hhi hgB hg hk1 hk8 hlen hn0 hn1 hmost hl2 hp1 hx1 hc1 hcnt
    go_enter Tryd.func45, Tryd.ntmps45
    go_wp2_with fail
    refine (HC1.out _).mono ?_
    rintro e w1 ⟨rfl, v1, hI1, hA1, hT1⟩
    have hz1 := hA1.size
    simp at hz1
    have hnT : ¬ T v w.heap.size := fun e => by have := (HLT.out _ e).2; omega
    have hc0 : w1.cell? ⟨w.heap.size, 0, none⟩ = some (.int .i64 (K : Int)) := (hA1.cell (by simp) hnT).trans (by simp)
    have hc2 : w1.cell? ⟨w.heap.size, 2, none⟩ = some (.slice A l.length cap) := (hA1.cell (by simp) hnT).trans (by simp)
    have hA1' : Aside (T v) w w1 := (Aside.of_below (T := T v) (HW1.out _)).trans hA1 (fun i h => .inl h)
    have hT1' : ∀ k, T v1 k → T v k ∨ w.heap.size < k := fun k hk => (hT1 k hk).imp id (fun h => by simp at h; omega)
    have HI1 := Lib.hid hI1
    have HA1 := Lib.hid hA1'
    have HT1 := Lib.hid hT1'
    clear hI1 hA1 hT1 hnT hA1' hT1'
    go_wp2_with fail
    go_loopw [15] (EachRel I T f p1 v w K l x) (fun iv _ => l.length - (intOf iv).toNat)
    case atStart => exact ⟨0, v1, Nat.zero_le _, rfl, by rw [List.take_zero, foldM_nil]; exact HI1.out, HA1.out, HT1.out, hc0, by omega⟩
    case round =>
      obtain ⟨i, v2, hi1, rfl, hI2, hA2, hT2, y0, hlt⟩ := hrel
      clear hc0 hc2 HI1 HA1 HT1 HC1
      have HI2 := Lib.hid hI2
      have HA2 := Lib.hid hA2
      have HT2 := Lib.hid hT2
      have hB2 : Below B w wr := hA2.below (fun k hk => (HLT.out k hk).1) HBW.out
      have hz := hB2.size
      clear hI2 hA2 hT2
      by_cases hil : i < l.length
      · obtain ⟨b, o, F, C, rfl, hb1, hb2, hx', hnode⟩ := (HN.out i hil).kept hB2 HHI.out
        obtain ⟨x0, x1, x2⟩ := hx'
        have hi2 : i < 2 := by omega
        have hi2' : (i : Int) < 2 := by omega
        have hi0' : (0 : Int) ≤ (i : Int) := by omega
        have hil' : (i : Int) < (l.length : Int) := by omega
        have hbw : b < wr.heap.size := by have := HHI.out; have := HBW.out; omega
        have hsh : wr.cell? ⟨0, K * 5 + 3 + i, none⟩ = some (.int .i64 (bnd K i)) := by
          have h1 := HSS.out.below hB2 HGB.out K (3 + i) hK9' (by omega)
          rw [shm_bnd HFACT.out.1 HFACT.out.2.1 hi2] at h1
          rw [← h1, Nat.add_assoc]
        have hb01 := bnd_01 (K : Int) i
        have hstep := foldM_take f p1 (K : Int) x hil
        have hdep : l[i].depth ≤ depthM l := by
          have h1 := depthM_append (l.take (i + 1)) (l.drop (i + 1))
          rw [List.take_append_drop, depthM_snoc hil] at h1
          omega
        obtain ⟨bb, hbb⟩ : ∃ bb, bnd (K : Int) i = bb := ⟨_, rfl⟩
        rw [hbb] at hsh hb01 hstep
        have hcn : c (foldM f p1 (K : Int) 0 (l.take i) x) + l[i].size ≤ 8192 := by
          have h1 := foldM_cntL HT.out.cnt (K : Int) x (l.take i) 0 p1
          have h2 := sizeM_snoc hil
          have h3 := sizeM_take_le l (i + 1)
          have h4 := HCN.out
          omega
        have hIH := fun W h1 h2 h3 h4 => IH.out (l[i]'hil) (List.getElem_mem hil) (x + bb) lo hi F C (foldM f p1 (K : Int) 0 (l.take i) x) v2 W h1 h2 HHI.out h3 (by have := HX.out; omega) (by have := HFACT.out.2.2.2; omega) (tgoodL_at HFACT.out.2.2.1 hil) h4 HGB.out hcn
        rw [← hstep] at hIH
        have HC := Lib.hid hIH
        have HNO := Lib.hid hnode
        have HWA := Lib.hid (fun o1 => ((Below.refl wr.heap.size wr).alloc (Nat.le_refl _) o1))
        have hW1 : IntKind.i64.wrap (x + bb) = x + bb := IntWalk.i64_in _ (by have := HX.out; omega)
        have hg0 : 0 < wr.heap.size := by have := HGB.out; have := HBW.out; omega
        have hHS := HSS.out.below hB2 HGB.out
        have HHS := Lib.hid hHS
        have HBR := Lib.hid (Nat.le_trans HBW.out hz)
        obtain ⟨u, hu⟩ : ∃ u, l[i] = u := ⟨_, rfl⟩
        rw [hu] at x0 x1 x2 HC HNO
        have hn1 : ¬ T v2 w.heap.size := fun e => by
          rcases HT2.out _ e with h | h
          · have := (HLT.out _ h).2; omega
          · omega
        have hn2 : ¬ T v2 0 := fun e => by
          have := HGB.out
          have := HBW.out
          rcases HT2.out _ e with h | h
          · have := (HLT.out _ h).1; omega
          · omega
        have hn3 : ¬ T v2 wr.heap.size := fun e => by have := (HT.out.lt _ _ _ HI2.out _ e).2; omega
        have hq1 : ∀ o1, ((wr.alloc o1).drew).cell? ⟨w.heap.size, 0, none⟩ = some (.int .i64 (K : Int)) := fun o1 => (World.cell?_alloc_lt _ _ _ hlt).trans y0
        have hq2 : ∀ o1, ((wr.alloc o1).drew).cell? ⟨0, K * 5 + 3 + i, none⟩ = some (.int .i64 bb) := fun o1 => (World.cell?_alloc_lt _ _ _ hg0).trans hsh
        clear hcn hIH hnode hstep hdep hbb hHS IH HN hb01 hu hB2
        go_wp2_with fail
        go_region_held3 (fun w' => w'.cell? ⟨w.heap.size, 0, none⟩ = some (.int .i64 (K : Int)) ∧ w'.cell? ⟨0, K * 5 + 3 + i, none⟩ = some (.int .i64 bb) ∧
              w'.cell? ⟨wr.heap.size, 0, none⟩ = some (.int .i64 u.k) ∧ w'.cell? ⟨wr.heap.size, 1, none⟩ = some (.int .i64 u.n) ∧ w'.cell? ⟨wr.heap.size, 2, none⟩ = some (.slice F u.l.length C))
            (first | go_keep | (refine ⟨?_, ?_, ?_, ?_, ?_⟩ <;> first | (rw [hA3.cell (by simp <;> omega) hn1]; exact hq1 _) | (rw [hA3.cell (by simp <;> omega) hn2]; exact hq2 _) | (rw [hA3.cell (by simp <;> omega) hn3]; simp)))
            (first | (go_at_call 45; refine (HC.out _ (HT.out.keep _ _ _ _ HI2.out ((HWA.out _).drew)) (HNO.out.kept ((HWA.out _).drew) (by have := HHI.out; have := HBR.out; omega)) (by simp; have := HBR.out; omega) (HHS.out.kept ((HWA.out _).drew))).mono ?_; rintro e w3 ⟨rfl, v3, hI3, hA3, hT3⟩))
        have hz3 := hA3.size
        simp at hz3
        have hy3 : w3.cell? ⟨w.heap.size, 0, none⟩ = some (.int .i64 (K : Int)) := (hA3.cell (by simp; omega) hn1).trans (hq1 _)
        have hA3' : Aside (T v) w w3 := (HA2.out.trans (Aside.of_below (T := T v2) ((HWA.out _).drew)) (fun i h => (HT2.out i h).imp id (fun h => by omega))).trans hA3 (fun i h => (HT2.out i h).imp id (fun h => by omega))
        have hT3' : ∀ k, T v3 k → T v k ∨ w.heap.size < k := fun k hk => by
          rcases hT3 k hk with h | h
          · exact HT2.out k h
          · simp at h; right; omega
        have HI3 := Lib.hid hI3
        have HA3 := Lib.hid hA3'
        have HT3 := Lib.hid hT3'
        clear hq1 hq2 hI3 hA3 hT3 hn1 hn2 hn3 hA3' hT3' y0 x0 x1 x2 hsh
        go_wp2_with fail
        go_roundw
        case rel => exact ⟨i + 1, v3, by omega, rfl, HI3.out, HA3.out, HT3.out, hy3, by omega⟩
        case measure => simp [intOf]; omega
      · obtain rfl : i = l.length := by omega
        rw [List.take_length] at HI2
        go_wp2_with fail
        go_end0
        exact ⟨rfl, v2, HI2.out, HA2.out, fun k hk => (HT2.out k hk).imp id (fun h => by omega)⟩

set_option maxHeartbeats 2000000 in
theorem each_numbers {S : Type} {B : Nat} (a0 a1 : Addr) {I : S → Value → World → Prop} {T : Value → Nat → Prop} {f : S → TM → Int → S} {c : S → Nat} (ht : Teller B 68 [.pointer (some a0), .pointer (some a1)] I T f c) :
    ∀ (t : TM) (x : Int) (lo hi : Nat) (A : Option Addr) (cap : Nat) (p : S) (v : Value) (w : World), I p v w → IsTerm w lo hi t A cap → hi ≤ B → B ≤ w.heap.size → 0 ≤ x → x + t.depth ≤ 129 → tgoodB t = true → ShapesM w → 0 < B → c p + t.size ≤ 8192 →
    Calls Tryd.prog 45 #[termV t A cap, .int .i64 x, .func (.func 68) #[] #[.pointer (some a0), .pointer (some a1)]] w (EachIs I T (foldT f p t x) v w) := by
  intro t
  induction t using TM.ind with
  | h k n l ih =>
    intro x lo hi A cap p v w hI h hhi hBw hx0 hx1 hg hS hgB hcnt
    rw [tsize_node] at hcnt
    obtain ⟨hl, hm⟩ := h.bounds
    rw [tgoodB_node, Bool.and_eq_true] at hg
    rw [tdepth_node] at hx1
    obtain ⟨hk1, hk8, hlen, hn0, hn1, _⟩ := ttop_facts hg.1
    have hmost : mostM k ≤ 1048576 := by unfold mostM; split; omega; split <;> omega
    have hl2 := manyM_le k
    obtain ⟨K, rfl⟩ : ∃ K : Nat, k = (K : Int) := ⟨k.toNat, by omega⟩
    have HFACT : Hid (1 ≤ K ∧ K ≤ 8 ∧ tgoodL l = true ∧ x + depthM l ≤ 128) := Lib.hid ⟨by omega, by omega, hg.2, by omega⟩
    have HX : Hid (0 ≤ x ∧ x ≤ 128) := Lib.hid ⟨hx0, by omega⟩
    have hK0 : (0 : Int) ≤ (K : Int) := by omega
    have hK9 : (K : Int) < 9 := by omega
    have hK9' : K < 9 := by omega
    have hll : l.length ≤ 2 := by omega
    have HW1 := Lib.hid (fun o1 => ((Below.refl w.heap.size w).alloc (Nat.le_refl _) o1))
    have HC1 := Lib.hid (fun o1 => ht.call (.node K n l) x lo hi A cap p v (w.alloc o1) (ht.keep _ _ _ _ hI (HW1.out o1)) (h.alloc (by omega) o1) hhi (by simp; omega) hx0 (by omega) hn0 (by show n ≤ _; omega) (by omega))
    have IH := Lib.hid ih
    have HN := Lib.hid h.sub
    have HT := Lib.hid ht
    have HLT := Lib.hid (ht.lt _ _ _ hI)
    have HBW := Lib.hid hBw
    have HHI := Lib.hid hhi
    have HSS := Lib.hid hS
    have HGB := Lib.hid hgB
    unfold maxLen at hm
    rw [foldT_node]
    have hc1 := ht.cnt p (.node K n l) x
    obtain ⟨p1, hp1⟩ : ∃ p1, f p (.node K n l) x = p1 := ⟨_, rfl⟩
    rw [hp1] at HC1 hc1 ⊢
    have HCN : Hid (c p1 + sizeM l ≤ 8192) := Lib.hid (by omega)
    rw [termV_node] at HC1 ⊢
    have hx2 : x ≤ 128 := by omega
    clear ih h hI ht hS hBw hhi hgB hg hk1 hk8 hlen hn0 hn1 hmost hl2 hp1 hx1 hc1 hcnt
    go_enter Tryd.func45, Tryd.ntmps45
    go_wp2_with fail
    refine (HC1.out _).mono ?_
    rintro e w1 ⟨rfl, v1, hI1, hA1, hT1⟩
    have hz1 := hA1.size
    simp at hz1
    have hnT : ¬ T v w.heap.size := fun e => by have := (HLT.out _ e).2; omega
    have hc0 : w1.cell? ⟨w.heap.size, 0, none⟩ = some (.int .i64 (K : Int)) := (hA1.cell (by simp) hnT).trans (by simp)
    have hc2 : w1.cell? ⟨w.heap.size, 2, none⟩ = some (.slice A l.length cap) := (hA1.cell (by simp) hnT).trans (by simp)
    have hA1' : Aside (T v) w w1 := (Aside.of_below (T := T v) (HW1.out _)).trans hA1 (fun i h => .inl h)
    have hT1' : ∀ k, T v1 k → T v k ∨ w.heap.size < k := fun k hk => (hT1 k hk).imp id (fun h => by simp at h; omega)
    have HI1 := Lib.hid hI1
    have HA1 := Lib.hid hA1'
    have HT1 := Lib.hid hT1'
    clear hI1 hA1 hT1 hnT hA1' hT1'
    go_wp2_with fail
    go_loopw [15] (EachRel I T f p1 v w K l x) (fun iv _ => l.length - (intOf iv).toNat)
    case atStart => exact ⟨0, v1, Nat.zero_le _, rfl, by rw [List.take_zero, foldM_nil]; exact HI1.out, HA1.out, HT1.out, hc0, by omega⟩
    case round =>
      obtain ⟨i, v2, hi1, rfl, hI2, hA2, hT2, y0, hlt⟩ := hrel
      clear hc0 hc2 HI1 HA1 HT1 HC1
      have HI2 := Lib.hid hI2
      have HA2 := Lib.hid hA2
      have HT2 := Lib.hid hT2
      have hB2 : Below B w wr := hA2.below (fun k hk => (HLT.out k hk).1) HBW.out
      have hz := hB2.size
      clear hI2 hA2 hT2
      by_cases hil : i < l.length
      · obtain ⟨b, o, F, C, rfl, hb1, hb2, hx', hnode⟩ := (HN.out i hil).kept hB2 HHI.out
        obtain ⟨x0, x1, x2⟩ := hx'
        have hi2 : i < 2 := by omega
        have hi2' : (i : Int) < 2 := by omega
        have hi0' : (0 : Int) ≤ (i : Int) := by omega
        have hil' : (i : Int) < (l.length : Int) := by omega
        have hbw : b < wr.heap.size := by have := HHI.out; have := HBW.out; omega
        have hsh : wr.cell? ⟨0, K * 5 + 3 + i, none⟩ = some (.int .i64 (bnd K i)) := by
          have h1 := HSS.out.below hB2 HGB.out K (3 + i) hK9' (by omega)
          rw [shm_bnd HFACT.out.1 HFACT.out.2.1 hi2] at h1
          rw [← h1, Nat.add_assoc]
        have hb01 := bnd_01 (K : Int) i
        have hstep := foldM_take f p1 (K : Int) x hil
        have hdep : l[i].depth ≤ depthM l := by
          have h1 := depthM_append (l.take (i + 1)) (l.drop (i + 1))
          rw [List.take_append_drop, depthM_snoc hil] at h1
          omega
        obtain ⟨bb, hbb⟩ : ∃ bb, bnd (K : Int) i = bb := ⟨_, rfl⟩
        rw [hbb] at hsh hb01 hstep
        have hcn : c (foldM f p1 (K : Int) 0 (l.take i) x) + l[i].size ≤ 8192 := by
          have h1 := foldM_cntL HT.out.cnt (K : Int) x (l.take i) 0 p1
          have h2 := sizeM_snoc hil
          have h3 := sizeM_take_le l (i + 1)
          have h4 := HCN.out
          omega
        have hIH := fun W h1 h2 h3 h4 => IH.out (l[i]'hil) (List.getElem_mem hil) (x + bb) lo hi F C (foldM f p1 (K : Int) 0 (l.take i) x) v2 W h1 h2 HHI.out h3 (by have := HX.out; omega) (by have := HFACT.out.2.2.2; omega) (tgoodL_at HFACT.out.2.2.1 hil) h4 HGB.out hcn
        rw [← hstep] at hIH
        have HC := Lib.hid hIH
        have HNO := Lib.hid hnode
        have HWA := Lib.hid (fun o1 => ((Below.refl wr.heap.size wr).alloc (Nat.le_refl _) o1))
        have hW1 : IntKind.i64.wrap (x + bb) = x + bb := IntWalk.i64_in _ (by have := HX.out; omega)
        have hg0 : 0 < wr.heap.size := by have := HGB.out; have := HBW.out; omega
        have hHS := HSS.out.below hB2 HGB.out
        have HHS := Lib.hid hHS
        have HBR := Lib.hid (Nat.le_trans HBW.out hz)
        obtain ⟨u, hu⟩ : ∃ u, l[i] = u := ⟨_, rfl⟩
        rw [hu] at x0 x1 x2 HC HNO
        have hn1 : ¬ T v2 w.heap.size := fun e => by
          rcases HT2.out _ e with h | h
          · have := (HLT.out _ h).2; omega
          · omega
        have hn2 : ¬ T v2 0 := fun e => by
          have := HGB.out
          have := HBW.out
          rcases HT2.out _ e with h | h
          · have := (HLT.out _ h).1; omega
          · omega
        have hn3 : ¬ T v2 wr.heap.size := fun e => by have := (HT.out.lt _ _ _ HI2.out _ e).2; omega
        have hq1 : ∀ o1, ((wr.alloc o1).drew).cell? ⟨w.heap.size, 0, none⟩ = some (.int .i64 (K : Int)) := fun o1 => (World.cell?_alloc_lt _ _ _ hlt).trans y0
        have hq2 : ∀ o1, ((wr.alloc o1).drew).cell? ⟨0, K * 5 + 3 + i, none⟩ = some (.int .i64 bb) := fun o1 => (World.cell?_alloc_lt _ _ _ hg0).trans hsh
        clear hcn hIH hnode hstep hdep hbb hHS IH HN hb01 hu hB2
        go_wp2_with fail
        go_region_held3 (fun w' => w'.cell? ⟨w.heap.size, 0, none⟩ = some (.int .i64 (K : Int)) ∧ w'.cell? ⟨0, K * 5 + 3 + i, none⟩ = some (.int .i64 bb) ∧
              w'.cell? ⟨wr.heap.size, 0, none⟩ = some (.int .i64 u.k) ∧ w'.cell? ⟨wr.heap.size, 1, none⟩ = some (.int .i64 u.n) ∧ w'.cell? ⟨wr.heap.size, 2, none⟩ = some (.slice F u.l.length C))
            (first | go_keep | (refine ⟨?_, ?_, ?_, ?_, ?_⟩ <;> first | (rw [hA3.cell (by simp <;> omega) hn1]; exact hq1 _) | (rw [hA3.cell (by simp <;> omega) hn2]; exact hq2 _) | (rw [hA3.cell (by simp <;> omega) hn3]; simp)))
            (first | (go_at_call 45; refine (HC.out _ (HT.out.keep _ _ _ _ HI2.out ((HWA.out _).drew)) (HNO.out.kept ((HWA.out _).drew) (by have := HHI.out; have := HBR.out; omega)) (by simp; have := HBR.out; omega) (HHS.out.kept ((HWA.out _).drew))).mono ?_; rintro e w3 ⟨rfl, v3, hI3, hA3, hT3⟩))
        have hz3 := hA3.size
        simp at hz3
        have hy3 : w3.cell? ⟨w.heap.size, 0, none⟩ = some (.int .i64 (K : Int)) := (hA3.cell (by simp; omega) hn1).trans (hq1 _)
        have hA3' : Aside (T v) w w3 := (HA2.out.trans (Aside.of_below (T := T v2) ((HWA.out _).drew)) (fun i h => (HT2.out i h).imp id (fun h => by omega))).trans hA3 (fun i h => (HT2.out i h).imp id (fun h => by omega))
        have hT3' : ∀ k, T v3 k → T v k ∨ w.heap.size < k := fun k hk => by
          rcases hT3 k hk with h | h
          · exact HT2.out k h
          · simp at h; right; omega
        have HI3 := Lib.hid hI3
        have HA3 := Lib.hid hA3'
        have HT3 := Lib.hid hT3'
        clear hq1 hq2 hI3 hA3 hT3 hn1 hn2 hn3 hA3' hT3' y0 x0 x1 x2 hsh
        go_wp2_with fail
        go_roundw
        case rel => exact ⟨i + 1, v3, by omega, rfl, HI3.out, HA3.out, HT3.out, hy3, by omega⟩
        case measure => simp [intOf]; omega
      · obtain rfl : i = l.length := by omega
        rw [List.take_length] at HI2
        go_wp2_with fail
        go_end0
        exact ⟨rfl, v2, HI2.out, HA2.out, fun k hk => (HT2.out k hk).imp id (fun h => by omega)⟩

end Go.Proofs.YtodmnollgejgeaaDoor
