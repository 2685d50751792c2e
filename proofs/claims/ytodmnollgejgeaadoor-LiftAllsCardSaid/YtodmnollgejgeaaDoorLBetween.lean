/- The document's between over any term. -/
import Derived.Test.YtodmnollgejgeaaDoorLPlain
import Derived.Test.YtodmnollgejgeaaDoorTRHas
import Derived.Test.YtodmnollgejgeaaDoorTBox
namespace Go.Proofs.YtodmnollgejgeaaDoor
open Go.RowKit
set_option linter.unusedVariables false
set_option maxRecDepth 100000

theorem betweenL_take (k a b : Int) {l : List TM} {i : Nat} (h : i < l.length) : betweenL k 0 (l.take (i + 1)) a b = (betweenL k 0 (l.take i) a b || betweenT l[i] (a + bndR k i) (b + bndR k i)) := by
  have hs : ∀ (l : List TM) (t : TM) (j : Nat), betweenL k j (l ++ [t]) a b = (betweenL k j l a b || betweenT t (a + bndR k (j + l.length)) (b + bndR k (j + l.length))) := by
    intro l
    induction l with
    | nil => intro t j; rw [List.nil_append, betweenL_cons, betweenL_nil, betweenL_nil]; simp
    | cons u l ih =>
      intro t j
      rw [List.cons_append, betweenL_cons, ih, betweenL_cons, Bool.or_assoc]
      have e : j + 1 + l.length = j + (u :: l).length := by simp; omega
      rw [e]
  rw [take_snocM h, hs]
  have e : 0 + (l.take i).length = i := by simp; omega
  rw [e]
theorem betweenL_yes (k a b : Int) {l : List TM} {i : Nat} (h : i < l.length) (hy : betweenL k 0 (l.take (i + 1)) a b = true) : betweenL k 0 l a b = true := by
  have hs : ∀ (l r : List TM) (j : Nat), betweenL k j l a b = true → betweenL k j (l ++ r) a b = true := by
    intro l
    induction l with
    | nil => intro r j hx; rw [betweenL_nil] at hx; cases hx
    | cons u l ih =>
      intro r j hx
      rw [betweenL_cons, Bool.or_eq_true] at hx
      rw [List.cons_append, betweenL_cons, Bool.or_eq_true]
      exact hx.imp id (ih r (j + 1))
  have := hs (l.take (i + 1)) (l.drop (i + 1)) 0 hy
  rwa [List.take_append_drop] at this
def BetRel (w : World) (k n : Int) (l : List TM) (A : Option Addr) (cap : Nat) (a b : Int) (iv : Value) (wr : World) : Prop :=
  ∃ i : Nat, i ≤ l.length ∧ iv = .int .i64 i ∧ Below w.heap.size w wr ∧ TBox wr w.heap.size k n (.slice A l.length cap) ∧ betweenL k 0 (l.take i) a b = false

set_option maxHeartbeats 2000000 in
theorem between_any : ∀ (t : TM) (a b : Int) (lo hi : Nat) (A : Option Addr) (cap : Nat) (w : World), IsTerm w lo hi t A cap → hi ≤ w.heap.size → 0 ≤ a → a + t.depth ≤ 4000000 → 0 ≤ b → b + t.depth ≤ 4000000 →
    Calls Tryd.prog 64 #[termV t A cap, .int .i64 a, .int .i64 b] w fun e w' => e = .returned (.bool (betweenT t a b)) ∧ Below w.heap.size w w' := by
  intro t
  induction t using TM.ind with
  | h k n l ih =>
    intro a b lo hi A cap w h hhi ha0 ha1 hb0 hb1
    obtain ⟨hl, hm⟩ := h.bounds
    rw [tdepth_node] at ha1 hb1
    have HW1 := Lib.hid (fun o1 => ((Below.refl w.heap.size w).alloc (Nat.le_refl _) o1))
    by_cases hk : k = 1
    · have e1 : (k == 1) = true := by rw [hk]; rfl
      have hr : betweenT (.node k n l) a b = (decide (a ≤ n) && decide (n < b)) := by rw [betweenT_node, if_pos hk]
      rw [hr]
      clear ih h hk hr
      rw [termV_node]
      by_cases h1 : a ≤ n
      · have d1 : decide (n ≥ a) = true := decide_eq_true h1
        rw [decide_eq_true h1, Bool.true_and]
        by_cases h2 : n < b
        · have d2 : decide (n < b) = true := decide_eq_true h2
          rw [d2]
          go_enter Tryd.func64, Tryd.ntmps64
          go_wp2_with fail
          go_ret
          exact ⟨rfl, HW1.out _⟩
        · have d2 : decide (n < b) = false := decide_eq_false h2
          rw [d2]
          go_enter Tryd.func64, Tryd.ntmps64
          go_wp2_with fail
          go_ret
          exact ⟨rfl, HW1.out _⟩
      · have d1 : decide (n ≥ a) = false := decide_eq_false h1
        rw [decide_eq_false h1, Bool.false_and]
        go_enter Tryd.func64, Tryd.ntmps64
        go_wp2_with fail
        go_ret
        exact ⟨rfl, HW1.out _⟩
    have e1 : (k == 1) = false := by simpa using hk
    have HEQ := Lib.hid (show betweenT (.node k n l) a b = betweenL k 0 l a b by rw [betweenT_node, if_neg hk])
    obtain ⟨R, hR⟩ : ∃ R, betweenT (.node k n l) a b = R := ⟨_, rfl⟩
    rw [hR] at HEQ ⊢
    have IH := Lib.hid ih
    have HN := Lib.hid h.sub
    have HHI := Lib.hid hhi
    have HFACT := Lib.hid (And.intro ha1 hb1)
    unfold maxLen at hm
    clear ih h hk hR ha1 hb1 hhi
    rw [termV_node]
    go_enter Tryd.func64, Tryd.ntmps64
    go_wp2_with fail
    go_loopw [7] (BetRel w k n l A cap a b) (fun iv _ => l.length - (intOf iv).toNat)
    case atStart => exact ⟨0, Nat.zero_le _, rfl, HW1.out _, TBox.of (Bk.new w 24 _), by rw [List.take_zero, betweenL_nil]⟩
    case round =>
      obtain ⟨i, hi1, rfl, hB, htb, hno⟩ := hrel
      have hz := hB.size
      have HTB := Lib.hid htb
      have HB := Lib.hid hB
      have HNO := Lib.hid hno
      clear htb hno
      obtain ⟨y0, y1, y2, yl⟩ := HTB.out
      by_cases hil : i < l.length
      · obtain ⟨bk, o, F, C, hA, hb1, hb2, hx, hnode⟩ := (HN.out i hil).kept hB HHI.out
        subst hA
        obtain ⟨x0', x1', x2'⟩ := hx
        have hi1' : (i : Int) < (l.length : Int) := by omega
        have hb01 := bndR_01 k i
        have hst := betweenL_take k a b hil
        rw [HNO.out, Bool.false_or] at hst
        have hyes := betweenL_yes k a b hil
        have hdep : l[i].depth ≤ depthM l := by
          have h1 := depthM_append (l.take (i + 1)) (l.drop (i + 1))
          rw [List.take_append_drop, depthM_snoc hil] at h1
          omega
        have CB := Lib.hid (fun V => beneath_any k n (some ⟨bk, o, none⟩) l.length cap i V)
        have hih := fun (V : World) h1 h2 => IH.out (l[i]'hil) (List.getElem_mem hil) (a + bndR k i) (b + bndR k i) lo hi F C V h1 h2 (by omega) (by have := HFACT.out.1; omega) (by omega) (by have := HFACT.out.2; omega)
        obtain ⟨bb, hbb⟩ : ∃ bb, bndR k i = bb := ⟨_, rfl⟩
        rw [hbb] at hb01 hst CB hih
        have hw1 : IntKind.i64.wrap (a + bb) = a + bb := IntWalk.i64_in _ (by have := HFACT.out.1; omega)
        have hw2 : IntKind.i64.wrap (b + bb) = b + bb := IntWalk.i64_in _ (by have := HFACT.out.2; omega)
        obtain ⟨r, hr⟩ : ∃ r, betweenT l[i] (a + bb) (b + bb) = r := ⟨_, rfl⟩
        rw [hr] at hst hih
        obtain ⟨u, hu⟩ : ∃ u, l[i] = u := ⟨_, rfl⟩
        rw [hu] at hih hnode x0' x1' x2'
        have HIH := Lib.hid (fun (V : World) (hV : Below wr.heap.size wr V) => hih V (hnode.kept hV (by have := HHI.out; omega)) (by have := hV.size; have := HHI.out; omega))
        have HST := Lib.hid hst
        have HYES := Lib.hid hyes
        have hbw : bk < wr.heap.size := by have := HHI.out; omega
        have HX := Lib.hid (Cells3.mk x0' x1' x2' : Cells3 wr bk (o + i * 3) u F C)
        unfold termV at HIH
        clear hst hyes hdep hih hnode hu hr hbb x0' x1' x2' hb01
        go_wp2_with fail
        refine (CB.out _).mono ?_
        rintro e w2 ⟨rfl, hb2'⟩
        have HB2 := Lib.hid hb2'
        have HT2 := Lib.hid (HTB.out.kept hb2' yl)
        obtain ⟨x0', x1', x2'⟩ := HX.out.kept hb2' hbw
        clear y0 y1 y2 yl hb2'
        obtain ⟨y0, y1, y2, yl⟩ := HT2.out
        go_wp2_with fail
        refine (HIH.out _ HB2.out).mono ?_
        rintro e w3 ⟨rfl, hb3⟩
        have HB3 := Lib.hid (HB2.out.trans (hb3.mono HB2.out.size))
        have HT3 := Lib.hid (HT2.out.kept hb3 yl)
        have HBW := Lib.hid (HB.out.trans (HB3.out.mono HB.out.size))
        clear y0 y1 y2 yl hb3 x0' x1' x2'
        cases r with
        | true =>
          have HRR := Lib.hid (HYES.out HST.out)
          go_wp2_with fail
          go_ret
          exact ⟨by rw [HEQ.out.trans HRR.out]; rfl, HBW.out⟩
        | false =>
          go_wp2_with fail
          go_roundw
          case rel => exact ⟨i + 1, by omega, by go_num, HBW.out, HT3.out, HST.out⟩
          case measure => simp [intOf]; omega
      · obtain rfl : i = l.length := by omega
        have HRR := Lib.hid (show R = false by have := HNO.out; rw [List.take_length] at this; rw [HEQ.out, this])
        go_wp2_with fail
        go_ret
        exact ⟨by rw [HRR.out]; rfl, HB.out⟩

theorem rfits_any (n : Int) (w : World) : Calls Tryd.prog 61 #[.int .i64 n] w fun e w' => e = .returned (.bool (decide (0 ≤ n) && decide (n ≤ 1048576))) ∧ Below w.heap.size w w' := by
  by_cases h0 : 0 ≤ n
  · have d0 : decide (n ≥ 0) = true := decide_eq_true h0
    rw [decide_eq_true h0, Bool.true_and]
    obtain ⟨r, hr⟩ : ∃ r, decide (n ≤ 1048576) = r := ⟨_, rfl⟩
    rw [hr]
    go_enter Tryd.func61, Tryd.ntmps61
    go_wp2_with fail
    go_ret
    exact ⟨rfl, Below.refl _ _⟩
  · have d0 : decide (n ≥ 0) = false := decide_eq_false h0
    rw [decide_eq_false h0, Bool.false_and]
    go_enter Tryd.func61, Tryd.ntmps61
    go_wp2_with fail
    go_ret
    exact ⟨rfl, Below.refl _ _⟩

end Go.Proofs.YtodmnollgejgeaaDoor
