/- slices.IndexFunc over terms, with term.formed's closure. -/
import Derived.Test.YtodmnollgejgeaaDoorTRose
import Derived.Test.YtodmnollgejgeaaDoorIdx
import Derived.LoopTactic
import Derived.LoopN
import Derived.RegionTactic
namespace Go.Proofs.YtodmnollgejgeaaDoor
open Go.RowKit
set_option linter.unusedVariables false

/-- The test of each element comes to Q, whenever it is asked. -/
def TestT (w : World) (g : FuncId) (ps : List Value) (l : List TM) (Q : Nat → Bool) : Prop :=
  ∀ i (h : i < l.length) (lo hi : Nat) (F : Option Addr) (C : Nat) (w' : World), Below w.heap.size w w' → IsTerm w' lo hi l[i] F C → hi ≤ w'.heap.size →
    Calls Tryd.prog g (⟨termV l[i] F C :: ps⟩ : Array Value) w' fun e w'' => e = .returned (.bool (Q i)) ∧ Below w'.heap.size w' w''
/-- A slice of nodes. -/
def TermsAt (w : World) (lo hi : Nat) (A : Option Addr) (l : List TM) : Prop := ∀ i (h : i < l.length), SubTm w lo hi A l i h
theorem TermsAt.kept {w w' : World} {lo hi B : Nat} {A : Option Addr} {l : List TM} (h : TermsAt w lo hi A l) (hb : Below B w w') (hB : hi ≤ B) : TermsAt w' lo hi A l := fun i hi' => (h i hi').kept hb hB
theorem TestT.kept {w w' : World} {g : FuncId} {ps : List Value} {l : List TM} {Q : Nat → Bool} (h : TestT w g ps l Q) (hb : Below w.heap.size w w') : TestT w' g ps l Q :=
  fun i hi lo hi' F C W hW => h i hi lo hi' F C W (hb.trans (hW.mono hb.size))

theorem tindex_any (l : List TM) (A : Option Addr) (cap lo hi : Nat) (p : Addr) (Q : Nat → Bool) (w : World) (hl : l.length ≤ maxLen) (hn : TermsAt w lo hi A l) (hhi : hi ≤ w.heap.size) (ht : TestT w 82 [.pointer (some p)] l Q) :
    Calls Tryd.prog 94 #[.slice A l.length cap, .func (.func 82) #[] #[.pointer (some p)]] w (SomeIdx Q l.length w) := by
  have HN := Lib.hid hn
  have HT := Lib.hid ht
  unfold maxLen at hl
  clear hn ht
  go_enter Tryd.func94, Tryd.ntmps94
  go_wp2_with fail
  go_loopw [8] (fun iv wr => ∃ i : Nat, i ≤ l.length ∧ iv = .int .i64 i ∧ Below w.heap.size w wr ∧ Hid (∀ j, j < i → Q j = false)) (fun iv _ => l.length - (intOf iv).toNat)
  case atStart => exact ⟨0, Nat.zero_le _, rfl, Below.refl _ _, Lib.hid (fun j hj => by omega)⟩
  case round =>
    obtain ⟨i, hi1, rfl, hB, HQ⟩ := hrel
    have hz := hB.size
    by_cases hil : i < l.length
    · obtain ⟨b, o, F, C, rfl, hb1, hb2, hx, hnode⟩ := (HN.out i hil).kept hB hhi
      obtain ⟨x0, x1, x2⟩ := hx
      have HR := Lib.hid (HT.out i hil lo hi F C wr hB hnode (by omega))
      clear HT HN
      cases hq : Q i with
      | true =>
        rw [hq] at HR
        have HQ2 := Lib.hid hq
        clear hq
        go_wp2_with fail
        refine HR.out.mono ?_
        rintro e w1 ⟨rfl, hb1⟩
        go_wp2_with fail
        go_ret
        exact ⟨_, rfl, .inr ⟨by omega, i, hil, HQ2.out⟩, hB.trans (hb1.mono hz)⟩
      | false =>
        rw [hq] at HR
        have HQ2 := Lib.hid hq
        clear hq
        go_wp2_with fail
        refine HR.out.mono ?_
        rintro e w1 ⟨rfl, hb1⟩
        go_wp2_with fail
        go_roundw
        case rel =>
          refine ⟨i + 1, by omega, rfl, hB.trans (hb1.mono hz), Lib.hid (fun j hj => ?_)⟩
          by_cases e : j < i
          · exact HQ.out j e
          · obtain rfl : j = i := by omega
            exact HQ2.out
        case measure => simp [intOf]; omega
    · obtain rfl : i = l.length := by omega
      clear HT HN
      go_wp2_with fail
      go_ret
      exact ⟨_, rfl, .inl ⟨rfl, HQ.out⟩, hB⟩

/-- A test of what stands at a place. -/
def tatB (f : TM → Bool) (l : List TM) (i : Nat) : Bool := match l[i]? with | some t => f t | none => true
theorem tatB_of (f : TM → Bool) {l : List TM} {i : Nat} (h : i < l.length) : tatB f l i = f l[i] := by
  unfold tatB; rw [List.getElem?_eq_getElem h]
end Go.Proofs.YtodmnollgejgeaaDoor
