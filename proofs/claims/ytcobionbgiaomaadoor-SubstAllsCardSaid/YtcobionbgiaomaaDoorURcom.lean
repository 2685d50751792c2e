/- The document's many, at, named: what they share. -/
import Derived.Test.YtcobionbgiaomaaDoorUSubs
import Derived.Deep.RegionHeld3
namespace Go.Proofs.YtcobionbgiaomaaDoor
open Go.RowKit
set_option linter.unusedVariables false
set_option maxRecDepth 100000

theorem infoG : (Tryd.prog.info? 53).map (fun i => (i.zero, i.size, i.bytes)) = some (some (.agg #[.int .i64 0, .int .i64 0, .slice none 0 0, .bool false]), 4, 48) := by kernel_rfl
theorem putM_at (H : Put) (k b : Int) : ∀ (l : List TM) (i j : Nat) (h : j < (putM H k i l b).length) (h2 : j < l.length), (putM H k i l b)[j] = putT H l[j] (b + bnd k (i + j))
  | t :: l, i, 0, h, h2 => by simp only [putM_cons, List.getElem_cons_zero, Nat.add_zero]
  | t :: l, i, j + 1, h, h2 => by
    have h3 : j < (putM H k (i + 1) l b).length := by rw [putM_cons, List.length_cons] at h; omega
    simp only [putM_cons, List.getElem_cons_succ]
    rw [putM_at H k b l (i + 1) j h3 (by simpa using h2)]
    have e : i + 1 + j = i + (j + 1) := by omega
    rw [e]
theorem own_sliceG {w : World} {base : Nat} {e : TypeId} {v : Value} {n : Nat} {xs : List Value} (h : w.ownsRow base e 4 v n xs) : ∃ a c, v = .slice a n c := by
  rcases h.2 with ⟨h1, h2⟩ | ⟨g, c, cur, h1, _⟩
  · exact ⟨none, 0, by rw [h1, h2]⟩
  · exact ⟨_, _, h1⟩
theorem TellsGot.over {u : TM} {lo lo' : Nat} {w w0 : World} {e : Ending} {w' : World} (h : TellsGot u lo w e w') (hb : Below w0.heap.size w0 w) (hl : lo' ≤ lo) : TellsGot u lo' w0 e w' := by
  obtain ⟨p, h1, h2, h3, h4⟩ := h
  exact ⟨p, h1, h2.wide hl (Nat.le_refl _), hb.trans (h3.mono hb.size), h4⟩
/-- What is told, stored into a box of its own. -/
theorem tells_of {u x : TM} {bl : Bool} {A : Option Addr} {cap g lo : Nat} {w w1 : World} (hx : IsTerm w1 lo w1.heap.size x A cap) (hlo : g < lo) (hg : w.heap.size ≤ g) (hb : Below w.heap.size w w1) (h : GotIs u x bl) :
    TellsGot u w.heap.size w (.returned (.agg #[.int .i64 x.k, .int .i64 x.n, .slice A x.l.length cap, .bool bl])) ((((w1.setCell ⟨g, 0, none⟩ (.int .i64 x.k)).setCell ⟨g, 1, none⟩ (.int .i64 x.n)).setCell ⟨g, 2, none⟩ (.slice A x.l.length cap)).setCell ⟨g, 3, none⟩ (.bool bl)) :=
  ⟨(x, A, cap, bl), rfl, ((hx.far3 hlo _ _ _).setFar hlo _).wide (by omega) (by simp [World.setCell]), (((hb.setCell (p := ⟨g, 0, none⟩) hg _).setCell (p := ⟨g, 1, none⟩) hg _).setCell (p := ⟨g, 2, none⟩) hg _).setCell (p := ⟨g, 3, none⟩) hg _, h⟩
theorem got_self (u : TM) : GotIs u u false := ⟨fun h => (nomatch h), fun _ => rfl⟩

end Go.Proofs.YtcobionbgiaomaaDoor
