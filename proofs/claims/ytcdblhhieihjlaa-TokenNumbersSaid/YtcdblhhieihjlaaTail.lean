/- scholiumref01.tail: the bytes of six bits each, from the highest on, for the three numbers of bytes with which it is called: a new slice that holds just them; nothing that was there is written. For 0 to 1114111. -/
import Derived.Test.YtcdblhhieihjlaaEnc
import Derived.OwnWalk
import Derived.Maps.AppendAt
namespace Go.Proofs.Ytcdblhhieihjlaa
open Go.RowKit

theorem info5 : (Try.prog.info? 5).map (fun i => (i.zero, i.size, i.bytes)) = some (some (.int .u8 0), 1, 1) := by kernel_rfl

theorem cell_one_new' (w : World) (x : Value) (t : TypeId) : ∀ j u, [x][j]? = some u → (w.alloc (.cells #[x] t)).cell? ((⟨w.heap.size, 0, none⟩ : Addr).add j) = some u := by
  intro j u hj
  match j, hj with
  | 0, hj =>
    obtain rfl : x = u := by simpa using hj
    have : (⟨w.heap.size, 0, none⟩ : Addr).add 0 = ⟨w.heap.size, 0, none⟩ := rfl
    rw [this, World.cell?_alloc_mark]
    rfl

theorem cell_one_at (w : World) (x : Value) (t : TypeId) (g : Nat) (hg : g = w.heap.size) : ∀ j u, [x][j]? = some u → (w.alloc (.cells #[x] t)).cell? ((⟨g, 0, none⟩ : Addr).add j) = some u := by
  subst hg; exact cell_one_new' w x t

theorem one_cell {k : IntKind} (n : Int) : ∀ u ∈ [Value.int k n], u.oneCell' = true := by
  intro u hu; simp at hu; subst hu; rfl

theorem below_append {B : Nat} {a W w1 : World} {e : TypeId} {s n : Nat} {v : Value} {xs : List Value} (h : Below B a W) (hown : W.ownsRow B e s v n xs) (hg : W.grownBy w1 v.ownBlock) (hB : B ≤ W.heap.size) : Below B a w1 :=
  h.grown hg hB (fun k hk => (hown.lt k hk).1)

/-- What an owned row that is not empty is. -/
theorem own_open {w : World} {base : Nat} {e : TypeId} {v : Value} {n : Nat} {xs : List Value} (h : w.ownsRow base e 1 v n xs) (hn : 0 < n) :
    ∃ g cap, v = .slice (some ⟨g, 0, none⟩) n cap ∧ base ≤ g ∧ g < w.heap.size ∧ ∀ j u, xs[j]? = some u → w.cell? ((⟨g, 0, none⟩ : Addr).add j) = some u := by
  rcases h.2 with ⟨_, h0⟩ | ⟨g, cap, cur, rfl, hb, hg, hr⟩
  · omega
  · have hl := h.lt g rfl
    exact ⟨g, cap, rfl, hl.1, hl.2, h.cells (g := g) rfl⟩

end Go.Proofs.Ytcdblhhieihjlaa
