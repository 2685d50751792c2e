/- What should become of each variable: of a list put in, one put in at a place, a named one put in, a named one bound; what the calls answer, plainly. No walk. -/
import Derived.Test.YtofmoggjpgjdgaaDoorM6
namespace Go.Proofs.YtofmoggjpgjdgaaDoor
open Go.RowKit
set_option linter.unusedVariables false

def firstP (ls : List TM) : Put := fun k n b => if k = 8 then .node k n [] else if n - b < (ls.length : Int) then moveT b (ls.getD (n - b).toNat (.node 0 0 [])) 0 else .node 1 (n - ls.length) []
def atP (a : TM) (N : Int) : Put := fun k n b => if k = 8 ∨ n - b < N then .node k n [] else if n - b = N then moveT (N + b) a 0 else .node 1 (n - 1) []
def namedP (a : TM) (N : Int) : Put := fun k n b => if k = 8 ∧ n = N then moveT b a 0 else .node k n []
def bindP (N : Int) : Put := fun k n b => if k = 1 then .node 1 (n + 1) [] else if n = N then .node 1 b [] else .node k n []

theorem lift_fair {a : TM} (ha : shapedB a = true) {y : Int} (h0 : 0 ≤ y) (h1 : y ≤ 1048576) : liftX a y 0 = (moveT y a 0, 0) ∨ ((liftX a y 0).2 = 2 ∧ tgoodB (moveT y a 0) = false) := by
  rw [liftX_eq, fitsB_true.2 ⟨h0, h1⟩, fitsB_true.2 ⟨Int.le_refl 0, by omega⟩, ha]
  cases e : tgoodB (moveT y a 0) with
  | true => exact .inl rfl
  | false => exact .inr ⟨rfl, rfl⟩
theorem fair_first {ls : List TM} (h : ls.all shapedB = true) : Fair (firstG ls) (firstP ls) := by
  rintro k n b ⟨hv, hn0, hn1, hb0, hb1⟩
  unfold firstG firstP
  by_cases hk : k = 8
  · rw [if_pos hk, if_pos hk]; exact .inl rfl
  · rw [if_neg hk, if_neg hk]
    by_cases hm : n - b < (ls.length : Int)
    · rw [if_pos hm, if_pos hm]
      have hbn : b ≤ n := by rcases hv with h | h; exact absurd h hk; exact h.2
      have hml : (n - b).toNat < ls.length := by omega
      rw [List.getD_eq_getElem?_getD, List.getElem?_eq_getElem hml]
      exact lift_fair (List.all_eq_true.1 h _ (List.getElem_mem hml)) hb0 (by omega)
    · rw [if_neg hm, if_neg hm]; exact .inl rfl
theorem fair_at {a : TM} {N : Int} (h : shapedB a = true) (hN : 0 ≤ N ∧ N ≤ 1048576) : Fair (atG a N) (atP a N) := by
  rintro k n b ⟨hv, hn0, hn1, hb0, hb1⟩
  unfold atG atP
  by_cases hk : k = 8 ∨ n - b < N
  · rw [if_pos hk, if_pos hk]; exact .inl rfl
  · rw [if_neg hk, if_neg hk]
    by_cases hm : n - b = N
    · rw [if_pos hm, if_pos hm]
      exact lift_fair h (by omega) (by omega)
    · rw [if_neg hm, if_neg hm]; exact .inl rfl
theorem fair_named {a : TM} {N : Int} (h : shapedB a = true) : Fair (namedG a N) (namedP a N) := by
  rintro k n b ⟨hv, hn0, hn1, hb0, hb1⟩
  unfold namedG namedP
  by_cases hk : k = 8 ∧ n = N
  · rw [if_pos hk, if_pos hk]
    exact lift_fair h (by omega) (by omega)
  · rw [if_neg hk, if_neg hk]; exact .inl rfl
theorem fair_bind (N : Int) : Fair (bindG N) (bindP N) := by
  rintro k n b ⟨hv, hn0, hn1, hb0, hb1⟩
  unfold bindG bindP
  left
  split
  · rfl
  · split <;> rfl
/-- What the calls answer. -/
def manyX (t : TM) (l : List TM) : TM × Int := if shapedB t && l.all shapedB then gotX (putT (firstP l) t 0) else (.node 0 0 [], 5)
def atX (t a : TM) (N : Int) : TM × Int := if shapedB t && (shapedB a && fitsB N) then gotX (putT (atP a N) t 0) else (.node 0 0 [], 5)
def namedX (t a : TM) (N : Int) : TM × Int := if shapedB t && (shapedB a && fitsB N) then gotX (putT (namedP a N) t 0) else (.node 0 0 [], 5)
def bindX (t : TM) (N : Int) : TM × Int := if shapedB t && fitsB N then gotX (putT (bindP N) t 0) else (.node 0 0 [], 5)

end Go.Proofs.YtofmoggjpgjdgaaDoor
