/- Rows that a call made: their shape, their cells; strings turned into new rows and back. No program but its types. -/
import Derived.Test.YtmaomnpanfdjeaaDoorAll
import Derived.Test.YtmaomnpanfdjeaaDoorRefPut
namespace Go.Proofs.YtmaomnpanfdjeaaDoor
open Go.RowKit
set_option maxRecDepth 100000
set_option linter.unusedVariables false

theorem own_shape {w : World} {base : Nat} {e : TypeId} {v : Value} {n : Nat} {xs : List Value} (h : w.ownsRow base e 1 v n xs) : ∃ a cap, v = .slice a n cap := by
  rcases h.2 with ⟨rfl, rfl⟩ | ⟨g, cap, cur, rfl, _⟩
  · exact ⟨_, _, rfl⟩
  · exact ⟨_, _, rfl⟩

theorem own_cells {w : World} {base : Nat} {v : Value} {n : Nat} {xs : List Int} (h : w.ownsRow base 3 1 v n (xs.map (Value.int .i64))) (hx : xs.length = n) (hn : 0 < n) :
    ∃ g cap, v = .slice (some ⟨g, 0, none⟩) n cap ∧ g < w.heap.size ∧ ∀ i, i < n → w.cell? ⟨g, 0 + i, none⟩ = some (.int .i64 (xs.getD i 0)) := by
  obtain ⟨g, cap, rfl, _, hlt, hc⟩ := own_open h hn
  refine ⟨g, cap, rfl, hlt, fun i hi => ?_⟩
  have := hc i (.int .i64 (xs.getD i 0)) (by simp [List.getD, show i < xs.length by omega])
  rwa [Addr.add_lit] at this

theorem enc_size (n : Int) : (enc n).size = wid n := by unfold enc; rw [strOfNums_size, encI_length]

/-- '[]byte(t)': a new row that holds t's bytes. -/
theorem conv_whole (w : World) (t : ByteArray) (n : Nat) (xs : List Int) (hn : t.size = n) (hx : bytesL t = xs) :
    ∃ cap W, (convert 9 53 (.string t)).run Tryd.prog w = .ok (.slice (some ⟨w.heap.size, 0, none⟩) n cap) W ∧ Below w.heap.size w W ∧
      ∀ j u, (xs.map (Value.int .u8))[j]? = some u → W.cell? ((⟨w.heap.size, 0, none⟩ : Addr).add j) = some u := by
  have hr := run_bytes_of_string (P := Tryd.prog) w 9 53 5 t Tryd.underlying9 Tryd.underlying53 Tryd.underlying5
  generalize hC : bytesRow t _ = C at hr
  rw [hn] at hr hC
  refine ⟨_, _, hr, ((Below.refl _ _).drew).alloc (Nat.le_refl _) _, ?_⟩
  intro j u hu
  have e : w.heap.size = w.drew.heap.size := rfl
  rw [Addr.add_lit, Nat.zero_add, e, World.cell?_alloc_mark, ← hC]
  have hj : j < t.size := by
    have := (List.getElem?_eq_some_iff.1 hu).1
    rw [List.length_map, ← hx, bytesL_length] at this
    exact this
  unfold bytesRow
  rw [Array.getElem?_append_left (by simpa using hj), Array.getElem?_map]
  rw [← hx, List.getElem?_map, bytesL_get t j hj] at hu
  have e1 : t.data[j]? = some (t[j]'hj) := by
    rw [Array.getElem?_eq_getElem (by simpa using hj)]
    rfl
  rw [e1]
  exact hu

/-- An owned row of bytes, whatever it holds, turned into a string. -/
theorem conv_owned {w : World} {B : Nat} {v : Value} {n : Nat} {xs : List Int} (h : w.ownsRow B 5 1 v n (xs.map (Value.int .u8))) :
    (convert 53 9 v).run Tryd.prog w = .ok (.string (strOfNums xs)) w := by
  have hl : xs.length = n := by have := h.1; rw [List.length_map] at this; omega
  by_cases hn : n = 0
  · subst hn
    obtain rfl : xs = [] := List.eq_nil_of_length_eq_zero hl
    rcases h.2 with ⟨rfl, _⟩ | ⟨g, cap, cur, rfl, _⟩
    · exact run_convert_bytes_nil (P := Tryd.prog) w 53 5 Tryd.underlying53 Tryd.underlying5 0 0 9 Tryd.underlying9
    · exact run_convert_bytes_arg (P := Tryd.prog) w 53 5 Tryd.underlying53 Tryd.underlying5 g 0 0 cap [] rfl (fun i hi => absurd hi (Nat.not_lt_zero i)) 9 Tryd.underlying9
  · obtain ⟨g, cap, rfl, _, _, hc⟩ := own_open h (by omega)
    exact conv_own w g n cap xs hl hc

end Go.Proofs.YtmaomnpanfdjeaaDoor
