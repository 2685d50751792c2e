/- scholiumlaw06.of: the document's node, or that there are too many. -/
import Derived.Test.YteaojmcfppbgiaaGreatDoorC5
namespace Go.Proofs.YteaojmcfppbgiaaGreatDoor
open Go.RowKit
set_option linter.unusedVariables false
set_option maxRecDepth 60000

/-- What of tells: the tree it copied, and whether that is all. -/
def ofT (t : RT) : RT := (bud t 600).1
def ofB (t : RT) : Bool := decide (0 < (bud t 600).2)
theorem of_yes {t : RT} (h : ofB t = true) : ofT t = t ∧ t.size < 600 := by
  have h0 := of_decide_eq_true h
  rcases bud_ok t 600 (by omega) with ⟨h1, h2, h3⟩ | ⟨h1, _⟩
  · exact ⟨h1, by omega⟩
  · omega

def OfIs (t t' : RT) (ok : Bool) (w : World) (e : Ending) (w' : World) : Prop :=
  ∃ A cap, e = .returned (.tuple #[nodeV t' A cap, .bool ok]) ∧ IsNode w' w.heap.size w'.heap.size t' A cap ∧ Below w.heap.size w w'

set_option maxHeartbeats 600000 in
theorem of_any (t : RT) (lo hi : Nat) (A : Option Addr) (cap : Nat) (w : World) (h : IsNode w lo hi t A cap) (hhi : hi ≤ w.heap.size) :
    Calls Tryz.prog 11 #[nodeV t A cap] w (OfIs t (ofT t) (ofB t) w) := by
  have HB := Lib.hid (budget_any t 600 lo hi A cap)
  unfold ofT ofB
  unfold BudIs at HB
  obtain ⟨u, hu⟩ : ∃ u, (bud t 600).1 = u := ⟨_, rfl⟩
  obtain ⟨y, hy⟩ : ∃ y, (bud t 600).2 = y := ⟨_, rfl⟩
  rw [hu, hy] at HB ⊢
  clear hu hy
  unfold nodeV at HB ⊢
  go_enter Tryz.func11, Tryz.ntmps11
  go_wp2_with fail
  refine (HB.out _ ((h.alloc hhi _).alloc (by simp; omega) _) (by simp; omega) (by omega) (by omega)).mono ?_
  rintro e w1 ⟨A', cap', rfl, hn1, hb1⟩
  have hsz1 := hb1.size
  simp at hsz1
  have B1 : Bk w1 (w.heap.size + 1) 27 #[.int .i64 0, .int .i64 0, .string ⟨#[]⟩, .int .i64 0, .slice none 0 0] := by
    have := (Bk.new (w.alloc (.cells #[.int .i64 t.k, .int .i64 t.a, .string t.s, .int .i64 t.n, .slice A t.l.length cap] 36)) 27 #[.int .i64 0, .int .i64 0, .string ⟨#[]⟩, .int .i64 0, .slice none 0 0]).below hb1 (by simp)
    simpa using this
  have hlt : w.heap.size + 1 < w1.heap.size := B1.lt
  have hfz : ∀ o, w1.frozen? ⟨w.heap.size + 1, o, none⟩ = false := fun o => B1.cold o
  have d0 : w1.cell? ⟨w.heap.size + 1, 0, none⟩ = some (.int .i64 0) := B1.cell 0
  have d1 : w1.cell? ⟨w.heap.size + 1, 1, none⟩ = some (.int .i64 0) := B1.cell 1
  have d2 : w1.cell? ⟨w.heap.size + 1, 2, none⟩ = some (.string ⟨#[]⟩) := B1.cell 2
  have d3 : w1.cell? ⟨w.heap.size + 1, 3, none⟩ = some (.int .i64 0) := B1.cell 3
  have d4 : w1.cell? ⟨w.heap.size + 1, 4, none⟩ = some (.slice none 0 0) := B1.cell 4
  have B5 := (((((B1.at_ 0 (.int .i64 u.k)).at_ 1 (.int .i64 u.a)).at_ 2 (.string u.s)).at_ 3 (.int .i64 u.n)).at_ 4 (.slice A' u.l.length cap')).alloc (.cells #[.int .i64 u.k, .int .i64 u.a, .string u.s, .int .i64 u.n, .slice A' u.l.length cap'] 27)
  have HS0 := Lib.hid (B5.cell 0)
  have HS1 := Lib.hid (B5.cell 1)
  have HS2 := Lib.hid (B5.cell 2)
  have HS3 := Lib.hid (B5.cell 3)
  have HS4 := Lib.hid (B5.cell 4)
  have HBW := Lib.hid (((((Below.refl _ _).alloc (Nat.le_refl _) (.cells #[.int .i64 t.k, .int .i64 t.a, .string t.s, .int .i64 t.n, .slice A t.l.length cap] 36)).alloc (by simp) (.cells #[.int .i64 0, .int .i64 0, .string ⟨#[]⟩, .int .i64 0, .slice none 0 0] 27)).trans (hb1.mono (by simp; omega))))
  have HNW : Hid (IsNode w1 (w.heap.size + 2) w1.heap.size u A' cap') := hn1.wide (by simp) (Nat.le_refl _)
  clear hn1 hb1 B1 B5
  go_wp2_with fail
  refine bodyPost_ret (v := .tuple #[.agg #[.int .i64 u.k, .int .i64 u.a, .string u.s, .int .i64 u.n, .slice A' u.l.length cap'], .bool (decide (0 < y))]) (by simp [results, Tryz.results11, go_sem, HS0.out, HS1.out, HS2.out, HS3.out, HS4.out]) rfl ?_
  refine ⟨A', cap', rfl, ?_, ?_⟩
  · have h5 := HNW.out.five (g := w.heap.size + 1) (by omega) (.int .i64 u.k) (.int .i64 u.a) (.string u.s) (.int .i64 u.n) (.slice A' u.l.length cap')
    exact (h5.alloc (by rw [size_five]; exact Nat.le_refl _) _).wide (by omega) (by simp [World.setCell])
  · exact (((((HBW.out.setCell (by simp) _).setCell (by simp) _).setCell (by simp) _).setCell (by simp) _).setCell (by simp) _).alloc (by rw [size_five]; omega) _

end Go.Proofs.YteaojmcfppbgiaaGreatDoor
