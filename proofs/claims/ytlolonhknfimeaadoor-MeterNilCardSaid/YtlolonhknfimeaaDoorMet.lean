/- A meter in memory: its fuel and how many steps are left, in two cells of one block; what New, Step, Spend, Left, Used, Fork and Take do with it, in a run of one goroutine. -/
import Derived.Test.YtlolonhknfimeaaDoorRows
import Derived.WalkKit
import Derived.ProofKit
import Derived.WalkLawsBesides
import Derived.Lib.Hide
import Derived.Laws.LoneSync
import Derived.Laws.NewBlocks
import Derived.Deep.RegionWith
import Derived.Deep.RegionHeld3
import Derived.Deep.RegionLaw
import Derived.BigQuiet
import Derived.Deep.QuietTactic
import Derived.LoopTactic
import Derived.LoopN
namespace Go.Proofs.YtlolonhknfimeaaDoor
open Go.RowKit
set_option linter.unusedVariables false
set_option maxRecDepth 100000

/-- The meter in block b: its fuel, what is left. -/
def Mt (w : World) (b : Nat) (f l : Int) : Prop := w.heap[b]? = some (.cells #[.int .i64 f, .int .i64 l] 61 (0, 0))
theorem Mt.lt {w : World} {b : Nat} {f l : Int} (h : Mt w b f l) : b < w.heap.size := by
  unfold Mt at h
  rcases Nat.lt_or_ge b w.heap.size with hlt | hge
  · exact hlt
  · rw [Array.getElem?_eq_none hge] at h; cases h
theorem Mt.c0 {w : World} {b : Nat} {f l : Int} (h : Mt w b f l) : w.cell? ⟨b, 0, none⟩ = some (.int .i64 f) := cell_of_row w b 0 _ _ (0, 0) h
theorem Mt.c1 {w : World} {b : Nat} {f l : Int} (h : Mt w b f l) : w.cell? ⟨b, 1, none⟩ = some (.int .i64 l) := cell_of_row w b 1 _ _ (0, 0) h
theorem Mt.fz {w : World} {b : Nat} {f l : Int} (h : Mt w b f l) (o : Nat) : w.frozen? ⟨b, o, none⟩ = false := by
  unfold Mt at h
  unfold World.frozen?
  simp [h]
theorem Mt.below {w w' : World} {b B : Nat} {f l : Int} (h : Mt w b f l) (hb : Below B w w') (hg : b < B) : Mt w' b f l := (hb.block b hg).trans h
theorem Mt.over {w w' : World} {b : Nat} {f l : Int} (h : Mt w b f l) (hb : Below w.heap.size w w') : Mt w' b f l := h.below hb h.lt
theorem Mt.alloc {w : World} {b : Nat} {f l : Int} (h : Mt w b f l) (o : Obj) : Mt (w.alloc o) b f l := (Below.heap_alloc w o b h.lt).trans h
theorem Mt.far {w : World} {b : Nat} {f l : Int} (h : Mt w b f l) {a : Addr} (ha : b ≠ a.block) (u : Value) : Mt (w.setCell a u) b f l := (Below.heap_setCell w a u b ha).trans h
theorem Mt.set {w : World} {b : Nat} {f l : Int} (h : Mt w b f l) (m : Int) : Mt (w.setCell ⟨b, 1, none⟩ (.int .i64 m)) b f m := by
  unfold Mt at h ⊢
  show (w.setCell ⟨b, 1, none⟩ (.int .i64 m)).heap[b]? = _
  unfold World.setCell
  simp only [Array.getElem?_modify, if_pos, h, Option.map_some]
  rfl

theorem load_any {w : World} {b : Nat} {f l : Int} (h : Mt w b f l) : Calls Tryd.prog 20 #[.pointer (some ⟨b, 1, none⟩)] w fun e w' => e = .returned (.int .i64 l) ∧ w' = w := by
  have hld := run_call_load (P := Tryd.prog) Tryd.func30 (by kernel_rfl) (by kernel_rfl) (by kernel_rfl) .i64 (by kernel_rfl) h.c1
  have c1 := h.c1
  clear h
  go_enter Tryd.func20, Tryd.ntmps20
  go_wp2
  go_ret
  exact ⟨rfl, rfl⟩

theorem store_any {w : World} {b : Nat} {f l : Int} (h : Mt w b f l) (m : Int) : Calls Tryd.prog 23 #[.pointer (some ⟨b, 1, none⟩), .int .i64 m] w fun e w' => e = .returned (.tuple #[]) ∧ w' = w.setCell ⟨b, 1, none⟩ (.int .i64 m) := by
  have hld := run_call_store (P := Tryd.prog) (k := .i64) (y := m) Tryd.func33 (by kernel_rfl) (by kernel_rfl) (by kernel_rfl) (by kernel_rfl) h.c1 (h.fz 1)
  have c1 := h.c1
  clear h
  go_enter Tryd.func23, Tryd.ntmps23
  go_wp2
  go_end0
  exact ⟨rfl, rfl⟩

theorem cas_any {w : World} {b : Nat} {f l : Int} (h : Mt w b f l) (m : Int) : Calls Tryd.prog 21 #[.pointer (some ⟨b, 1, none⟩), .int .i64 l, .int .i64 m] w fun e w' => e = .returned (.bool true) ∧ w' = w.setCell ⟨b, 1, none⟩ (.int .i64 m) := by
  have hld := run_call_cas_hit (P := Tryd.prog) Tryd.func31 (by kernel_rfl) (by kernel_rfl) (by kernel_rfl) .i64 (by kernel_rfl) (y := m) h.c1 (h.fz 1)
  have c1 := h.c1
  clear h
  go_enter Tryd.func21, Tryd.ntmps21
  go_wp2
  go_ret
  exact ⟨rfl, rfl⟩

theorem left_nil (w : World) : Calls Tryd.prog 9 #[.pointer none] w fun e w' => e = .returned (.int .i64 0) ∧ w' = w := by
  go_enter Tryd.func9, Tryd.ntmps9
  go_wp2
  go_ret
  exact ⟨rfl, rfl⟩
theorem left_any {w : World} {b : Nat} {f l : Int} (h : Mt w b f l) (hl : 0 ≤ l ∧ l ≤ 1048576) : Calls Tryd.prog 9 #[.pointer (some ⟨b, 0, none⟩)] w fun e w' => e = .returned (.int .i64 l) ∧ w' = w := by
  have hw : IntKind.i64.wrap l = l := IntWalk.i64_in _ (by omega)
  have c0 := h.c0; have c1 := h.c1
  have H := Lib.hid h
  clear h hl
  go_enter Tryd.func9, Tryd.ntmps9
  go_wp2_with fail
  refine (load_any H.out).mono ?_; rintro e w1 ⟨rfl, rfl⟩
  go_wp2_with fail
  go_ret
  exact ⟨rfl, rfl⟩
end Go.Proofs.YtlolonhknfimeaaDoor
