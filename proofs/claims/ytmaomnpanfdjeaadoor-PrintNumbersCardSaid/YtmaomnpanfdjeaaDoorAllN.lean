/- tree.all over nodes, with the tests that the program hands it. -/
import Derived.Test.YtmaomnpanfdjeaaDoorIdx
namespace Go.Proofs.YtmaomnpanfdjeaaDoor
open Go.RowKit
set_option linter.unusedVariables false

theorem contains_any (l : List RT) (A : Option Addr) (cap lo hi : Nat) (p : Addr) (Q : Nat → Bool) (w : World) (hl : l.length ≤ maxLen) (hn : NodesAt w lo hi A l) (hhi : hi ≤ w.heap.size) (ht : TestN w 54 [.pointer (some p)] l fun i => !Q i) :
    Calls Tryd.prog 53 #[.slice A l.length cap, .func (.func 54) #[] #[.pointer (some p)]] w fun e w' => e = .returned (.bool (!allB Q l.length)) ∧ Below w.heap.size w w' := by
  have HC := Lib.hid (index_any l A cap lo hi p (fun i => !Q i) w hl hn hhi ht)
  clear hl hn hhi ht
  go_enter Tryd.func53, Tryd.ntmps53
  go_wp2_with fail
  refine HC.out.mono ?_
  rintro e w1 ⟨r, rfl, hr, hb⟩
  have HR := Lib.hid (idx_all hr)
  clear hr
  go_wp2_with fail
  go_ret
  exact ⟨by rw [HR.out]; rfl, hb⟩

theorem not_stands (t : RT) (F : Option Addr) (C : Nat) (pb po : Nat) (q : Addr) (b : Bool) (w : World) (hc : w.cell? ⟨pb, po, none⟩ = some (.func (.func 45) #[] #[.pointer (some q)])) (lo hi : Nat) (h : IsNode w lo hi t F C) (hhi : hi ≤ w.heap.size)
    (hq : ∀ W, Below w.heap.size w W → IsNode W lo hi t F C → Calls Tryd.prog 45 #[nodeV t F C, .pointer (some q)] W fun e w' => e = .returned (.bool b) ∧ Below W.heap.size W w') :
    Calls Tryd.prog 54 #[nodeV t F C, .pointer (some ⟨pb, po, none⟩)] w fun e w' => e = .returned (.bool (!b)) ∧ Below w.heap.size w w' := by
  have HQ := Lib.hid hq
  have hlt : pb < w.heap.size := World.block_lt_of_cell? w _ hc
  clear hq
  unfold nodeV at HQ ⊢
  go_enter Tryd.func54, Tryd.ntmps54
  go_wp2_with fail
  refine (HQ.out _ ((Below.refl _ _).alloc (Nat.le_refl _) _) (h.alloc hhi _)).mono ?_
  rintro e w1 ⟨rfl, hb⟩
  go_wp2_with fail
  go_ret
  exact ⟨rfl, ((Below.refl _ _).alloc (Nat.le_refl _) _).trans (hb.mono (by simp))⟩

theorem all_stands (l : List RT) (A : Option Addr) (cap lo hi : Nat) (q : Addr) (Q : Nat → Bool) (w : World) (hl : l.length ≤ maxLen) (hn : NodesAt w lo hi A l) (hhi : hi ≤ w.heap.size) (ht : TestN w 45 [.pointer (some q)] l Q) :
    Calls Tryd.prog 44 #[.slice A l.length cap, .func (.func 45) #[] #[.pointer (some q)]] w fun e w' => e = .returned (.bool (allB Q l.length)) ∧ Below w.heap.size w w' := by
  obtain ⟨W, hW⟩ : ∃ W, w.alloc (.cells #[.func (.func 45) #[] #[.pointer (some q)]] 37) = W := ⟨_, rfl⟩
  have hB : Below w.heap.size w W := by rw [← hW]; exact (Below.refl _ _).alloc (Nat.le_refl _) _
  have hz : w.heap.size < W.heap.size := by rw [← hW]; simp
  have hcell : W.cell? ⟨w.heap.size, 0, none⟩ = some (.func (.func 45) #[] #[.pointer (some q)]) := by rw [← hW, World.cell?_alloc_mark]; rfl
  have HC := Lib.hid (contains_any l A cap lo hi ⟨w.heap.size, 0, none⟩ Q W hl (hn.kept hB hhi) (by omega) (fun i h lo' hi' F C W' hb hx hh =>
    not_stands l[i] F C w.heap.size 0 q (Q i) W' ((hb.cell (p := ⟨w.heap.size, 0, none⟩) hz).trans hcell) lo' hi' hx hh (fun W2 hb2 hx2 => ht i h lo' hi' F C W2 (hB.trans ((hb.mono hB.size).trans (hb2.mono (Nat.le_trans hB.size hb.size)))) hx2 (Nat.le_trans hh hb2.size))))
  have HW := Lib.hid hW
  have HB := Lib.hid hB
  clear hl hn hhi ht hW hB hcell hz
  go_enter Tryd.func44, Tryd.ntmps44
  go_wp2_with fail
  rw [HW.out]
  refine HC.out.mono ?_
  rintro e w1 ⟨rfl, hb⟩
  go_wp2_with fail
  go_ret
  exact ⟨by simp, HB.out.trans (hb.mono HB.out.size)⟩

theorem not_pattern (t : RT) (F : Option Addr) (C : Nat) (pb po : Nat) (b : Bool) (w : World) (hc : w.cell? ⟨pb, po, none⟩ = some (.func (.func 22) #[] #[])) (lo hi : Nat) (h : IsNode w lo hi t F C) (hhi : hi ≤ w.heap.size)
    (hq : ∀ W, Below w.heap.size w W → IsNode W lo hi t F C → Calls Tryd.prog 22 #[nodeV t F C] W fun e w' => e = .returned (.bool b) ∧ Below W.heap.size W w') :
    Calls Tryd.prog 54 #[nodeV t F C, .pointer (some ⟨pb, po, none⟩)] w fun e w' => e = .returned (.bool (!b)) ∧ Below w.heap.size w w' := by
  have HQ := Lib.hid hq
  have hlt : pb < w.heap.size := World.block_lt_of_cell? w _ hc
  clear hq
  unfold nodeV at HQ ⊢
  go_enter Tryd.func54, Tryd.ntmps54
  go_wp2_with fail
  refine (HQ.out _ ((Below.refl _ _).alloc (Nat.le_refl _) _) (h.alloc hhi _)).mono ?_
  rintro e w1 ⟨rfl, hb⟩
  go_wp2_with fail
  go_ret
  exact ⟨rfl, ((Below.refl _ _).alloc (Nat.le_refl _) _).trans (hb.mono (by simp))⟩

theorem all_pattern (l : List RT) (A : Option Addr) (cap lo hi : Nat) (Q : Nat → Bool) (w : World) (hl : l.length ≤ maxLen) (hn : NodesAt w lo hi A l) (hhi : hi ≤ w.heap.size) (ht : TestN w 22 [] l Q) :
    Calls Tryd.prog 44 #[.slice A l.length cap, .func (.func 22) #[] #[]] w fun e w' => e = .returned (.bool (allB Q l.length)) ∧ Below w.heap.size w w' := by
  obtain ⟨W, hW⟩ : ∃ W, w.alloc (.cells #[.func (.func 22) #[] #[]] 37) = W := ⟨_, rfl⟩
  have hB : Below w.heap.size w W := by rw [← hW]; exact (Below.refl _ _).alloc (Nat.le_refl _) _
  have hz : w.heap.size < W.heap.size := by rw [← hW]; simp
  have hcell : W.cell? ⟨w.heap.size, 0, none⟩ = some (.func (.func 22) #[] #[]) := by rw [← hW, World.cell?_alloc_mark]; rfl
  have HC := Lib.hid (contains_any l A cap lo hi ⟨w.heap.size, 0, none⟩ Q W hl (hn.kept hB hhi) (by omega) (fun i h lo' hi' F C W' hb hx hh =>
    not_pattern l[i] F C w.heap.size 0 (Q i) W' ((hb.cell (p := ⟨w.heap.size, 0, none⟩) hz).trans hcell) lo' hi' hx hh (fun W2 hb2 hx2 => ht i h lo' hi' F C W2 (hB.trans ((hb.mono hB.size).trans (hb2.mono (Nat.le_trans hB.size hb.size)))) hx2 (Nat.le_trans hh hb2.size))))
  have HW := Lib.hid hW
  have HB := Lib.hid hB
  clear hl hn hhi ht hW hB hcell hz
  go_enter Tryd.func44, Tryd.ntmps44
  go_wp2_with fail
  rw [HW.out]
  refine HC.out.mono ?_
  rintro e w1 ⟨rfl, hb⟩
  go_wp2_with fail
  go_ret
  exact ⟨by simp, HB.out.trans (hb.mono HB.out.size)⟩

end Go.Proofs.YtmaomnpanfdjeaaDoor
