/- tree.Right. -/
import Derived.Test.YteaojmcfppbgiaaGreatDoorC4
namespace Go.Proofs.YteaojmcfppbgiaaGreatDoor
open Go.RowKit
set_option linter.unusedVariables false
set_option maxRecDepth 100000

theorem Rooms.lt {w : World} (h : Rooms w) : 0 < w.heap.size := World.block_lt_of_cell? w _ (h 0 0 (by omega) (by omega))
theorem Rooms.below {w w' : World} (h : Rooms w) (hb : Below w.heap.size w w') : Rooms w' := fun i j hi hj => (hb.cell (p := ⟨0, i * 3 + j, none⟩) h.lt).trans (h i j hi hj)
theorem room_of {K : Nat} (h1 : 1 ≤ K) (h2 : K ≤ 3) (x y z : Nat) : roomB (K : Int) x y z = (!decide (rm K 0 < (x : Int)) && (!decide (rm K 1 < (y : Int)) && !decide (rm K 2 < (z : Int)))) := by
  have no : ∀ n m : Nat, decide (m ≤ n) = !decide ((n : Int) < (m : Int)) := fun n m => by
    by_cases h : m ≤ n
    · rw [decide_eq_true h, decide_eq_false (by omega)]; rfl
    · rw [decide_eq_false h, decide_eq_true (by omega)]; rfl
  rcases (show K = 1 ∨ K = 2 ∨ K = 3 by omega) with rfl | rfl | rfl <;> (unfold roomB; simp only [no]; rfl)

theorem test_bindB (l : List BT) (w : World) (hS : Shapes w) : TestB w 57 [] l fun i => (l[i]?.map bindB).getD true := by
  intro i h lo hi F C w' hb hn hh
  show Calls Tryz.prog 57 #[bindV l[i] F C] w' fun e w'' => e = .returned (.bool ((l[i]?.map bindB).getD true)) ∧ Below w'.heap.size w' w''
  rw [mapAt bindB h]
  exact rightBind_any l[i] lo hi F C w' hn hh (hS.below hb)
theorem test_rowB (l : List CT) (w : World) (hS : Shapes w) : TestR w 59 [] l fun i => (l[i]?.map rowB).getD true := by
  intro i h lo hi D c F C w' hb hn hh
  show Calls Tryz.prog 59 #[rowV l[i] D c F C] w' fun e w'' => e = .returned (.bool ((l[i]?.map rowB).getD true)) ∧ Below w'.heap.size w' w''
  rw [mapAt rowB h]
  exact rightRow_any l[i] lo hi D c F C w' hn hh (hS.below hb)

set_option maxHeartbeats 8000000 in
theorem declRight_any (x : DT) (lo hi : Nat) (p : DP) (w : World) (h : IsDecl w lo hi x p) (hhi : hi ≤ w.heap.size) (hS : Shapes w) (hR : Rooms w) :
    Calls Tryz.prog 26 #[declV x p] w fun e w' => e = .returned (.bool (declB x)) ∧ Below w.heap.size w w' := by
  have HS := Lib.hid hS
  have HRM := Lib.hid hR
  have hs := h.hs
  unfold maxLen at hs
  have HN := Lib.hid (fun W => nameRight_any x.s W hs)
  have H1 := Lib.hid (fun W h1 h2 h3 => all_bind x.te p.A p.a lo hi (fun i => (x.te[i]?.map bindB).getD true) W (Nat.le_trans h.la h.ma) h1 h2 (test_bindB x.te W h3))
  have H2 := Lib.hid (fun W h1 h2 h3 => expr_any x.t lo hi p.F p.C W h1 h2 h3)
  have H3 := Lib.hid (fun W h1 h2 h3 => all_bind x.co p.B p.b lo hi (fun i => (x.co[i]?.map bindB).getD true) W (Nat.le_trans h.lb h.mb) h1 h2 (test_bindB x.co W h3))
  have H4 := Lib.hid (fun W h1 h2 h3 => all_row x.ro p.D p.d lo hi (fun i => (x.ro[i]?.map rowB).getD true) W (Nat.le_trans h.ld h.md) h1 h2 (test_rowB x.ro W h3))
  have HI := Lib.hid (fun W h1 => h.kept (B := w.heap.size) (w' := W) h1 hhi)
  clear hS hR h hs
  unfold declB exprB
  rw [show allB (fun i => (x.te[i]?.map bindB).getD true) x.te.length = bindsB x.te from rfl] at H1
  rw [show allB (fun i => (x.co[i]?.map bindB).getD true) x.co.length = bindsB x.co from rfl] at H3
  rw [show allB (fun i => (x.ro[i]?.map rowB).getD true) x.ro.length = rowsB x.ro from rfl] at H4
  obtain ⟨b1, e1⟩ : ∃ b, bindsB x.te = b := ⟨_, rfl⟩
  obtain ⟨b2, e2⟩ : ∃ b, (fitB x.t && goodB x.t false) = b := ⟨_, rfl⟩
  obtain ⟨b3, e3⟩ : ∃ b, bindsB x.co = b := ⟨_, rfl⟩
  obtain ⟨b4, e4⟩ : ∃ b, rowsB x.ro = b := ⟨_, rfl⟩
  obtain ⟨b0, e0⟩ : ∃ b, nmB x.s = b := ⟨_, rfl⟩
  rw [e0] at HN ⊢
  rw [e1] at H1 ⊢
  rw [e2] at H2 ⊢
  rw [e3] at H3 ⊢
  rw [e4] at H4 ⊢
  clear e0 e1 e2 e3 e4
  unfold nodeV at H2
  have hW1 : ∀ o, Below w.heap.size w (w.alloc o) := fun o => (Below.refl _ _).alloc (Nat.le_refl _) _
  have HW1 := Lib.hid hW1
  clear hW1
  unfold declV
  obtain ⟨k, hk⟩ : ∃ k, x.k = k := ⟨_, rfl⟩
  rw [hk]
  clear hk
  by_cases hk1 : k < 1
  · rw [decide_eq_false (by omega : ¬ 1 ≤ k), Bool.false_and]
    clear HN H1 H2 H3 H4
    go_enter Tryz.func26, Tryz.ntmps26
    go_wp2_with fail
    go_ret
    exact ⟨rfl, HW1.out _⟩
  rw [decide_eq_true (by omega : 1 ≤ k), Bool.true_and]
  by_cases hk2 : 3 < k
  · rw [decide_eq_false (by omega : ¬ k ≤ 3), Bool.false_and]
    clear HN H1 H2 H3 H4
    go_enter Tryz.func26, Tryz.ntmps26
    go_wp2_with fail
    go_ret
    exact ⟨rfl, HW1.out _⟩
  rw [decide_eq_true (by omega : k ≤ 3), Bool.true_and]
  obtain ⟨K, rfl⟩ : ∃ K : Nat, k = (K : Int) := ⟨k.toNat, by omega⟩
  have hK1 : 1 ≤ K := by omega
  have hK2 : K ≤ 3 := by omega
  have HRM2 := Lib.hid (fun V h1 => (HRM.out.below (w' := V) h1) K)
  rw [room_of hK1 hK2]
  obtain ⟨v0, hv0⟩ : ∃ v, rm K 0 = v := ⟨_, rfl⟩
  obtain ⟨v1, hv1⟩ : ∃ v, rm K 1 = v := ⟨_, rfl⟩
  obtain ⟨v2, hv2⟩ : ∃ v, rm K 2 = v := ⟨_, rfl⟩
  have HC : Hid (∀ V, Below w.heap.size w V → V.cell? ⟨0, K * 3, none⟩ = some (.int .i64 v0) ∧ V.cell? ⟨0, K * 3 + 1, none⟩ = some (.int .i64 v1) ∧ V.cell? ⟨0, K * 3 + 2, none⟩ = some (.int .i64 v2)) := Lib.hid (fun V hV => by
    have c0 := HRM2.out V hV 0 (by omega) (by omega)
    have c1 := HRM2.out V hV 1 (by omega) (by omega)
    have c2 := HRM2.out V hV 2 (by omega) (by omega)
    rw [Nat.add_zero, hv0] at c0
    rw [hv1] at c1
    rw [hv2] at c2
    exact ⟨c0, c1, c2⟩)
  rw [hv0, hv1, hv2]
  clear hv0 hv1 hv2 HRM HRM2
  have hKa : (1 : Int) ≤ (K : Int) := by omega
  have hKb : (K : Int) < 4 := by omega
  have d1 : decide ((K : Int) < 1) = false := decide_eq_false (by omega)
  have d2 : decide ((3 : Int) < (K : Int)) = false := decide_eq_false (by omega)
  have HK := Lib.hid hK2
  clear hk1 hk2 hK1 hK2
  cases b0 with
  | false =>
    rw [Bool.false_and]
    clear H1 H2 H3 H4
    go_enter Tryz.func26, Tryz.ntmps26
    go_wp2_with fail
    refine (HN.out _).mono ?_
    rintro e w1 ⟨rfl, hb1⟩
    go_wp2_with fail
    go_ret
    exact ⟨rfl, (HW1.out _).trans (hb1.mono (by simp))⟩
  | true =>
  rw [Bool.true_and]
  obtain ⟨r0, t0⟩ : ∃ b, decide (v0 < (x.te.length : Int)) = b := ⟨_, rfl⟩
  obtain ⟨r1, t1⟩ : ∃ b, decide (v1 < (x.co.length : Int)) = b := ⟨_, rfl⟩
  obtain ⟨r2, t2⟩ : ∃ b, decide (v2 < (x.ro.length : Int)) = b := ⟨_, rfl⟩
  rw [t0, t1, t2]
  cases hroom : (!r0 && (!r1 && !r2)) with
  | false =>
    rw [Bool.false_and]
    clear H1 H2 H3 H4
    cases r0 <;> cases r1 <;> cases r2 <;> first | (exact absurd hroom (by decide)) | skip
    all_goals
      clear hroom
      go_enter Tryz.func26, Tryz.ntmps26
      go_wp2_with fail
      refine (HN.out _).mono ?_
      rintro e w1 ⟨rfl, hb1⟩
      have hz1 := hb1.size
      simp at hz1
      have hB1 := (HW1.out _).trans (hb1.mono (by simp))
      have hcell := fun o => hb1.cell (p := ⟨w.heap.size, o, none⟩) (by simp)
      obtain ⟨c0, c1, c2⟩ := HC.out w1 hB1
      have hlt1 : w.heap.size < w1.heap.size := by omega
      go_wp2_with fail
      go_ret
      exact ⟨rfl, hB1.alloc (by omega) _⟩
  | true =>
  obtain ⟨rfl, rfl, rfl⟩ : r0 = false ∧ r1 = false ∧ r2 = false := by cases r0 <;> cases r1 <;> cases r2 <;> simp_all
  clear hroom
  rw [Bool.true_and]
  cases b1 with
  | false =>
    rw [Bool.false_and]
    clear H2 H3 H4
    go_enter Tryz.func26, Tryz.ntmps26
    go_wp2_with fail
    refine (HN.out _).mono ?_
    rintro e w1 ⟨rfl, hb1⟩
    have hz1 := hb1.size
    simp at hz1
    have hB1 := (HW1.out _).trans (hb1.mono (by simp))
    have hcell := fun o => hb1.cell (p := ⟨w.heap.size, o, none⟩) (by simp)
    obtain ⟨c0, c1, c2⟩ := HC.out w1 hB1
    have hlt1 : w.heap.size < w1.heap.size := by omega
    go_wp2_with fail
    refine (H1.out _ (HI.out _ (hB1.alloc (by omega) _)).te (by simp; omega) (HS.out.below (hB1.alloc (by omega) _))).mono ?_
    rintro e w2 ⟨rfl, hb2⟩
    go_wp2_with fail
    go_ret
    exact ⟨rfl, (hB1.alloc (by omega) _).trans (hb2.mono (by simp; omega))⟩
  | true =>
  rw [Bool.true_and]
  cases b2 with
  | false =>
    rw [Bool.false_and]
    clear H3 H4
    go_enter Tryz.func26, Tryz.ntmps26
    go_wp2_with fail
    refine (HN.out _).mono ?_
    rintro e w1 ⟨rfl, hb1⟩
    have hz1 := hb1.size
    simp at hz1
    have hB1 := (HW1.out _).trans (hb1.mono (by simp))
    have hcell := fun o => hb1.cell (p := ⟨w.heap.size, o, none⟩) (by simp)
    obtain ⟨c0, c1, c2⟩ := HC.out w1 hB1
    have hlt1 : w.heap.size < w1.heap.size := by omega
    go_wp2_with fail
    refine (H1.out _ (HI.out _ (hB1.alloc (by omega) _)).te (by simp; omega) (HS.out.below (hB1.alloc (by omega) _))).mono ?_
    rintro e w2 ⟨rfl, hb2⟩
    have hz2 := hb2.size
    simp at hz2
    have hB2 := (hB1.alloc (by omega) _).trans (hb2.mono (by simp; omega))
    have hcell2 := fun p hp => hb2.cell (p := p) hp
    go_wp2_with fail
    refine (H2.out _ (HI.out _ hB2).t (by omega) (HS.out.below hB2)).mono ?_
    rintro e w3 ⟨rfl, hb3⟩
    go_wp2_with fail
    go_ret
    exact ⟨rfl, hB2.trans (hb3.mono (by omega))⟩
  | true =>
  rw [Bool.true_and]
  cases b3 with
  | false =>
    rw [Bool.false_and]
    clear H4
    go_enter Tryz.func26, Tryz.ntmps26
    go_wp2_with fail
    refine (HN.out _).mono ?_
    rintro e w1 ⟨rfl, hb1⟩
    have hz1 := hb1.size
    simp at hz1
    have hB1 := (HW1.out _).trans (hb1.mono (by simp))
    have hcell := fun o => hb1.cell (p := ⟨w.heap.size, o, none⟩) (by simp)
    obtain ⟨c0, c1, c2⟩ := HC.out w1 hB1
    have hlt1 : w.heap.size < w1.heap.size := by omega
    go_wp2_with fail
    refine (H1.out _ (HI.out _ (hB1.alloc (by omega) _)).te (by simp; omega) (HS.out.below (hB1.alloc (by omega) _))).mono ?_
    rintro e w2 ⟨rfl, hb2⟩
    have hz2 := hb2.size
    simp at hz2
    have hB2 := (hB1.alloc (by omega) _).trans (hb2.mono (by simp; omega))
    have hcell2 := fun p hp => hb2.cell (p := p) hp
    go_wp2_with fail
    refine (H2.out _ (HI.out _ hB2).t (by omega) (HS.out.below hB2)).mono ?_
    rintro e w3 ⟨rfl, hb3⟩
    have hz3 := hb3.size
    have hB3 := hB2.trans (hb3.mono (by omega))
    have hcell3 := fun p hp => (hb2.trans (hb3.mono (by simp; omega))).cell (p := p) hp
    clear hcell2
    go_wp2_with fail
    refine (H3.out _ (HI.out _ hB3).co (by omega) (HS.out.below hB3)).mono ?_
    rintro e w4 ⟨rfl, hb4⟩
    go_wp2_with fail
    go_ret
    exact ⟨rfl, hB3.trans (hb4.mono (by omega))⟩
  | true =>
    rw [Bool.true_and]
    go_enter Tryz.func26, Tryz.ntmps26
    go_wp2_with fail
    refine (HN.out _).mono ?_
    rintro e w1 ⟨rfl, hb1⟩
    have hz1 := hb1.size
    simp at hz1
    have hB1 := (HW1.out _).trans (hb1.mono (by simp))
    have hcell := fun o => hb1.cell (p := ⟨w.heap.size, o, none⟩) (by simp)
    obtain ⟨c0, c1, c2⟩ := HC.out w1 hB1
    have hlt1 : w.heap.size < w1.heap.size := by omega
    go_wp2_with fail
    refine (H1.out _ (HI.out _ (hB1.alloc (by omega) _)).te (by simp; omega) (HS.out.below (hB1.alloc (by omega) _))).mono ?_
    rintro e w2 ⟨rfl, hb2⟩
    have hz2 := hb2.size
    simp at hz2
    have hB2 := (hB1.alloc (by omega) _).trans (hb2.mono (by simp; omega))
    have hcell2 := fun p hp => hb2.cell (p := p) hp
    go_wp2_with fail
    refine (H2.out _ (HI.out _ hB2).t (by omega) (HS.out.below hB2)).mono ?_
    rintro e w3 ⟨rfl, hb3⟩
    have hz3 := hb3.size
    have hB3 := hB2.trans (hb3.mono (by omega))
    have hc3 := hb2.trans (hb3.mono (by simp; omega))
    have hcell3 := fun p hp => hc3.cell (p := p) hp
    clear hcell2
    go_wp2_with fail
    refine (H3.out _ (HI.out _ hB3).co (by omega) (HS.out.below hB3)).mono ?_
    rintro e w4 ⟨rfl, hb4⟩
    have hz4 := hb4.size
    have hB4 := hB3.trans (hb4.mono (by omega))
    have hcell4 := fun p hp => (hc3.trans (hb4.mono (by simp; omega))).cell (p := p) hp
    clear hcell3
    go_wp2_with fail
    refine (H4.out _ (HI.out _ hB4).ro (by omega) (HS.out.below hB4)).mono ?_
    rintro e w5 ⟨rfl, hb5⟩
    go_wp2_with fail
    go_ret
    exact ⟨rfl, hB4.trans (hb5.mono (by omega))⟩

end Go.Proofs.YteaojmcfppbgiaaGreatDoor
