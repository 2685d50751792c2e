/- tree.SameDecl. -/
import Derived.Test.YteaojmcfppbgiaaGreatDoorC4
namespace Go.Proofs.YteaojmcfppbgiaaGreatDoor
open Go.RowKit
set_option linter.unusedVariables false
set_option maxRecDepth 100000

theorem test_sameB (l l' : List BT) (w : World) : TestBB w 50 sameBd l l' := by
  intro i h h' lo hi lo' hi' F F' C C' w' hb hn hn' h1 h2
  exact sameBind_any l[i] l'[i] lo hi lo' hi' F F' C C' w' hn hn' h1 h2
theorem test_sameR (l l' : List CT) (w : World) : TestRR w 52 sameRw l l' := by
  intro i h h' lo hi lo' hi' D D' c c' F F' C C' w' hb hn hn' h1 h2
  exact sameRow_any l[i] l'[i] lo hi lo' hi' D D' c c' F F' C C' w' hn hn' h1 h2

set_option maxHeartbeats 4000000 in
theorem sameDecl_any (x y : DT) (lo hi lo' hi' : Nat) (p q : DP) (w : World) (h : IsDecl w lo hi x p) (h' : IsDecl w lo' hi' y q) (hhi : hi ≤ w.heap.size) (hhi' : hi' ≤ w.heap.size) :
    Calls Tryz.prog 19 #[declV x p, declV y q] w fun e w' => e = .returned (.bool (sameDc x y)) ∧ Below w.heap.size w w' := by
  have hW2 : ∀ o1 o2, Below w.heap.size w ((w.alloc o1).alloc o2) := fun o1 o2 => ((Below.refl _ _).alloc (Nat.le_refl _) _).alloc (by simp) _
  have HW2 := Lib.hid hW2
  have HI := Lib.hid (fun o1 o2 => h.kept (hW2 o1 o2) hhi)
  have HI' := Lib.hid (fun o1 o2 => h'.kept (hW2 o1 o2) hhi')
  have H1 := Lib.hid (fun W h1 h2 h3 h4 => eqf_bind sameBd x.te y.te p.A q.A p.a q.a lo hi lo' hi' W (Nat.le_trans h.la h.ma) (Nat.le_trans h'.la h'.ma) h1 h2 h3 h4 (test_sameB _ _ W))
  have H2 := Lib.hid (fun W h1 h2 h3 h4 => tSame_any x.t y.t lo hi lo' hi' p.F q.F p.C q.C W h1 h2 h3 h4)
  have H3 := Lib.hid (fun W h1 h2 h3 h4 => eqf_bind sameBd x.co y.co p.B q.B p.b q.b lo hi lo' hi' W (Nat.le_trans h.lb h.mb) (Nat.le_trans h'.lb h'.mb) h1 h2 h3 h4 (test_sameB _ _ W))
  have H4 := Lib.hid (fun W h1 h2 h3 h4 => eqf_row sameRw x.ro y.ro p.D q.D p.d q.d lo hi lo' hi' W (Nat.le_trans h.ld h.md) (Nat.le_trans h'.ld h'.md) h1 h2 h3 h4 (test_sameR _ _ W))
  clear h h' hW2
  unfold sameDc
  obtain ⟨b1, e1⟩ : ∃ b, pairsX sameBd x.te y.te = b := ⟨_, rfl⟩
  obtain ⟨b2, e2⟩ : ∃ b, sameB x.t y.t = b := ⟨_, rfl⟩
  obtain ⟨b3, e3⟩ : ∃ b, pairsX sameBd x.co y.co = b := ⟨_, rfl⟩
  obtain ⟨b4, e4⟩ : ∃ b, pairsX sameRw x.ro y.ro = b := ⟨_, rfl⟩
  rw [e1] at H1 ⊢
  rw [e2] at H2 ⊢
  rw [e3] at H3 ⊢
  rw [e4] at H4 ⊢
  clear e1 e2 e3 e4
  unfold nodeV at H2
  unfold declV
  by_cases hk : x.k = y.k
  case neg =>
    rw [decide_eq_false hk, Bool.false_and]
    have t0 : (x.k == y.k) = false := by simpa using hk
    clear hk H1 H2 H3 H4
    go_enter Tryz.func19, Tryz.ntmps19
    go_wp2_with fail
    go_ret
    exact ⟨rfl, HW2.out _ _⟩
  rw [decide_eq_true hk, Bool.true_and]
  have t0 : (x.k == y.k) = true := by simpa using hk
  clear hk
  by_cases hss : x.s = y.s
  case neg =>
    rw [decide_eq_false hss, Bool.false_and]
    have t1 := ne_list hss
    clear hss H1 H2 H3 H4
    go_enter Tryz.func19, Tryz.ntmps19
    go_wp2_with fail
    go_ret
    exact ⟨rfl, HW2.out _ _⟩
  rw [decide_eq_true hss, Bool.true_and]
  have t1 := eq_list hss
  clear hss
  cases b1 with
  | false =>
    rw [Bool.false_and]
    clear H2 H3 H4
    go_enter Tryz.func19, Tryz.ntmps19
    go_wp2_with fail
    refine (H1.out _ (HI.out _ _).te (HI'.out _ _).te (by simp; omega) (by simp; omega)).mono ?_
    rintro e w1 ⟨rfl, hb1⟩
    go_wp2_with fail
    go_ret
    exact ⟨rfl, (HW2.out _ _).trans (hb1.mono (by simp; omega))⟩
  | true =>
  rw [Bool.true_and]
  cases b2 with
  | false =>
    rw [Bool.false_and]
    clear H3 H4
    go_enter Tryz.func19, Tryz.ntmps19
    go_wp2_with fail
    refine (H1.out _ (HI.out _ _).te (HI'.out _ _).te (by simp; omega) (by simp; omega)).mono ?_
    rintro e w1 ⟨rfl, hb1⟩
    have hz1 := hb1.size
    simp at hz1
    have hB1 := (HW2.out _ _).trans (hb1.mono (by simp; omega))
    have hcell := fun p hp => hb1.cell (p := p) hp
    go_wp2_with fail
    refine (H2.out _ ((HI.out _ _).t.kept hb1 (by simp; omega)) ((HI'.out _ _).t.kept hb1 (by simp; omega)) (by omega) (by omega)).mono ?_
    rintro e w2 ⟨rfl, hb2⟩
    go_wp2_with fail
    go_ret
    exact ⟨rfl, hB1.trans (hb2.mono (by omega))⟩
  | true =>
  rw [Bool.true_and]
  cases b3 with
  | false =>
    rw [Bool.false_and]
    clear H4
    go_enter Tryz.func19, Tryz.ntmps19
    go_wp2_with fail
    refine (H1.out _ (HI.out _ _).te (HI'.out _ _).te (by simp; omega) (by simp; omega)).mono ?_
    rintro e w1 ⟨rfl, hb1⟩
    have hz1 := hb1.size
    simp at hz1
    have hB1 := (HW2.out _ _).trans (hb1.mono (by simp; omega))
    have hcell := fun p hp => hb1.cell (p := p) hp
    go_wp2_with fail
    refine (H2.out _ ((HI.out _ _).t.kept hb1 (by simp; omega)) ((HI'.out _ _).t.kept hb1 (by simp; omega)) (by omega) (by omega)).mono ?_
    rintro e w2 ⟨rfl, hb2⟩
    have hz2 := hb2.size
    have hB2 := hb1.trans (hb2.mono (by simp; omega))
    have hcell2 := fun p hp => hB2.cell (p := p) hp
    clear hcell
    go_wp2_with fail
    refine (H3.out _ ((HI.out _ _).co.kept hB2 (by simp; omega)) ((HI'.out _ _).co.kept hB2 (by simp; omega)) (by omega) (by omega)).mono ?_
    rintro e w3 ⟨rfl, hb3⟩
    go_wp2_with fail
    go_ret
    exact ⟨rfl, hB1.trans ((hb2.mono (by omega)).trans (hb3.mono (by omega)))⟩
  | true =>
    rw [Bool.true_and]
    go_enter Tryz.func19, Tryz.ntmps19
    go_wp2_with fail
    refine (H1.out _ (HI.out _ _).te (HI'.out _ _).te (by simp; omega) (by simp; omega)).mono ?_
    rintro e w1 ⟨rfl, hb1⟩
    have hz1 := hb1.size
    simp at hz1
    have hB1 := (HW2.out _ _).trans (hb1.mono (by simp; omega))
    have hcell := fun p hp => hb1.cell (p := p) hp
    go_wp2_with fail
    refine (H2.out _ ((HI.out _ _).t.kept hb1 (by simp; omega)) ((HI'.out _ _).t.kept hb1 (by simp; omega)) (by omega) (by omega)).mono ?_
    rintro e w2 ⟨rfl, hb2⟩
    have hz2 := hb2.size
    have hB2 := hb1.trans (hb2.mono (by simp; omega))
    have hcell2 := fun p hp => hB2.cell (p := p) hp
    clear hcell
    go_wp2_with fail
    refine (H3.out _ ((HI.out _ _).co.kept hB2 (by simp; omega)) ((HI'.out _ _).co.kept hB2 (by simp; omega)) (by omega) (by omega)).mono ?_
    rintro e w3 ⟨rfl, hb3⟩
    have hz3 := hb3.size
    have hB3 := hB2.trans (hb3.mono (by simp; omega))
    have hcell3 := fun p hp => hB3.cell (p := p) hp
    clear hcell2
    go_wp2_with fail
    refine (H4.out _ ((HI.out _ _).ro.kept hB3 (by simp; omega)) ((HI'.out _ _).ro.kept hB3 (by simp; omega)) (by omega) (by omega)).mono ?_
    rintro e w4 ⟨rfl, hb4⟩
    go_wp2_with fail
    go_ret
    exact ⟨rfl, hB1.trans ((hb2.mono (by omega)).trans ((hb3.mono (by omega)).trans (hb4.mono (by omega))))⟩

end Go.Proofs.YteaojmcfppbgiaaGreatDoor
