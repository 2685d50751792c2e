/- The walk of the law TreeSames. -/
import Derived.Test.YtmnhpaidaomfbaaDoorNodesW
namespace Go.Proofs.YtmnhpaidaomfbaaDoor
open Go.RowKit
set_option linter.unusedVariables false
set_option maxRecDepth 100000

theorem same_symm : ∀ t u : RT, same t u = same u t := by
  intro t
  induction t using RT.ind with
  | h k a s n l ih =>
    rintro ⟨k', a', s', n', l'⟩
    rw [same_node, same_node]
    have e1 : decide (k = k') = decide (k' = k) := by congr 1; exact propext ⟨Eq.symm, Eq.symm⟩
    have e2 : decide (s = s') = decide (s' = s) := by congr 1; exact propext ⟨Eq.symm, Eq.symm⟩
    have e3 : decide (n = n') = decide (n' = n) := by congr 1; exact propext ⟨Eq.symm, Eq.symm⟩
    rw [e1, e2, e3]
    congr 3
    by_cases hl : l.length = l'.length
    · rw [pairsB_eq hl, pairsB_eq hl.symm, ← hl]
      refine allB_congr fun i hi => ?_
      rw [pairAt_of same hi (by omega), pairAt_of same (by omega) hi]
      exact ih _ (List.getElem_mem hi) _
    · rw [pairsB_len hl, pairsB_len (fun e => hl e.symm)]
theorem sameB_symm (t u : RT) : sameB t u = sameB u t := by
  unfold sameB
  rw [same_symm]
  cases fitB t <;> cases fitB u <;> rfl

set_option maxHeartbeats 8000000 in
theorem sames_walk (t u : RT) (A B : Option Addr) (cap cap2 : Nat) (w : World) (hn : IsNode w 0 w.heap.size t A cap) (hm : IsNode w 0 w.heap.size u B cap2) (hS : Shapes w) :
    Calls Tryd.prog 4 #[nodeV t A cap, nodeV u B cap2] w fun e w' => e = .returned (.bool true) ∧ Below w.heap.size w w' := by
  have HO := Lib.hid (of_any t 0 w.heap.size A cap)
  have HP := Lib.hid (of_any u 0 w.heap.size B cap2)
  unfold OfIs at HO HP
  obtain ⟨x, hx⟩ : ∃ x, sameB t u = x := ⟨_, rfl⟩
  have hx' : sameB u t = x := by rw [sameB_symm]; exact hx
  have HT := Lib.hid (fun (V : World) (hV : Below w.heap.size w V) => hn.kept hV (Nat.le_refl _))
  have HU := Lib.hid (fun (V : World) (hV : Below w.heap.size w V) => hm.kept hV (Nat.le_refl _))
  have e1 := fun V (hV : Below w.heap.size w V) => tSame_any t u 0 w.heap.size 0 w.heap.size A B cap cap2 V (HT.out V hV) (HU.out V hV) hV.size hV.size
  have e2 := fun V (hV : Below w.heap.size w V) => tSame_any u t 0 w.heap.size 0 w.heap.size B A cap2 cap V (HU.out V hV) (HT.out V hV) hV.size hV.size
  have e5 := fun V (hV : Below w.heap.size w V) => awake_any V (hS.below hV)
  rw [hx] at e1
  rw [hx'] at e2
  have hxo : ofB t = false ∨ ofB u = false → x = false := by
    rintro (h | h)
    · rw [← hx]; unfold sameB; rw [fit_big (of_no h)]; rfl
    · rw [← hx]; unfold sameB; rw [fit_big (of_no h)]; cases fitB t <;> rfl
  have hyes : ofB t = true → ofT t = t := fun h => (of_yes h).1
  have hyes2 : ofB u = true → ofT u = u := fun h => (of_yes h).1
  obtain ⟨t', ht'⟩ : ∃ t', ofT t = t' := ⟨_, rfl⟩
  obtain ⟨u', hu'⟩ : ∃ u', ofT u = u' := ⟨_, rfl⟩
  obtain ⟨b1, hb1⟩ : ∃ b, ofB t = b := ⟨_, rfl⟩
  obtain ⟨b2, hb2⟩ : ∃ b, ofB u = b := ⟨_, rfl⟩
  rw [ht', hb1] at HO
  rw [hu', hb2] at HP
  rw [hb1, hb2] at hxo
  rw [hb1, ht'] at hyes
  rw [hb2, hu'] at hyes2
  have E1 := Lib.hid e1
  have E2 := Lib.hid e2
  have E5 := Lib.hid e5
  have HX := Lib.hid hx
  have HXO := Lib.hid hxo
  have HY := Lib.hid hyes
  have HY2 := Lib.hid hyes2
  clear hx hx' e1 e2 e5 hxo hyes hyes2 ht' hu' hb1 hb2 hS hn hm
  unfold nodeV at HO HP E1 E2 ⊢
  have HW2 := Lib.hid (fun o1 o2 => ((Below.refl w.heap.size w).alloc (Nat.le_refl _) o1).alloc (by simp) o2)
  go_enter Tryd.func4, Tryd.ntmps4
  go_wp2_with fail
  refine (HO.out _ (HT.out _ (HW2.out _ _)) (by simp; omega)).mono ?_
  rintro e w1 ⟨A', cap', rfl, hn1, hd1⟩
  have hz1 := hd1.size
  simp at hz1
  have HB1 := Lib.hid ((HW2.out (.cells #[.int .i64 t.k, .int .i64 t.a, .string t.s, .int .i64 t.n, .slice A t.l.length cap] 24) (.cells #[.int .i64 u.k, .int .i64 u.a, .string u.s, .int .i64 u.n, .slice B u.l.length cap2] 24)).trans (hd1.mono (by simp; omega)))
  have BK1 : Bk w1 w.heap.size 24 #[.int .i64 t.k, .int .i64 t.a, .string t.s, .int .i64 t.n, .slice A t.l.length cap] := ((Bk.new w 24 _).alloc _).below hd1 (by simp; omega)
  have BK2 : Bk w1 (w.heap.size + 1) 24 #[.int .i64 u.k, .int .i64 u.a, .string u.s, .int .i64 u.n, .slice B u.l.length cap2] := by
    have := (Bk.new (w.alloc (.cells #[.int .i64 t.k, .int .i64 t.a, .string t.s, .int .i64 t.n, .slice A t.l.length cap] 24)) 24 #[.int .i64 u.k, .int .i64 u.a, .string u.s, .int .i64 u.n, .slice B u.l.length cap2]).below hd1 (by simp)
    simpa using this
  obtain ⟨k0, k1, k2, k3, k4⟩ := five_kept (.inr ⟨_, BK2⟩) (Below.refl _ _) (by omega)
  have hlt : w.heap.size + 1 < w1.heap.size := by omega
  have HBK1 := Lib.hid BK1
  have HBK2 := Lib.hid BK2
  have HN1 := Lib.hid hn1
  clear hd1 BK1 BK2 hn1
  go_wp2_with fail
  have HB1a := Lib.hid (HB1.out.alloc (by omega) (.cells #[.int .i64 t'.k, .int .i64 t'.a, .string t'.s, .int .i64 t'.n, .slice A' t'.l.length cap'] 27))
  refine (HP.out _ (HU.out _ HB1a.out) (by simp; omega)).mono ?_
  rintro e w2 ⟨B', cap2', rfl, hn2, hd2⟩
  have hz2 := hd2.size
  simp at hz2
  have HB2 := Lib.hid (HB1a.out.trans (hd2.mono (by simp; omega)))
  have HBL1 := Lib.hid ((HBK1.out.alloc (.cells #[.int .i64 t'.k, .int .i64 t'.a, .string t'.s, .int .i64 t'.n, .slice A' t'.l.length cap'] 27)).below hd2 (by simp; omega))
  have HBL2 := Lib.hid ((HBK2.out.alloc (.cells #[.int .i64 t'.k, .int .i64 t'.a, .string t'.s, .int .i64 t'.n, .slice A' t'.l.length cap'] 27)).below hd2 (by simp; omega))
  have HBL3 := Lib.hid ((Bk.new w1 27 #[.int .i64 t'.k, .int .i64 t'.a, .string t'.s, .int .i64 t'.n, .slice A' t'.l.length cap']).below hd2 (by simp))
  have HN2 := Lib.hid ((HN1.out.alloc (Nat.le_refl _) (.cells #[.int .i64 t'.k, .int .i64 t'.a, .string t'.s, .int .i64 t'.n, .slice A' t'.l.length cap'] 27)).kept hd2 (by simp))
  obtain ⟨W, hW⟩ : ∃ W, w2.alloc (.cells #[.int .i64 u'.k, .int .i64 u'.a, .string u'.s, .int .i64 u'.n, .slice B' u'.l.length cap2'] 27) = W := ⟨_, rfl⟩
  have hBW : Below w.heap.size w W := by rw [← hW]; exact HB2.out.alloc (by omega) _
  have hWz : W.heap.size = w2.heap.size + 1 := by rw [← hW]; simp
  have BW1 : Bk W w.heap.size 24 #[.int .i64 t.k, .int .i64 t.a, .string t.s, .int .i64 t.n, .slice A t.l.length cap] := by rw [← hW]; exact HBL1.out.alloc _
  have BW2 : Bk W (w.heap.size + 1) 24 #[.int .i64 u.k, .int .i64 u.a, .string u.s, .int .i64 u.n, .slice B u.l.length cap2] := by rw [← hW]; exact HBL2.out.alloc _
  have BW3 : Bk W w1.heap.size 27 #[.int .i64 t'.k, .int .i64 t'.a, .string t'.s, .int .i64 t'.n, .slice A' t'.l.length cap'] := by rw [← hW]; exact HBL3.out.alloc _
  have BW4 : Bk W w2.heap.size 27 #[.int .i64 u'.k, .int .i64 u'.a, .string u'.s, .int .i64 u'.n, .slice B' u'.l.length cap2'] := by rw [← hW]; exact Bk.new _ _ _
  have hNW1 : IsNode W 0 w1.heap.size t' A' cap' := by rw [← hW]; exact (HN2.out.alloc (by omega) _).wide (by omega) (Nat.le_refl _)
  have hNW2 : IsNode W 0 w2.heap.size u' B' cap2' := by rw [← hW]; exact (hn2.alloc (Nat.le_refl _) _).wide (by omega) (Nat.le_refl _)
  have G1 := Lib.hid (fun V (hV : Below W.heap.size W V) => E1.out V (hBW.trans (hV.mono hBW.size)))
  have G2 := Lib.hid (fun V (hV : Below W.heap.size W V) => E2.out V (hBW.trans (hV.mono hBW.size)))
  have G5 := Lib.hid (fun V (hV : Below W.heap.size W V) => E5.out V (hBW.trans (hV.mono hBW.size)))
  have F1 := Lib.hid (fun V (hV : Below W.heap.size W V) => rSame_any t' u' 0 w1.heap.size 0 w2.heap.size A' B' cap' cap2' V (hNW1.kept hV (by omega)) (hNW2.kept hV (by omega)) (by have := hV.size; omega) (by have := hV.size; omega))
  have KEEP := Lib.hid (fun V (hV : Below W.heap.size W V) => And.intro (five_kept (.inr ⟨_, BW1⟩) hV (by omega)) (And.intro (five_kept (.inr ⟨_, BW2⟩) hV (by omega)) (And.intro (five_kept (.inr ⟨_, BW3⟩) hV (by omega)) (five_kept (.inr ⟨_, BW4⟩) hV (by omega)))))
  have HBW := Lib.hid hBW
  obtain ⟨⟨p0, p1, p2, p3, p4⟩, ⟨q0, q1, q2, q3, q4⟩, ⟨r0, r1, r2, r3, r4⟩, s0, s1, s2, s3, s4⟩ := KEEP.out W (Below.refl _ _)
  have HW := Lib.hid hW
  have HWZ := Lib.hid hWz
  clear hd2 hn2 BW1 BW2 BW3 BW4 hNW1 hNW2 hBW k0 k1 k2 k3 k4 hW hWz
  unfold nodeV at F1
  by_cases hok : b1 = true ∧ b2 = true
  · obtain ⟨hk1, hk2⟩ := hok
    have ht := HY.out hk1
    have hu := HY2.out hk2
    subst hk1 hk2 ht hu
    rw [HX.out] at F1
    have hbk := Lib.hid ((Below.refl W.heap.size W).drew)
    go_wp2_with fail
    rw [HW.out]
    go_region_held3 (fun w' => Below W.heap.size W w' ∧
        (w'.cell? ⟨w.heap.size, 0, none⟩ = some (.int .i64 t'.k) ∧ w'.cell? ⟨w.heap.size, 1, none⟩ = some (.int .i64 t'.a) ∧ w'.cell? ⟨w.heap.size, 2, none⟩ = some (.string t'.s) ∧ w'.cell? ⟨w.heap.size, 3, none⟩ = some (.int .i64 t'.n) ∧ w'.cell? ⟨w.heap.size, 4, none⟩ = some (.slice A t'.l.length cap)) ∧
        (w'.cell? ⟨w.heap.size + 1, 0, none⟩ = some (.int .i64 u'.k) ∧ w'.cell? ⟨w.heap.size + 1, 1, none⟩ = some (.int .i64 u'.a) ∧ w'.cell? ⟨w.heap.size + 1, 2, none⟩ = some (.string u'.s) ∧ w'.cell? ⟨w.heap.size + 1, 3, none⟩ = some (.int .i64 u'.n) ∧ w'.cell? ⟨w.heap.size + 1, 4, none⟩ = some (.slice B u'.l.length cap2)) ∧
        (w'.cell? ⟨w1.heap.size, 0, none⟩ = some (.int .i64 t'.k) ∧ w'.cell? ⟨w1.heap.size, 1, none⟩ = some (.int .i64 t'.a) ∧ w'.cell? ⟨w1.heap.size, 2, none⟩ = some (.string t'.s) ∧ w'.cell? ⟨w1.heap.size, 3, none⟩ = some (.int .i64 t'.n) ∧ w'.cell? ⟨w1.heap.size, 4, none⟩ = some (.slice A' t'.l.length cap')) ∧
        (w'.cell? ⟨w2.heap.size, 0, none⟩ = some (.int .i64 u'.k) ∧ w'.cell? ⟨w2.heap.size, 1, none⟩ = some (.int .i64 u'.a) ∧ w'.cell? ⟨w2.heap.size, 2, none⟩ = some (.string u'.s) ∧ w'.cell? ⟨w2.heap.size, 3, none⟩ = some (.int .i64 u'.n) ∧ w'.cell? ⟨w2.heap.size, 4, none⟩ = some (.slice B' u'.l.length cap2')))
      (first | exact ⟨hbk.out, KEEP.out _ hbk.out⟩)
      (first
        | (go_at_call 19; (with_reducible refine (G1.out _ hbk.out).mono ?_); rintro e w3 ⟨rfl, hb3⟩; have hbk := Lib.hid (hbk.out.trans (hb3.mono hbk.out.size)); clear hb3)
        | (go_at_call 19; (with_reducible refine (G2.out _ hbk.out).mono ?_); rintro e w3 ⟨rfl, hb3⟩; have hbk := Lib.hid (hbk.out.trans (hb3.mono hbk.out.size)); clear hb3)
        | (go_at_call 20; (with_reducible refine (F1.out _ hbk.out).mono ?_); rintro e w3 ⟨rfl, hb3⟩; have hbk := Lib.hid (hbk.out.trans (hb3.mono hbk.out.size)); clear hb3)
        | (go_at_call 14; (with_reducible refine (G5.out _ hbk.out).mono ?_); rintro e w3 ⟨rfl, hb3⟩; have hbk := Lib.hid (hbk.out.trans (hb3.mono hbk.out.size)); clear hb3))
    all_goals
      go_wp2_with fail
      go_ret
      exact ⟨rfl, HBW.out.trans (hbk.out.mono HBW.out.size)⟩
  · have hxf : x = false := HXO.out (by cases b1 <;> cases b2 <;> simp_all)
    subst hxf
    have hk : b1 = false ∨ (b1 = true ∧ b2 = false) := by cases b1 <;> cases b2 <;> simp_all
    clear hok p0 p1 p2 p3 p4 q0 q1 q2 q3 q4 r0 r1 r2 r3 r4 s0 s1 s2 s3 s4
    obtain ⟨p0, p1, p2, p3, p4⟩ := five_kept (.inr ⟨_, HBL1.out⟩) (Below.refl _ _) (by omega)
    obtain ⟨q0, q1, q2, q3, q4⟩ := five_kept (.inr ⟨_, HBL2.out⟩) (Below.refl _ _) (by omega)
    have hl1 : w.heap.size < w2.heap.size := by omega
    have hl2 : w.heap.size + 1 < w2.heap.size := by omega
    rcases hk with rfl | ⟨rfl, rfl⟩
    · go_wp2_with fail
      rw [HW.out]
      refine (G1.out _ (Below.refl _ _)).mono ?_
      rintro e w3 ⟨rfl, hb3⟩
      go_wp2_with fail
      refine (G5.out _ hb3).mono ?_
      rintro e w4 ⟨rfl, hb4⟩
      go_wp2_with fail
      go_ret
      exact ⟨rfl, HBW.out.trans ((hb3.trans (hb4.mono hb3.size)).mono HBW.out.size)⟩
    · go_wp2_with fail
      rw [HW.out]
      refine (G1.out _ (Below.refl _ _)).mono ?_
      rintro e w3 ⟨rfl, hb3⟩
      go_wp2_with fail
      refine (G5.out _ hb3).mono ?_
      rintro e w4 ⟨rfl, hb4⟩
      go_wp2_with fail
      go_ret
      exact ⟨rfl, HBW.out.trans ((hb3.trans (hb4.mono hb3.size)).mono HBW.out.size)⟩

end Go.Proofs.YtmnhpaidaomfbaaDoor
