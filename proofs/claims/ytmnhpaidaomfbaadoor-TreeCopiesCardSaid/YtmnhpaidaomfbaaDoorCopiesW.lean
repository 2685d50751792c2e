/- The walk of the law TreeCopies. -/
import Derived.Test.YtmnhpaidaomfbaaDoorSamesW
import Derived.Test.YtmnhpaidaomfbaaDoorTurn
namespace Go.Proofs.YtmnhpaidaomfbaaDoor
open Go.RowKit
set_option linter.unusedVariables false
set_option maxRecDepth 100000

theorem same_refl : ∀ t : RT, same t t = true := by
  intro t
  induction t using RT.ind with
  | h k a s n l ih =>
    rw [same_node, pairsB_eq rfl]
    have : allB (pairAt same l l) l.length = true := allB_true.2 fun i hi => by rw [pairAt_of same hi hi]; exact ih _ (List.getElem_mem hi)
    simp [this]
theorem sameB_refl {t : RT} (h : fitB t = true) : sameB t t = true := by unfold sameB; rw [h, same_refl]; rfl
theorem Turn.below {P : Nat → Prop} {w w' : World} {B : Nat} (h : Turn P w w') (hP : ∀ b, P b → B ≤ b) (hB : B ≤ w.heap.size) : Below B w w' :=
  ⟨h.os, h.tape, h.output, h.size, fun k hk => h.block k (by omega) (fun hp => by have := hP k hp; omega)⟩
theorem deep_fit {t : RT} : deepN t ≤ 128 ↔ fitB t = true := by unfold fitB; rw [decide_eq_true_eq]

theorem of_fit2 {t : RT} (h : fitB t = true) : ofB t = true := of_small (by have := (fitB_true.1 h).1; omega)
theorem of_fit {t : RT} (h : fitB t = true) : ofT t = t := (of_yes (of_fit2 h)).1

set_option maxHeartbeats 8000000 in
theorem copies_walk (t : RT) (A : Option Addr) (cap : Nat) (w : World) (hn : IsNode w 0 w.heap.size t A cap) (hS : Shapes w) :
    Calls Tryd.prog 5 #[nodeV t A cap] w fun e w' => e = .returned (.bool true) ∧ Below w.heap.size w w' := by
  have HO := Lib.hid (of_any t 0 w.heap.size A cap)
  unfold OfIs at HO
  have HC := Lib.hid (copy_any t 0 w.heap.size A cap)
  have HT := Lib.hid (fun (V : World) (hV : Below w.heap.size w V) => hn.kept hV (Nat.le_refl _))
  have E5 := Lib.hid (fun V (hV : Below w.heap.size w V) => awake_any V (hS.below hV))
  have hbig : ofB t = false → fitB t = false := fun h => fit_big (of_no h)
  have hyes : ofB t = true → ofT t = t := fun h => (of_yes h).1
  obtain ⟨t', ht'⟩ : ∃ t', ofT t = t' := ⟨_, rfl⟩
  obtain ⟨b1, hb1⟩ : ∃ b, ofB t = b := ⟨_, rfl⟩
  rw [ht', hb1] at HO
  rw [hb1] at hbig hyes
  rw [ht'] at hyes
  have HBIG := Lib.hid hbig
  have HYES := Lib.hid hyes
  clear hbig hyes ht' hb1 hS hn
  have HW1 := Lib.hid (fun o1 => (Below.refl w.heap.size w).alloc (Nat.le_refl _) o1)
  unfold nodeV at HO HC ⊢
  go_enter Tryd.func5, Tryd.ntmps5
  go_wp2_with fail
  refine (HO.out _ (HT.out _ (HW1.out _)) (by simp)).mono ?_
  rintro e w1 ⟨A', cap', rfl, hn1, hd1⟩
  have hz1 := hd1.size
  simp at hz1
  have HB1 := Lib.hid ((HW1.out (.cells #[.int .i64 t.k, .int .i64 t.a, .string t.s, .int .i64 t.n, .slice A t.l.length cap] 24)).trans (hd1.mono (by simp)))
  have BK1 : Bk w1 w.heap.size 24 #[.int .i64 t.k, .int .i64 t.a, .string t.s, .int .i64 t.n, .slice A t.l.length cap] := (Bk.new w 24 _).below hd1 (by simp)
  obtain ⟨k0, k1, k2, k3, k4⟩ := five_kept (.inr ⟨_, BK1⟩) (Below.refl _ _) (by omega)
  have hlt1 : w.heap.size < w1.heap.size := by omega
  have HBK1 := Lib.hid BK1
  have HN1 := Lib.hid hn1
  clear hd1 BK1 hn1
  have HB1a := Lib.hid (HB1.out.alloc (by omega) (.cells #[.int .i64 t'.k, .int .i64 t'.a, .string t'.s, .int .i64 t'.n, .slice A' t'.l.length cap'] 27))
  go_wp2_with fail
  refine (HC.out _ (HT.out _ HB1a.out) (by simp; omega)).mono ?_
  rintro e w2 hcopy
  unfold CopyIs at hcopy
  rcases hcopy with ⟨hfit, hren⟩ | ⟨hfit, rfl, hd2⟩
  · unfold RenewIs at hren
    obtain ⟨A2, c2, P, rfl, hn2, hp2, hcold2, hd2⟩ := hren
    rw [nodeV]
    cases b1 with
    | false => rw [HBIG.out rfl] at hfit; cases hfit
    | true =>
    have htt := HYES.out rfl
    subst htt
    have hz2 := hd2.size
    simp at hz2
    have HB2 := Lib.hid (HB1a.out.trans (hd2.mono (by simp; omega)))
    have BK1 := Lib.hid ((HBK1.out.alloc (.cells #[.int .i64 t'.k, .int .i64 t'.a, .string t'.s, .int .i64 t'.n, .slice A' t'.l.length cap'] 27)).below hd2 (by simp; omega))
    have BK3 := Lib.hid (show Bk w2 w1.heap.size 27 #[.int .i64 t'.k, .int .i64 t'.a, .string t'.s, .int .i64 t'.n, .slice A' t'.l.length cap'] from (Bk.new w1 27 _).below hd2 (by simp))
    obtain ⟨p0, p1, p2, p3, p4⟩ := five_kept (.inr ⟨_, BK3.out⟩) (Below.refl _ _) (by omega)
    have HN2 := Lib.hid (((HN1.out.alloc (Nat.le_refl _) (.cells #[.int .i64 t'.k, .int .i64 t'.a, .string t'.s, .int .i64 t'.n, .slice A' t'.l.length cap'] 27)).kept hd2 (by simp)))
    have hlt2 : w1.heap.size < w2.heap.size := by omega
    have HFIT := Lib.hid hfit
    have HNC := Lib.hid hn2
    have HP2 := Lib.hid hp2
    have HCOLD := Lib.hid hcold2
    clear hd2 k0 k1 k2 k3 k4 hfit hn2 hp2 hcold2
    have HB2a := Lib.hid (HB2.out.alloc (by omega) (.cells #[.int .i64 t'.k, .int .i64 t'.a, .string t'.s, .int .i64 t'.n, .slice A2 t'.l.length c2] 24))
    have hde := fun V h1 h2 => refDepth_any t' (w.alloc (.cells #[.int .i64 t'.k, .int .i64 t'.a, .string t'.s, .int .i64 t'.n, .slice A t'.l.length cap] 24)).heap.size w1.heap.size A' cap' V h1 h2
    obtain ⟨d, hd⟩ : ∃ d, deepN t' = d := ⟨_, rfl⟩
    have hd1 : (d : Int) ≤ 128 := by
      have h1 := deep_fit.2 HFIT.out
      omega
    rw [hd] at hde
    unfold nodeV at hde
    have HDE := Lib.hid hde
    clear hde hd HYES HBIG
    go_wp2_with fail
    refine (HDE.out _ (HN2.out.alloc (by omega) _) (by simp; omega)).mono ?_
    rintro e w3 ⟨rfl, hb3⟩
    have hz3 := hb3.size
    simp at hz3
    have HB3 := Lib.hid (HB2a.out.trans (hb3.mono (by simp; omega)))
    have C1 := Lib.hid ((BK1.out.alloc (.cells #[.int .i64 t'.k, .int .i64 t'.a, .string t'.s, .int .i64 t'.n, .slice A2 t'.l.length c2] 24)).below hb3 (by simp; omega))
    have C3 := Lib.hid ((BK3.out.alloc (.cells #[.int .i64 t'.k, .int .i64 t'.a, .string t'.s, .int .i64 t'.n, .slice A2 t'.l.length c2] 24)).below hb3 (by simp; omega))
    have C5 := Lib.hid (show Bk w3 w2.heap.size 24 #[.int .i64 t'.k, .int .i64 t'.a, .string t'.s, .int .i64 t'.n, .slice A2 t'.l.length c2] from (Bk.new w2 24 _).below hb3 (by simp))
    have hkeep3 : ∀ b, b < w2.heap.size → w3.heap[b]? = w2.heap[b]? := fun b hb => (hb3.block b (by simp; omega)).trans (Below.heap_alloc _ _ _ hb)
    have HNC3 := Lib.hid (HNC.out.imp (w' := w3) (P' := P) (fun b o hb => World.cell?_of_block (a := ⟨b, o, none⟩) (hkeep3 b (HP2.out b hb).2)) (fun _ h => h))
    have HCOLD3 := Lib.hid (HCOLD.out.kept (w' := w3) (fun b hb => hkeep3 b (HP2.out b hb).2))
    have HN3 := Lib.hid ((HN2.out.alloc (by omega) (.cells #[.int .i64 t'.k, .int .i64 t'.a, .string t'.s, .int .i64 t'.n, .slice A2 t'.l.length c2] 24)).kept hb3 (by simp; omega))
    have HCP := Lib.hid (copy_any t' 0 w2.heap.size A2 c2 w3 (HNC3.out.imp (fun _ _ _ => rfl) (fun b hb => ⟨Nat.zero_le _, (HP2.out b hb).2⟩)) (by omega))
    obtain ⟨q0, q1, q2, q3, q4⟩ := five_kept (.inr ⟨_, C5.out⟩) (Below.refl _ _) (by omega)
    unfold nodeV at HCP
    clear hb3 hkeep3
    go_wp2_with fail
    refine HCP.out.mono ?_
    rintro e w4 hcopy
    unfold CopyIs at hcopy
    rcases hcopy with ⟨-, hren⟩ | ⟨hf, -, -⟩
    case inr => rw [HFIT.out] at hf; cases hf
    unfold RenewIs at hren
    obtain ⟨A4, c4, P4, rfl, hn4, hp4, -, hd4⟩ := hren
    rw [nodeV]
    have hz4 := hd4.size
    have HB4 := Lib.hid (HB3.out.trans (hd4.mono (by omega)))
    have D1 := Lib.hid (C1.out.below hd4 (by omega))
    have D3 := Lib.hid (C3.out.below hd4 (by omega))
    have D5 := Lib.hid (C5.out.below hd4 (by omega))
    obtain ⟨W4, hW4⟩ : ∃ W4, w4.alloc (.cells #[.int .i64 t'.k, .int .i64 t'.a, .string t'.s, .int .i64 t'.n, .slice A4 t'.l.length c4] 24) = W4 := ⟨_, rfl⟩
    have hW4z : W4.heap.size = w4.heap.size + 1 := by rw [← hW4]; simp
    have hkeep4 : ∀ b, b < w4.heap.size → W4.heap[b]? = w4.heap[b]? := fun b hb => by rw [← hW4]; exact Below.heap_alloc _ _ _ hb
    have hkeep5 : ∀ b, b < w3.heap.size → W4.heap[b]? = w3.heap[b]? := fun b hb => (hkeep4 b (by omega)).trans (hd4.block b hb)
    have HB4a := Lib.hid (show Below w.heap.size w W4 by rw [← hW4]; exact HB4.out.alloc (by omega) _)
    have X1 := Lib.hid (show Bk W4 w.heap.size 24 _ from (hkeep4 _ (by omega)).trans D1.out)
    have X3 := Lib.hid (show Bk W4 w1.heap.size 27 _ from (hkeep4 _ (by omega)).trans D3.out)
    have X6 := Lib.hid (show Bk W4 w4.heap.size 24 #[.int .i64 t'.k, .int .i64 t'.a, .string t'.s, .int .i64 t'.n, .slice A4 t'.l.length c4] by rw [← hW4]; exact Bk.new _ _ _)
    have HNC4 := Lib.hid (HNC3.out.imp (w' := W4) (P' := P) (fun b o hb => World.cell?_of_block (a := ⟨b, o, none⟩) (hkeep5 b (by have := (HP2.out b hb).2; omega))) (fun _ h => h)).shape
    have HCOLD4 := Lib.hid (HCOLD3.out.kept (w' := W4) (fun b hb => hkeep5 b (by have := (HP2.out b hb).2; omega)))
    have HN4 := Lib.hid (IsNode.imp (w' := W4) (fun b o _ hb => World.cell?_of_block (a := ⟨b, o, none⟩) (hkeep5 b (by omega))) (Nat.le_refl _) (Nat.le_refl _) HN3.out)
    have HND := Lib.hid (hn4.imp (w' := W4) (P' := P4) (fun b o hb => World.cell?_of_block (a := ⟨b, o, none⟩) (hkeep4 b (hp4 b hb).2)) (fun _ h => h))
    have HP4 := Lib.hid hp4
    have HTU := Lib.hid (turned_any t' t'.k t'.a t'.n A2 c2 W4 P HNC4.out (fun b hb => by have := (HP2.out b hb).2; omega) HCOLD4.out)
    obtain ⟨r0, r1, r2, r3, r4⟩ := five_kept (.inr ⟨_, D5.out⟩) (Below.refl _ _) (by omega)
    have hlt4 : w2.heap.size < w4.heap.size := by omega
    have HW4 := Lib.hid hW4
    have HW4Z := Lib.hid hW4z
    clear hd4 hn4 hp4 q0 q1 q2 q3 q4 p0 p1 p2 p3 p4 hkeep4 hkeep5 hW4 hW4z
    go_wp2_with fail
    rw [HW4.out]
    refine HTU.out.mono ?_
    rintro e w5 ⟨rfl, hT⟩
    have hz5 := hT.size
    have hz5' : w4.heap.size + 1 ≤ w5.heap.size := by have := HW4Z.out; omega
    have HB5 := Lib.hid (HB4a.out.trans (hT.below (fun b hb => by have := (HP2.out b hb).1; simp at this; omega) (by have := HW4Z.out; omega)))
    have hkeep : ∀ b, b < W4.heap.size → (b ≤ w1.heap.size ∨ w2.heap.size ≤ b) → w5.heap[b]? = W4.heap[b]? := fun b hb hr => hT.block b hb (fun hp => by have := HP2.out b hp; simp at this; omega)
    have Y1 := Lib.hid (show Bk w5 w.heap.size 24 _ from (hkeep _ (by have := HW4Z.out; omega) (.inl (by omega))).trans X1.out)
    have Y3 := Lib.hid (show Bk w5 w1.heap.size 27 _ from (hkeep _ (by have := HW4Z.out; omega) (.inl (by omega))).trans X3.out)
    have Y6 := Lib.hid (show Bk w5 w4.heap.size 24 _ from (hkeep _ (by have := HW4Z.out; omega) (.inr (by omega))).trans X6.out)
    have HN5 := Lib.hid (IsNode.imp (w' := w5) (fun b o _ hb => World.cell?_of_block (a := ⟨b, o, none⟩) (hkeep b (by have := HW4Z.out; omega) (.inl (by omega)))) (Nat.le_refl _) (Nat.le_refl _) HN4.out)
    have HND5 := Lib.hid (show IsNode w5 0 w4.heap.size t' A4 c4 from HND.out.imp (fun b o hb => World.cell?_of_block (a := ⟨b, o, none⟩) (hkeep b (by have := (HP4.out b hb).2; have := HW4Z.out; omega) (.inr (by have := (HP4.out b hb).1; omega)))) (fun b hb => ⟨Nat.zero_le _, (HP4.out b hb).2⟩))
    have hof := of_any t' 0 w4.heap.size A4 c4 w5 HND5.out (by omega)
    unfold OfIs at hof
    rw [of_fit HFIT.out, of_fit2 HFIT.out] at hof
    unfold nodeV at hof
    have HOF := Lib.hid hof
    obtain ⟨y0, y1, y2, y3, y4⟩ := five_kept (.inr ⟨_, Y6.out⟩) (Below.refl _ _) (by omega)
    clear hT hkeep hof r0 r1 r2 r3 r4
    go_wp2_with fail
    refine HOF.out.mono ?_
    rintro e w6 ⟨A6, c6, rfl, hn6, hd6⟩
    have hz6 := hd6.size
    have HB6 := Lib.hid (HB5.out.trans (hd6.mono (by omega)))
    have Z1 := Lib.hid (Y1.out.below hd6 (by omega))
    have Z3 := Lib.hid (Y3.out.below hd6 (by omega))
    have Z6 := Lib.hid (Y6.out.below hd6 (by omega))
    have HN6 := Lib.hid (HN5.out.kept hd6 (by omega))
    have HX6 := Lib.hid hn6
    obtain ⟨m0, m1, m2, m3, m4⟩ := five_kept (.inr ⟨_, Z3.out⟩) (Below.refl _ _) (by omega)
    have hlt6 : w1.heap.size < w6.heap.size := by omega
    have HB6a := Lib.hid (HB6.out.alloc (by omega) (.cells #[.int .i64 t'.k, .int .i64 t'.a, .string t'.s, .int .i64 t'.n, .slice A6 t'.l.length c6] 27))
    have hsm := fun V h1 h2 h3 h4 => rSame_any t' t' w5.heap.size w6.heap.size (w.alloc (.cells #[.int .i64 t'.k, .int .i64 t'.a, .string t'.s, .int .i64 t'.n, .slice A t'.l.length cap] 24)).heap.size w1.heap.size A6 A' c6 cap' V h1 h2 h3 h4
    rw [sameB_refl HFIT.out] at hsm
    unfold nodeV at hsm
    have HSM := Lib.hid hsm
    clear hd6 hn6 hsm y0 y1 y2 y3 y4
    go_wp2_with fail
    refine (HSM.out _ (HX6.out.alloc (Nat.le_refl _) _) (HN6.out.alloc (by omega) _) (by simp) (by simp; omega)).mono ?_
    rintro e w7 ⟨rfl, hb7⟩
    have hz7 := hb7.size
    simp at hz7
    have HB7 := Lib.hid (HB6a.out.trans (hb7.mono (by simp; omega)))
    obtain ⟨-, n1, -, -, -⟩ := five_kept (.inr ⟨_, (Z1.out.alloc (.cells #[.int .i64 t'.k, .int .i64 t'.a, .string t'.s, .int .i64 t'.n, .slice A6 t'.l.length c6] 27)).below hb7 (by simp; omega)⟩) (Below.refl _ _) (by omega)
    obtain ⟨-, n2, -, -, -⟩ := five_kept (.inr ⟨_, (Z6.out.alloc (.cells #[.int .i64 t'.k, .int .i64 t'.a, .string t'.s, .int .i64 t'.n, .slice A6 t'.l.length c6] 27)).below hb7 (by simp; omega)⟩) (Below.refl _ _) (by omega)
    clear hb7 m0 m1 m2 m3 m4
    go_wp2_with fail
    refine (E5.out _ HB7.out).mono ?_
    rintro e w8 ⟨rfl, hb8⟩
    go_wp2_with fail
    go_ret
    exact ⟨by simp, HB7.out.trans (hb8.mono (by omega))⟩
  · have hz2 := hd2.size
    simp at hz2
    have HB2 := Lib.hid (HB1a.out.trans (hd2.mono (by simp; omega)))
    have BK3 : Bk w2 w1.heap.size 27 #[.int .i64 t'.k, .int .i64 t'.a, .string t'.s, .int .i64 t'.n, .slice A' t'.l.length cap'] := (Bk.new w1 27 _).below hd2 (by simp)
    obtain ⟨p0, p1, p2, p3, p4⟩ := five_kept (.inr ⟨_, BK3⟩) (Below.refl _ _) (by omega)
    have HN2 := Lib.hid ((HN1.out.alloc (Nat.le_refl _) (.cells #[.int .i64 t'.k, .int .i64 t'.a, .string t'.s, .int .i64 t'.n, .slice A' t'.l.length cap'] 27)).kept hd2 (by simp))
    have hlt2 : w1.heap.size < w2.heap.size := by omega
    have HFIT := Lib.hid hfit
    clear hd2 BK3 k0 k1 k2 k3 k4 hfit
    have HB2a := Lib.hid (HB2.out.alloc (by omega) (.cells #[.int .i64 0, .int .i64 0, .string ⟨#[]⟩, .int .i64 0, .slice none 0 0] 24))
    cases b1 with
    | false =>
      go_wp2_with fail
      refine (E5.out _ HB2a.out).mono ?_
      rintro e w3 ⟨rfl, hb3⟩
      go_wp2_with fail
      go_ret
      exact ⟨rfl, HB2a.out.trans (hb3.mono (by simp; omega))⟩
    | true =>
      have htt := HYES.out rfl
      subst htt
      have hde := fun V h1 h2 => refDepth_any t' (w.alloc (.cells #[.int .i64 t'.k, .int .i64 t'.a, .string t'.s, .int .i64 t'.n, .slice A t'.l.length cap] 24)).heap.size w1.heap.size A' cap' V h1 h2
      obtain ⟨d, hd⟩ : ∃ d, deepN t' = d := ⟨_, rfl⟩
      have hd1 : (128 : Int) < (d : Int) := by
        have h1 : ¬ deepN t' ≤ 128 := fun h => by rw [deep_fit, HFIT.out] at h; cases h
        omega
      rw [hd] at hde
      unfold nodeV at hde
      have HDE := Lib.hid hde
      clear hde hd HYES
      go_wp2_with fail
      refine (HDE.out _ (HN2.out.alloc (by omega) _) (by simp; omega)).mono ?_
      rintro e w3 ⟨rfl, hb3⟩
      have hz3 := hb3.size
      simp at hz3
      have HB3 := Lib.hid (HB2a.out.trans (hb3.mono (by simp; omega)))
      obtain ⟨q0, q1, q2, q3, q4⟩ := five_kept (.inr ⟨_, Bk.new w2 24 #[.int .i64 0, .int .i64 0, .string ⟨#[]⟩, .int .i64 0, .slice none 0 0]⟩) hb3 (by simp)
      clear hb3
      go_wp2_with fail
      refine (E5.out _ HB3.out).mono ?_
      rintro e w4 ⟨rfl, hb4⟩
      go_wp2_with fail
      go_ret
      exact ⟨rfl, HB3.out.trans (hb4.mono (by omega))⟩

end Go.Proofs.YtmnhpaidaomfbaaDoor
