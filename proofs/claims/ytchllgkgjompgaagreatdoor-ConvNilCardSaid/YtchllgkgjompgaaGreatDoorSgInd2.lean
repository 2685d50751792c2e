/- sign.indices: the walk. -/
import Derived.Test.YtchllgkgjompgaaGreatDoorSgTake
import Derived.Test.YtchllgkgjompgaaGreatDoorS6
namespace Go.Proofs.YtchllgkgjompgaaGreatDoor
open Go.RowKit
set_option linter.unusedVariables false
set_option maxRecDepth 100000

theorem appB_eq {t : TM} {d : Int} {ps mo bs : Nat} : appB t d ps mo bs = ((decide ((headT t).k = 6) && decide ((headT t).n = d)) && (decide ((argsT t).length = ps + mo) && allB (varB t bs) ps)) := by
  unfold appB; rw [Bool.and_assoc]
set_option maxHeartbeats 8000000 in
theorem indP_any (l : List ET) (A : Option Addr) (cap m : Nat) (hm : m < l.length) (t : TM) (T : Option Addr) (tc bs lo hi lo' hi' : Nat) (w : World) (hl : l.length ≤ 600) (hn : EntsAt w lo hi A l) (hhi : hi ≤ w.heap.size)
    (ht : IsTerm w lo' hi' t T tc) (hhi' : hi' ≤ w.heap.size) (hS : ShapesM w) (hs : shapedB t = true) (ha : 0 ≤ l[m].a) (hi0 : 0 ≤ l[m].i) (hai : l[m].a + l[m].i ≤ 24) (hb : l[m].a ≤ (bs : Int)) (hbs : bs ≤ 1000) :
    Calls Tryz.prog 166 #[.slice A l.length cap, .int .i64 m, termV t T tc, .int .i64 bs] w (IndIsP (fun b => lo' ≤ b ∧ b < hi') (appB t m l[m].a.toNat l[m].i.toNat bs) ((argsT t).drop l[m].a.toNat) w) := by
  obtain ⟨b, o, p, hA, hb1, hb2, hx, -⟩ := hn m hm
  have HXX := Lib.hid (fun (V : World) (hV : Below w.heap.size w V) => (show V.cell? ⟨b, o + m * 15 + 10, none⟩ = some (.int .i64 l[m].a) ∧ V.cell? ⟨b, o + m * 15 + 11, none⟩ = some (.int .i64 l[m].i) from ⟨(hx.kept hV (by omega)).c10, (hx.kept hV (by omega)).c11⟩))
  obtain ⟨ps, hps⟩ : ∃ n : Nat, l[m].a = (n : Int) := ⟨l[m].a.toNat, by omega⟩
  obtain ⟨mo, hmo⟩ : ∃ n : Nat, l[m].i = (n : Int) := ⟨l[m].i.toNat, by omega⟩
  rw [hps, hmo] at hai HXX
  rw [hps] at hb ⊢
  rw [hmo]
  rw [Int.toNat_natCast, Int.toNat_natCast]
  subst hA
  have hbw : b < w.heap.size := by omega
  have hm0 : (m : Int) < (l.length : Int) := by omega
  have hm1 : (m : Int) < 600 := by omega
  have hps1 : (ps : Int) ≤ 24 := by omega
  have hmo1 : (mo : Int) ≤ 24 := by omega
  have hbs1 : (bs : Int) ≤ 1000 := by omega
  have wr1 : IntKind.i64.wrap ((ps : Int) + (mo : Int)) = (ps : Int) + (mo : Int) := IntWalk.i64_in _ (by omega)
  have HPB := Lib.hid (show ps ≤ bs by omega)
  have HW1 := Lib.hid (show Below w.heap.size w (w.alloc (.cells #[.int .i64 t.k, .int .i64 t.n, .slice T t.l.length tc] 25)) from (Below.refl _ _).alloc (Nat.le_refl _) _)
  have CSP := Lib.hid (spineP_any t lo' hi' T tc (w.alloc (.cells #[.int .i64 t.k, .int .i64 t.n, .slice T t.l.length tc] 25)) (ht.kept HW1.out hhi') (by simp; omega) (hS.kept HW1.out) (shapedB_true.1 hs).2.2 (shapedB_true.1 hs).1 (by have := (shapedB_true.1 hs).2.1; omega))
  have HSH := Lib.hid (fun (V : World) (hV : Below w.heap.size w V) => hS.kept hV)
  have HHS := Lib.hid (head_args_shaped hs).1
  have HPV := Lib.hid (fun (h1 : ps ≤ (argsT t).length) => pairs_vars (bs := bs) hs h1 HPB.out)
  have HAS := Lib.hid (Nat.le_trans (args_depth t (shapedB_true.1 hs).2.2) (shapedB_true.1 hs).2.1)
  have CEQ := Lib.hid (fun (V : World) (A1 A2 : Option Addr) (c1 c2 : Nat) (k1 : Nat) (h1 : IsTerms V 0 V.heap.size (argsT t) A1 c1) (h2 : IsTerms V 0 V.heap.size (varsT bs) A2 c2) (hS' : ShapesM V) =>
    eqf_same tsameB ((argsT t).take ps) ((varsT bs).take ps) A1 A2 c1 c2 0 V.heap.size 0 V.heap.size V (by rw [List.length_take]; unfold maxLen; have := (Nat.le_trans (args_depth t (shapedB_true.1 hs).2.2) (shapedB_true.1 hs).2.1); omega) (by rw [List.length_take, varsT_len]; unfold maxLen; omega) (h1.take ps).sub (h2.take ps).sub (Nat.le_refl _) (Nat.le_refl _)
      (fun i q1 q2 lo1 hi1 lo2 hi2 F F' C C' W hW hx hy hh hh' => tmSame_any _ _ lo1 hi1 lo2 hi2 F F' C C' W hx hy hh hh' (hS'.kept hW)))
  obtain ⟨z, hz⟩ : ∃ z, appB t (m : Int) ps mo bs = z := ⟨_, rfl⟩
  rw [hz]
  rw [appB_eq] at hz
  obtain ⟨hd, hhd⟩ : ∃ u, headT t = u := ⟨_, rfl⟩
  obtain ⟨ts, hts⟩ : ∃ l, argsT t = l := ⟨_, rfl⟩
  obtain ⟨V0, hV0⟩ : ∃ V, varB t bs = V := ⟨_, rfl⟩
  unfold GivesSpP at CSP
  rw [hhd] at CSP hz HHS
  rw [hts] at CSP hz HPV HAS CEQ ⊢
  rw [hV0] at hz HPV
  have HSC := Lib.hid (same_const (d := (m : Int)) HHS.out)
  have CSM := Lib.hid (fun (V : World) (A2 : Option Addr) (c2 lo2 hi2 : Nat) (h1 : IsTerm V lo2 hi2 hd A2 c2) (h2 : hi2 ≤ V.heap.size) (hS' : ShapesM V) => tmSame_any hd (.node 6 (m : Int) []) lo2 hi2 0 V.heap.size A2 none c2 0 V h1 (leaf_in _ _ _ _) h2 (Nat.le_refl _) hS')
  rw [HSC.out] at CSM
  have HZ := Lib.hid hz
  clear hx hn ht hS hs ha hi0 hai hb hbs hl hz hps hmo hhd hts hV0 HHS HSC hb1 hb2 hhi hhi'
  unfold termV at CSP CSM ⊢
  go_enter Tryz.func166, Tryz.ntmps166
  go_wp2_with fail
  refine CSP.out.mono ?_
  rintro e w1 ⟨A2, c2, A1, c1, rfl, hhd, har, hb1⟩
  have HB1 := Lib.hid (HW1.out.trans (hb1.mono (by simp)))
  have HHD := Lib.hid hhd
  have HARP := Lib.hid (show TermIn w1 (fun b => ((lo' ≤ b ∧ b < hi') ∨ w.heap.size ≤ b) ∧ b < w1.heap.size) _ _ _ from har.imp (fun _ _ _ => rfl) (fun b hb => ⟨hb.1.imp id (fun h => by simp at h; omega), hb.2⟩))
  have HAR := Lib.hid (show IsTerms w1 0 w1.heap.size ts A1 c1 from har.imp (fun _ _ _ => rfl) (fun b hb => ⟨Nat.zero_le _, hb.2⟩))
  clear hhd har hb1 CSP
  obtain ⟨X, hX⟩ : ∃ X, w1.alloc (.cells #[.int .i64 hd.k, .int .i64 hd.n, .slice A2 hd.l.length c2] 25) = X := ⟨_, rfl⟩
  have HBX := Lib.hid (show Below w.heap.size w X from by rw [← hX]; exact HB1.out.alloc HB1.out.size _)
  have HW1X := Lib.hid (show Below w1.heap.size w1 X from by rw [← hX]; exact (Below.refl _ _).alloc (Nat.le_refl _) _)
  have HKX := Lib.hid (show Bk X w1.heap.size 25 #[.int .i64 hd.k, .int .i64 hd.n, .slice A2 hd.l.length c2] from by rw [← hX]; exact Bk.new w1 _ _)
  have HDX := Lib.hid (show IsTerm X 0 w1.heap.size hd A2 c2 ∧ IsTerms X 0 w1.heap.size ts A1 c1 from by rw [← hX]; exact ⟨HHD.out.alloc (Nat.le_refl _) _, HAR.out.alloc (Nat.le_refl _) _⟩)
  have HXS := Lib.hid (show w1.heap.size < X.heap.size from HKX.out.lt)
  obtain ⟨x10, x11⟩ := HXX.out _ HBX.out
  have hbw1 : b < X.heap.size := by have := HBX.out.size; omega
  go_wp2_with fail
  clear hX x10 x11
  have hbk := Lib.hid ((Below.refl X.heap.size X).drew)
  have HK := Lib.hid (fun (V : World) (hV : Below X.heap.size X V) => (show V.cell? ⟨w1.heap.size, 0, none⟩ = some (.int .i64 hd.k) ∧ V.cell? ⟨w1.heap.size, 1, none⟩ = some (.int .i64 hd.n) ∧ V.cell? ⟨w1.heap.size, 2, none⟩ = some (.slice A2 hd.l.length c2) ∧ V.cell? ⟨b, o + m * 15 + 11, none⟩ = some (.int .i64 mo) from
    ⟨(HKX.out.below hV HXS.out).cell 0, (HKX.out.below hV HXS.out).cell 1, (HKX.out.below hV HXS.out).cell 2, (HXX.out V (HBX.out.trans (hV.mono HBX.out.size))).2⟩))
  have CC := Lib.hid (fun (V : World) => (mk_const (m : Int) V).mono fun e w' h => (show e = .returned (.agg #[.int .i64 6, .int .i64 m, .slice none 0 0]) ∧ Below V.heap.size V w' from ⟨h.1, by rw [h.2]; exact (Below.refl _ _).alloc (Nat.le_refl _) _⟩))
  obtain ⟨rb, hrb⟩ : ∃ r, (decide (hd.k = 6) && decide (hd.n = (m : Int))) = r := ⟨_, rfl⟩
  rw [hrb] at CSM
  have CS2 : Hid (∀ (V : World), Below X.heap.size X V → Calls Tryz.prog 191 #[.agg #[.int .i64 hd.k, .int .i64 hd.n, .slice A2 hd.l.length c2], .agg #[.int .i64 6, .int .i64 m, .slice none 0 0]] V fun e w' => e = .returned (.bool rb) ∧ Below V.heap.size V w') := Lib.hid (fun V hV => CSM.out V A2 c2 0 w1.heap.size (HDX.out.1.kept hV (by have := HXS.out; omega)) (by have := hV.size; have := HXS.out; omega) (HSH.out V (HBX.out.trans (hV.mono HBX.out.size))))
  obtain ⟨y0, y1, y2, y11⟩ := HK.out _ hbk.out
  have HZ2 : Hid ((rb && (decide (ts.length = ps + mo) && allB V0 ps)) = z) := by subst hrb; exact HZ
  clear hrb HZ CSM
  cases rb with
  | false =>
    obtain rfl : z = false := by rw [← HZ2.out]; rfl
    clear y0 y1 y2 y11
    refine wp_region_held_drew (S := fun w' => w'.cell? ⟨w1.heap.size, 0, none⟩ = some (.int .i64 hd.k) ∧ w'.cell? ⟨w1.heap.size, 1, none⟩ = some (.int .i64 hd.n) ∧ w'.cell? ⟨w1.heap.size, 2, none⟩ = some (.slice A2 hd.l.length c2) ∧ w'.cell? ⟨b, o + m * 15 + 11, none⟩ = some (.int .i64 mo)) (by kernel_rfl) ?_ (fun hHeld => ?_)
    · exact HK.out _ hbk.out
    refine tkp [0, 1] ?_
    iterate 2 (refine tkq (v := ?_) (by rfl) (by kernel_rfl) (by exact fun _ _ _ h => h) (by rfl) (HK.out _ hbk.out) ?_ ?_; rotate_left; (intro w hSw; (try dsimp only at hSw); go_simp; (try with_reducible rfl)); simp only [Act.put, List.setIfInBounds_toArray, List.set_cons_zero, List.set_cons_succ])
    refine tke ?_
    refine wpAnyH_ready (rs := [2]) (by kernel_rfl) (by simp) ?_
    refine AllReadyH.cons (o := ({ dst := some 25, op := Op.call { callee := Callee.value (Operand.func 161), args := #[Operand.tmp 24], argTypes := #[3] }, type := 25, pos := "sign.go:260", after := #[{ on := 1, ground := Ground.data }], guard := none } : Oper)) rfl (fun K hK => ?_) AllReadyH.nil
    go_simp
    refine (CC.out _).mono ?_; rintro e w3 ⟨rfl, hbn⟩
    have hbk := Lib.hid (hbk.out.trans (hbn.mono hbk.out.size))
    clear hbn
    try (dsimp only)
    try go_wp2_with fail
    refine hK.out _ _ (HK.out _ hbk.out) (fun hHeld => ?_)
    clear hK K
    try simp only [Act.put, List.setIfInBounds_toArray, List.set_cons_zero, List.set_cons_succ]
    refine wpAnyH_ready (rs := [3]) (by kernel_rfl) (by simp) ?_
    refine AllReadyH.cons (o := ({ dst := some 26, op := Op.call { callee := Callee.value (Operand.func 191), args := #[Operand.tmp 23, Operand.tmp 25], argTypes := #[25, 25] }, type := 4, pos := "sign.go:260", after := #[{ on := 0, ground := Ground.data }, { on := 2, ground := Ground.data }, { on := 2, ground := Ground.chain }], guard := none } : Oper)) rfl (fun K hK => ?_) AllReadyH.nil
    go_simp
    refine (CS2.out _ hbk.out).mono ?_; rintro e w4 ⟨rfl, hbn⟩
    have hbk := Lib.hid (hbk.out.trans (hbn.mono hbk.out.size))
    clear hbn
    try (dsimp only)
    try go_wp2_with fail
    refine hK.out _ _ (HK.out _ hbk.out) (fun hHeld => ?_)
    clear hK K
    try simp only [Act.put, List.setIfInBounds_toArray, List.set_cons_zero, List.set_cons_succ]
    refine tkp [4, 5] ?_
    iterate 2 (refine tkq (v := ?_) (by rfl) (by kernel_rfl) (by exact fun _ _ _ h => h) (by rfl) (HK.out _ hbk.out) ?_ ?_; rotate_left; (intro w hSw; (try dsimp only at hSw); go_simp; (try with_reducible rfl)); simp only [Act.put, List.setIfInBounds_toArray, List.set_cons_zero, List.set_cons_succ])
    refine tke ?_
    refine tko (by kernel_rfl) (fun _ _ _ _ h => h) (HK.out _ hbk.out) [(6, 29), (7, 30), (8, 31), (9, 32), (10, 33), (11, 34), (12, 35), (13, 36), (14, 37), (15, 38)] 10 rfl _ _ (by kernel_rfl) ?_
    simp only [offA, offL, Act.put, List.setIfInBounds_toArray, List.set_cons_zero, List.set_cons_succ]
    refine tkp [16] ?_
    iterate 1 (refine tkq (v := ?_) (by rfl) (by kernel_rfl) (by exact fun _ _ _ h => h) (by rfl) (HK.out _ hbk.out) ?_ ?_; rotate_left; (intro w hSw; (try dsimp only at hSw); go_simp; (try with_reducible rfl)); simp only [Act.put, List.setIfInBounds_toArray, List.set_cons_zero, List.set_cons_succ])
    refine tke ?_
    refine wpAnyH_done (by kernel_rfl) ?_ _
    go_wp2_with fail
    refine bodyPost_ret (v := .tuple #[.slice none 0 0, .bool false]) (by simp [results, Tryz.results166, go_sem]) rfl ?_
    exact ⟨none, 0, 0, rfl, fun h => (by cases h), HBX.out.trans (hbk.out.mono HBX.out.size)⟩
  | true =>
  have hll : (ts.length : Int) ≤ 128 := by have := HAS.out; omega
  have HZ3 : Hid ((decide (ts.length = ps + mo) && allB V0 ps) = z) := HZ2
  clear y0 y1 y2 y11
  by_cases e3 : ts.length = ps + mo
  case neg =>
    have t2 : ((ts.length : Int) != (ps : Int) + (mo : Int)) = true := by simp; omega
    obtain rfl : z = false := by rw [← HZ3.out, decide_eq_false e3]; rfl
    clear e3 HZ3 HZ2
    refine wp_region_held_drew (S := fun w' => w'.cell? ⟨w1.heap.size, 0, none⟩ = some (.int .i64 hd.k) ∧ w'.cell? ⟨w1.heap.size, 1, none⟩ = some (.int .i64 hd.n) ∧ w'.cell? ⟨w1.heap.size, 2, none⟩ = some (.slice A2 hd.l.length c2) ∧ w'.cell? ⟨b, o + m * 15 + 11, none⟩ = some (.int .i64 mo)) (by kernel_rfl) ?_ (fun hHeld => ?_)
    · exact HK.out _ hbk.out
    refine tkp [0, 1] ?_
    iterate 2 (refine tkq (v := ?_) (by rfl) (by kernel_rfl) (by exact fun _ _ _ h => h) (by rfl) (HK.out _ hbk.out) ?_ ?_; rotate_left; (intro w hSw; (try dsimp only at hSw); go_simp; (try with_reducible rfl)); simp only [Act.put, List.setIfInBounds_toArray, List.set_cons_zero, List.set_cons_succ])
    refine tke ?_
    refine wpAnyH_ready (rs := [2]) (by kernel_rfl) (by simp) ?_
    refine AllReadyH.cons (o := ({ dst := some 25, op := Op.call { callee := Callee.value (Operand.func 161), args := #[Operand.tmp 24], argTypes := #[3] }, type := 25, pos := "sign.go:260", after := #[{ on := 1, ground := Ground.data }], guard := none } : Oper)) rfl (fun K hK => ?_) AllReadyH.nil
    go_simp
    refine (CC.out _).mono ?_; rintro e w3 ⟨rfl, hbn⟩
    have hbk := Lib.hid (hbk.out.trans (hbn.mono hbk.out.size))
    clear hbn
    try (dsimp only)
    try go_wp2_with fail
    refine hK.out _ _ (HK.out _ hbk.out) (fun hHeld => ?_)
    clear hK K
    try simp only [Act.put, List.setIfInBounds_toArray, List.set_cons_zero, List.set_cons_succ]
    refine wpAnyH_ready (rs := [3]) (by kernel_rfl) (by simp) ?_
    refine AllReadyH.cons (o := ({ dst := some 26, op := Op.call { callee := Callee.value (Operand.func 191), args := #[Operand.tmp 23, Operand.tmp 25], argTypes := #[25, 25] }, type := 4, pos := "sign.go:260", after := #[{ on := 0, ground := Ground.data }, { on := 2, ground := Ground.data }, { on := 2, ground := Ground.chain }], guard := none } : Oper)) rfl (fun K hK => ?_) AllReadyH.nil
    go_simp
    refine (CS2.out _ hbk.out).mono ?_; rintro e w4 ⟨rfl, hbn⟩
    have hbk := Lib.hid (hbk.out.trans (hbn.mono hbk.out.size))
    clear hbn
    try (dsimp only)
    try go_wp2_with fail
    refine hK.out _ _ (HK.out _ hbk.out) (fun hHeld => ?_)
    clear hK K
    try simp only [Act.put, List.setIfInBounds_toArray, List.set_cons_zero, List.set_cons_succ]
    refine tkp [4, 5, 6, 7, 8, 9, 10, 11, 12, 13, 14, 15, 16] ?_
    iterate 13 (refine tkq (v := ?_) (by rfl) (by kernel_rfl) (by exact fun _ _ _ h => h) (by rfl) (HK.out _ hbk.out) ?_ ?_; rotate_left; (intro w hSw; (try dsimp only at hSw); go_simp; (try with_reducible rfl)); simp only [Act.put, List.setIfInBounds_toArray, List.set_cons_zero, List.set_cons_succ])
    refine tke ?_
    refine wpAnyH_done (by kernel_rfl) ?_ _
    go_wp2_with fail
    refine bodyPost_ret (v := .tuple #[.slice none 0 0, .bool false]) (by simp [results, Tryz.results166, go_sem]) rfl ?_
    exact ⟨none, 0, 0, rfl, fun h => (by cases h), HBX.out.trans (hbk.out.mono HBX.out.size)⟩
  have t2 : ((ts.length : Int) != (ps : Int) + (mo : Int)) = false := by simp; omega
  have HPL := Lib.hid (show ps ≤ ts.length by omega)
  have HZ4 := Lib.hid (show allB V0 ps = z by rw [← HZ3.out, decide_eq_true e3]; rfl)
  have hpl : (ps : Int) ≤ (ts.length : Int) := by omega
  clear e3 HZ3 HZ2
  refine wp_region_held_drew (S := fun w' => w'.cell? ⟨w1.heap.size, 0, none⟩ = some (.int .i64 hd.k) ∧ w'.cell? ⟨w1.heap.size, 1, none⟩ = some (.int .i64 hd.n) ∧ w'.cell? ⟨w1.heap.size, 2, none⟩ = some (.slice A2 hd.l.length c2) ∧ w'.cell? ⟨b, o + m * 15 + 11, none⟩ = some (.int .i64 mo)) (by kernel_rfl) ?_ (fun hHeld => ?_)
  · exact HK.out _ hbk.out
  refine tkp [0, 1] ?_
  iterate 2 (refine tkq (v := ?_) (by rfl) (by kernel_rfl) (by exact fun _ _ _ h => h) (by rfl) (HK.out _ hbk.out) ?_ ?_; rotate_left; (intro w hSw; (try dsimp only at hSw); go_simp; (try with_reducible rfl)); simp only [Act.put, List.setIfInBounds_toArray, List.set_cons_zero, List.set_cons_succ])
  refine tke ?_
  refine wpAnyH_ready (rs := [2]) (by kernel_rfl) (by simp) ?_
  refine AllReadyH.cons (o := ({ dst := some 25, op := Op.call { callee := Callee.value (Operand.func 161), args := #[Operand.tmp 24], argTypes := #[3] }, type := 25, pos := "sign.go:260", after := #[{ on := 1, ground := Ground.data }], guard := none } : Oper)) rfl (fun K hK => ?_) AllReadyH.nil
  go_simp
  refine (CC.out _).mono ?_; rintro e w3 ⟨rfl, hbn⟩
  have hbk := Lib.hid (hbk.out.trans (hbn.mono hbk.out.size))
  clear hbn
  try (dsimp only)
  try go_wp2_with fail
  refine hK.out _ _ (HK.out _ hbk.out) (fun hHeld => ?_)
  clear hK K
  try simp only [Act.put, List.setIfInBounds_toArray, List.set_cons_zero, List.set_cons_succ]
  refine wpAnyH_ready (rs := [3]) (by kernel_rfl) (by simp) ?_
  refine AllReadyH.cons (o := ({ dst := some 26, op := Op.call { callee := Callee.value (Operand.func 191), args := #[Operand.tmp 23, Operand.tmp 25], argTypes := #[25, 25] }, type := 4, pos := "sign.go:260", after := #[{ on := 0, ground := Ground.data }, { on := 2, ground := Ground.data }, { on := 2, ground := Ground.chain }], guard := none } : Oper)) rfl (fun K hK => ?_) AllReadyH.nil
  go_simp
  refine (CS2.out _ hbk.out).mono ?_; rintro e w4 ⟨rfl, hbn⟩
  have hbk := Lib.hid (hbk.out.trans (hbn.mono hbk.out.size))
  clear hbn
  try (dsimp only)
  try go_wp2_with fail
  refine hK.out _ _ (HK.out _ hbk.out) (fun hHeld => ?_)
  clear hK K
  try simp only [Act.put, List.setIfInBounds_toArray, List.set_cons_zero, List.set_cons_succ]
  refine tkp [4, 5, 6, 7, 8, 9, 10, 11, 12, 13, 14, 15, 16] ?_
  iterate 13 (refine tkq (v := ?_) (by rfl) (by kernel_rfl) (by exact fun _ _ _ h => h) (by rfl) (HK.out _ hbk.out) ?_ ?_; rotate_left; (intro w hSw; (try dsimp only at hSw); go_simp; (try with_reducible rfl)); simp only [Act.put, List.setIfInBounds_toArray, List.set_cons_zero, List.set_cons_succ])
  refine tke ?_
  refine wpAnyH_done (by kernel_rfl) ?_ _
  have HBY := Lib.hid (HBX.out.trans (hbk.out.mono HBX.out.size))
  have HAY := Lib.hid (HDX.out.2.kept hbk.out (by have := HXS.out; omega))
  have HARY := Lib.hid (show TermIn _ (fun b => ((lo' ≤ b ∧ b < hi') ∨ w.heap.size ≤ b) ∧ b < w1.heap.size) (.node 0 0 ts) A1 c1 from TermIn.imp (fun b o hb => (HW1X.out.trans (hbk.out.mono HW1X.out.size)).cell (p := ⟨b, o, none⟩) hb.2) (fun _ h => h) HARP.out)
  have HXY := Lib.hid hbk.out.size
  have HBS := Lib.hid (show bs ≤ 1000 by omega)
  have HLT := Lib.hid (show (ts.take ps).length = ps by rw [List.length_take]; have := HPL.out; omega)
  have HLV := Lib.hid (show ((varsT bs).take ps).length = ps by rw [List.length_take, varsT_len]; have := HPB.out; omega)
  have HEQ := Lib.hid ((HPV.out HPL.out).trans HZ4.out)
  have hpb : (ps : Int) ≤ ((varsT bs).length : Int) := by rw [varsT_len]; have := HPB.out; omega
  obtain ⟨vl, hvl⟩ : ∃ n, (varsT bs).length = n := ⟨_, rfl⟩
  rw [hvl] at hpb
  have HVL := Lib.hid hvl
  clear hvl
  have CV : Hid (∀ (V : World), Calls Tryz.prog 175 #[.int .i64 bs] V fun e w' => ∃ A cap, e = .returned (.slice A vl cap) ∧ IsTerms w' 0 w'.heap.size (varsT bs) A cap ∧ Below V.heap.size V w') := Lib.hid (fun V => by
    have := vars_any bs HBS.out V
    unfold GivesR at this
    rw [HVL.out] at this
    exact this)
  obtain ⟨Y, hY⟩ : ∃ Y, Y = w4 := ⟨_, rfl⟩
  rw [← hY] at HBY HAY HARY hbk HXY ⊢
  clear hY
  have hac : (ts.length : Int) ≤ (c1 : Int) := by have := HAY.out.bounds.1; omega
  have hpc : (ps : Int) ≤ (c1 : Int) := by omega
  have CE2 : Hid (∀ (V : World) (A3 : Option Addr) (c3 : Nat), Below Y.heap.size Y V → IsTerms V 0 V.heap.size (varsT bs) A3 c3 → Calls Tryz.prog 192 #[.slice A1 ps c1, .slice A3 ps c3, .func (.func 191) #[] #[]] V fun e w' => e = .returned (.bool z) ∧ Below V.heap.size V w') := Lib.hid (fun V A3 c3 hV h3 => by
    have := CEQ.out V A1 A3 c1 c3 0 ((HAY.out.kept hV (by have := HBY.out.size; have := HXS.out; have := hbk.out.size; omega)).wide (Nat.le_refl _) (by have := hV.size; have := hbk.out.size; have := HXS.out; omega)) h3 (HSH.out V (HBY.out.trans (hV.mono HBY.out.size)))
    rw [HLT.out, HLV.out, HEQ.out] at this
    exact this)
  have hbk := Lib.hid ((Below.refl Y.heap.size Y).drew)
  clear CC CS2 CEQ HK
  go_wp2_with fail
  refine wp_region_held_drew (S := fun w' => Below Y.heap.size Y w') (by kernel_rfl) ?_ (fun hHeld => ?_)
  · exact hbk.out
  refine tkp [0, 1, 2, 3, 5] ?_
  iterate 5 (refine tkq (v := ?_) (by rfl) (by kernel_rfl) (by exact fun _ _ _ h => h) (by rfl) (hbk.out) ?_ ?_; rotate_left; (intro w hSw; (try dsimp only at hSw); go_simp; (try with_reducible rfl)); simp only [Act.put, List.setIfInBounds_toArray, List.set_cons_zero, List.set_cons_succ])
  refine tke ?_
  refine wpAnyH_ready (rs := [4]) (by kernel_rfl) (by simp) ?_
  refine AllReadyH.cons (o := ({ dst := some 44, op := Op.call { callee := Callee.value (Operand.func 175), args := #[Operand.tmp 43], argTypes := #[3] }, type := 23, pos := "sign.go:263", after := #[{ on := 3, ground := Ground.data }], guard := none } : Oper)) rfl (fun K hK => ?_) AllReadyH.nil
  go_simp
  refine (CV.out _).mono ?_; rintro e w5 ⟨A3, c3, rfl, hv5, hbn⟩
  have hvc : (ps : Int) ≤ (c3 : Int) := by have := hv5.bounds.1; have := HVL.out; omega
  have HV5 := Lib.hid hv5
  have hbk := Lib.hid (hbk.out.trans (hbn.mono hbk.out.size))
  clear hbn hv5
  try (dsimp only)
  try go_wp2_with fail
  refine hK.out _ _ (hbk.out) (fun hHeld => ?_)
  clear hK K
  try simp only [Act.put, List.setIfInBounds_toArray, List.set_cons_zero, List.set_cons_succ]
  refine tkp [6] ?_
  iterate 1 (refine tkq (v := ?_) (by rfl) (by kernel_rfl) (by exact fun _ _ _ h => h) (by rfl) (hbk.out) ?_ ?_; rotate_left; (intro w hSw; (try dsimp only at hSw); go_simp; (try with_reducible rfl)); simp only [Act.put, List.setIfInBounds_toArray, List.set_cons_zero, List.set_cons_succ])
  refine tke ?_
  refine wpAnyH_ready (rs := [7]) (by kernel_rfl) (by simp) ?_
  refine AllReadyH.cons (o := ({ dst := some 47, op := Op.call { callee := Callee.value (Operand.func 192), args := #[Operand.tmp 42, Operand.tmp 46, Operand.func 191], argTypes := #[23, 23, 62] }, type := 4, pos := "sign.go:263", after := #[{ on := 2, ground := Ground.data }, { on := 6, ground := Ground.data }, { on := 4, ground := Ground.chain }], guard := none } : Oper)) rfl (fun K hK => ?_) AllReadyH.nil
  go_simp
  refine (CE2.out _ A3 c3 hbk.out HV5.out).mono ?_; rintro e w6 ⟨rfl, hbn⟩
  have hbk := Lib.hid (hbk.out.trans (hbn.mono hbk.out.size))
  clear hbn
  try (dsimp only)
  try go_wp2_with fail
  refine hK.out _ _ (hbk.out) (fun hHeld => ?_)
  clear hK K
  try simp only [Act.put, List.setIfInBounds_toArray, List.set_cons_zero, List.set_cons_succ]
  refine tkp [8] ?_
  iterate 1 (refine tkq (v := ?_) (by rfl) (by kernel_rfl) (by exact fun _ _ _ h => h) (by rfl) (hbk.out) ?_ ?_; rotate_left; (intro w hSw; (try dsimp only at hSw); go_simp; (try with_reducible rfl)); simp only [Act.put, List.setIfInBounds_toArray, List.set_cons_zero, List.set_cons_succ])
  refine tke ?_
  refine wpAnyH_done (by kernel_rfl) ?_ _
  have HBZ := Lib.hid (HBY.out.trans (hbk.out.mono HBY.out.size))
  have HTZ := Lib.hid (show TermIn w6 (fun b => ((lo' ≤ b ∧ b < hi') ∨ w.heap.size ≤ b) ∧ b < w6.heap.size) (.node 0 0 ts) A1 c1 from TermIn.imp (fun b o hb => hbk.out.cell (p := ⟨b, o, none⟩) (by have := HXS.out; have := HXY.out; have := hb.2; show b < _; omega)) (fun b hb => ⟨hb.1, by have := hbk.out.size; have := HXY.out; have := HXS.out; have := hb.2; omega⟩) HARY.out)
  have HLD := Lib.hid (show ts.length - ps = (ts.drop ps).length by rw [List.length_drop])
  have hpl2 : (ps : Int) ≤ (ts.length : Int) := hpl
  cases z with
  | false =>
    go_wp2_with fail
    refine bodyPost_ret (v := .tuple #[.slice none 0 0, .bool false]) (by simp [results, Tryz.results166, go_sem]) rfl ?_
    exact ⟨none, 0, 0, rfl, fun h => (by cases h), HBZ.out⟩
  | true =>
    have HRS := Lib.hid (TermIn.rest (n := ps) HTZ.out HPL.out)
    by_cases hcp : c1 = ps
    · rw [if_pos hcp] at HRS
      go_wp2_with fail
      refine bodyPost_ret (v := .tuple #[.slice A1 (ts.length - ps) (c1 - ps), .bool true]) (by simp [results, Tryz.results166, go_sem]; omega) rfl ?_
      exact ⟨_, _, _, rfl, fun _ => ⟨HLD.out, HRS.out⟩, HBZ.out⟩
    · rw [if_neg hcp] at HRS
      go_wp2_with fail
      refine bodyPost_ret (v := .tuple #[.slice (A1.map (·.add (ps * 3))) (ts.length - ps) (c1 - ps), .bool true]) (by simp [results, Tryz.results166, go_sem]) rfl ?_
      exact ⟨_, _, _, rfl, fun _ => ⟨HLD.out, HRS.out⟩, HBZ.out⟩
theorem ind_any (l : List ET) (A : Option Addr) (cap m : Nat) (hm : m < l.length) (t : TM) (T : Option Addr) (tc bs lo hi lo' hi' : Nat) (w : World) (hl : l.length ≤ 600) (hn : EntsAt w lo hi A l) (hhi : hi ≤ w.heap.size)
    (ht : IsTerm w lo' hi' t T tc) (hhi' : hi' ≤ w.heap.size) (hS : ShapesM w) (hs : shapedB t = true) (ha : 0 ≤ l[m].a) (hi0 : 0 ≤ l[m].i) (hai : l[m].a + l[m].i ≤ 24) (hb : l[m].a ≤ (bs : Int)) (hbs : bs ≤ 1000) :
    Calls Tryz.prog 166 #[.slice A l.length cap, .int .i64 m, termV t T tc, .int .i64 bs] w (IndIs (appB t m l[m].a.toNat l[m].i.toNat bs) ((argsT t).drop l[m].a.toNat) w) :=
  (indP_any l A cap m hm t T tc bs lo hi lo' hi' w hl hn hhi ht hhi' hS hs ha hi0 hai hb hbs).mono fun _ _ h => h.plain

end Go.Proofs.YtchllgkgjompgaaGreatDoor
