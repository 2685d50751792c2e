/- sign.formedFamily. -/
import Derived.Test.YtchllgkgjompgaaGreatDoorSgTake
import Derived.Test.YtchllgkgjompgaaGreatDoorS6
namespace Go.Proofs.YtchllgkgjompgaaGreatDoor
open Go.RowKit
set_option linter.unusedVariables false
set_option maxRecDepth 100000

theorem same_sort {u : TM} {m : Int} (hs : shapedB u = true) : tsameB u (.node 2 m []) = (decide (u.k = 2) && decide (u.n = m)) := by
  obtain ⟨k, n, l⟩ := u
  unfold tsameB
  rw [hs, Bool.true_and, alikeT_node]
  show (decide (k = 2) && (decide (n = m) && pairsM alikeT l [])) = (decide (k = 2) && decide (n = m))
  by_cases hk : k = 2
  · subst hk
    have h := (ttop_facts (by
      have hg := (shapedB_true.1 hs).2.2
      rw [tgoodB_node, Bool.and_eq_true] at hg
      exact hg.1)).2.2.1
    have : l = [] := List.length_eq_zero_iff.1 (h.trans rfl)
    subst this
    rw [show pairsM alikeT [] [] = true from rfl, Bool.and_true]
  · rw [decide_eq_false hk]; rfl
theorem take_shaped : ∀ {m : Nat} {t u : TM} {l : List TM}, shapedB t = true → takeT m t = some (l, u) → shapedB u = true := by
  intro m
  induction m with
  | zero =>
    intro t u l hs h
    rw [takeT] at h
    injection h with h
    injection h with _ h
    subst h
    exact hs
  | succ m ih =>
    intro t u l hs h
    by_cases hk : t.k = 3
    · obtain ⟨n, a, b, rfl, ha, hb⟩ := pi_parts (shapedB_true.1 hs).2.2 hk
      rw [takeT_pi] at h
      cases e : takeT m b with
      | none => rw [e] at h; cases h
      | some q =>
        rw [e] at h
        obtain ⟨q1, q2⟩ := q
        injection h with h
        injection h with _ h
        simp only at h
        subst h
        exact ih (pi_shaped hs).2 e
    · rw [takeT_not hk] at h; cases h
theorem split_shaped {t : TM} {n : Int} (h : (splitX t n).2.2 = 0) : shapedB (splitX t n).2.1 = true := by
  unfold splitX at h ⊢
  cases hs : (shapedB t && decide (0 ≤ n)) with
  | false => rw [hs] at h; simp at h
  | true =>
    rw [hs] at h
    rw [if_pos rfl] at h ⊢
    by_cases h24 : 24 < n
    · rw [if_pos h24] at h; simp at h
    · rw [if_neg h24] at h ⊢
      cases e : takeT n.toNat t with
      | none => rw [e] at h; simp at h
      | some q =>
        obtain ⟨q1, q2⟩ := q
        rw [Bool.and_eq_true] at hs
        exact take_shaped hs.1 e
theorem split_err (t : TM) (n : Int) : (splitX t n).2.2 = 0 ∨ (splitX t n).2.2 = 2 ∨ (splitX t n).2.2 = 5 ∨ (splitX t n).2.2 = 6 := by
  unfold splitX
  split
  · split
    · exact .inr (.inl rfl)
    · split
      · exact .inl rfl
      · exact .inr (.inr (.inr rfl))
  · exact .inr (.inr (.inl rfl))

set_option maxHeartbeats 8000000 in
theorem fam_any (l : List ET) (A : Option Addr) (cap i : Nat) (hi : i < l.length) (lo hh : Nat) (w : World) (hl : l.length ≤ 600) (hn : EntsAt w lo hh A l) (hhh : hh ≤ w.heap.size) (hS : ShapesM w) :
    Calls Tryz.prog 187 #[.slice A l.length cap, .int .i64 i] w fun e w' => e = .returned (.bool (famB l i l[i])) ∧ Below w.heap.size w w' := by
  obtain ⟨b, o, p, hA, hb1, hb2, hx, hent⟩ := hn i hi
  have HRC := Lib.hid (fun (ha : 0 ≤ l[i].a ∧ l[i].a ≤ 24) (hb : behB l i ((i + 1 : Nat) : Int) l[i].c 2 = true) (V : World) (hV : Below w.heap.size w V) => rec_any l A cap i hi lo hh V hl (hn.kept hV hhh) (by have := hV.size; omega) (hS.kept hV) ha hb)
  have HBE := Lib.hid (fun (V : World) (hV : Below w.heap.size w V) => behind_any l A p.C cap p.cc i ((i + 1 : Nat) : Int) 2 l[i].c lo hh lo hh V hl (hn.kept hV hhh) (hent.hc.kept hV hhh) (Nat.le_trans hent.lc hent.mc) (by omega))
  have hcl := Nat.le_trans hent.lc hent.mc
  have hdl := Nat.le_trans hent.ld hent.md
  have hra := hent.ra
  obtain ⟨z, hz⟩ : ∃ z, famB l i l[i] = z := ⟨_, rfl⟩
  rw [hz]
  unfold famB at hz
  obtain ⟨bc, hbc⟩ : ∃ r, behB l i ((i : Int) + 1) l[i].c 2 = r := ⟨_, rfl⟩
  obtain ⟨rr, hrr⟩ : ∃ r, recB l i l[i] = r := ⟨_, rfl⟩
  rw [hbc, hrr] at hz
  rw [show (((i + 1 : Nat) : Int)) = (i : Int) + 1 by omega, hbc] at HBE HRC
  rw [hrr] at HRC
  clear hbc hrr
  obtain ⟨x, hxx⟩ : ∃ x, l[i] = x := ⟨_, rfl⟩
  rw [hxx] at hx hent hz HBE HRC hcl hdl hra
  obtain ⟨x0, x1, x2, x3, x4, x5, x6, x7, x8, x9, x10, x11, x12, x13, x14⟩ := hx
  subst hA
  have hbw : b < w.heap.size := by omega
  have hi0' : (i : Int) < (l.length : Int) := by omega
  have hi1 : (i : Int) < 600 := by omega
  have HZ := Lib.hid hz
  have HB1 := Lib.hid (show Below w.heap.size w (w.alloc (.cells (entC x p) 43)) from (Below.refl _ _).alloc (Nat.le_refl _) _)
  have KB := Lib.hid (fun (V : World) (hV : Below (w.alloc (.cells (entC x p) 43)).heap.size (w.alloc (.cells (entC x p) 43)) V) => (show BoxE V w.heap.size x p from ((Bk.new w 43 (entC x p)).below hV (by simp)).boxE))
  have HENT := Lib.hid (fun (V : World) (hV : Below w.heap.size w V) => hent.kept hV hhh)
  have HSS := Lib.hid (fun (V : World) (hV : Below w.heap.size w V) => hS.kept hV)
  have CSP := Lib.hid (fun (n : Int) (V : World) (hV : Below w.heap.size w V) => split_any x.t p.T p.tc n V (((hent.kept hV hhh).ht).wide (Nat.zero_le _) (by have := hV.size; omega)) (HSS.out V hV))
  have HSO := Lib.hid (show sortB x = (decide ((splitX x.t (x.a + x.i)).2.2 = 0) && (decide ((splitX x.t (x.a + x.i)).2.1.k = 2) && decide ((splitX x.t (x.a + x.i)).2.1.n = x.v))) from rfl)
  have HSE := Lib.hid (split_err x.t (x.a + x.i))
  have HSH := Lib.hid (fun h => split_shaped (t := x.t) (n := x.a + x.i) h)
  unfold maxLen at hcl hdl
  have hcl' : (x.c.length : Int) ≤ 9223372036854775807 := by omega
  have hdl' : (x.d.length : Int) ≤ 9223372036854775807 := by omega
  clear hz hxx hent hn hS hl hb1 hb2 hcl hdl
  unfold entC at HB1 KB
  by_cases h1 : 0 ≤ x.a
  case neg =>
    have t0 : decide (x.a < 0) = true := decide_eq_true (by omega)
    obtain rfl : z = false := by rw [← HZ.out, decide_eq_false h1]; rfl
    clear h1
    go_enter Tryz.func187, Tryz.ntmps187
    go_wp2_with fail
    go_ret
    exact ⟨rfl, HB1.out⟩
  have t0 : decide (x.a < 0) = false := decide_eq_false (by omega)
  by_cases h2 : 0 ≤ x.i
  case neg =>
    have t1 : decide (x.i < 0) = true := decide_eq_true (by omega)
    obtain rfl : z = false := by rw [← HZ.out, decide_eq_false h2]; simp
    clear h1 h2
    go_enter Tryz.func187, Tryz.ntmps187
    go_wp2_with fail
    go_ret
    exact ⟨rfl, HB1.out⟩
  have t1 : decide (x.i < 0) = false := decide_eq_false (by omega)
  have wr1 : IntKind.i64.wrap (24 - x.a) = 24 - x.a := IntWalk.i64_in _ (by omega)
  by_cases h3 : x.a + x.i ≤ 24
  case neg =>
    have t2 : decide (24 - x.a < x.i) = true := decide_eq_true (by omega)
    have t2' : decide (x.i > 24 - x.a) = true := decide_eq_true (by omega)
    obtain rfl : z = false := by rw [← HZ.out, decide_eq_false h3]; simp
    clear h1 h2 h3
    go_enter Tryz.func187, Tryz.ntmps187
    go_wp2_with fail
    go_ret
    exact ⟨rfl, HB1.out⟩
  have t2 : decide (24 - x.a < x.i) = false := decide_eq_false (by omega)
  have t2' : decide (x.i > 24 - x.a) = false := decide_eq_false (by omega)
  by_cases h4 : x.c.length ≤ 16
  case neg =>
    have t3 : decide ((16 : Int) < (x.c.length : Int)) = true := decide_eq_true (by omega)
    have t3' : decide ((x.c.length : Int) > 16) = true := decide_eq_true (by omega)
    obtain rfl : z = false := by rw [← HZ.out, decide_eq_false h4]; simp
    clear h1 h2 h3 h4
    go_enter Tryz.func187, Tryz.ntmps187
    go_wp2_with fail
    go_ret
    exact ⟨rfl, HB1.out⟩
  have t3 : decide ((16 : Int) < (x.c.length : Int)) = false := decide_eq_false (by omega)
  have t3' : decide ((x.c.length : Int) > 16) = false := decide_eq_false (by omega)
  have hza : ((sortB x) && (bc && (decide (x.d.length = 0) || rr))) = z := by
    have := HZ.out
    rw [decide_eq_true h1, decide_eq_true h2, decide_eq_true h3, decide_eq_true h4] at this
    simpa using this
  have HZ2 := Lib.hid hza
  have HAA := Lib.hid (show 0 ≤ x.a ∧ x.a ≤ 24 from ⟨h1, by omega⟩)
  have wr2 : IntKind.i64.wrap (x.a + x.i) = x.a + x.i := IntWalk.i64_in _ (by omega)
  have wr3 : IntKind.i64.wrap ((i : Int) + 1) = (i : Int) + 1 := IntWalk.i64_in _ (by omega)
  have CS1 := Lib.hid (CSP.out (x.a + x.i))
  rw [HSO.out] at hza
  have HZ3 := Lib.hid hza
  obtain ⟨R, hR⟩ : ∃ R, splitX x.t (x.a + x.i) = R := ⟨_, rfl⟩
  rw [hR] at CS1 HSE HSH HZ3 HSO
  obtain ⟨R1, u, er⟩ := R
  unfold GivesS termV at CS1
  simp only at HSE HSH HZ3 HSO
  clear h1 h2 h3 h4 hza hR HZ CSP
  go_enter Tryz.func187, Tryz.ntmps187
  go_wp2_with fail
  refine (CS1.out _ HB1.out).mono ?_
  rintro e w1 ⟨A1, c1, B1, d1, rfl, -, hru, hb1⟩
  have HBX0 := Lib.hid (HB1.out.trans (hb1.mono (by simp)))
  have HRU := Lib.hid hru
  have hsz1 : w.heap.size < w1.heap.size := by have := hb1.size; simp at this; omega
  obtain ⟨X, hX⟩ : ∃ X, w1.alloc (.cells #[.int .i64 u.k, .int .i64 u.n, .slice B1 u.l.length d1] 25) = X := ⟨_, rfl⟩
  have HBX := Lib.hid (show Below w.heap.size w X from by rw [← hX]; exact HBX0.out.alloc HBX0.out.size _)
  have HKX := Lib.hid (show Bk X w1.heap.size 25 #[.int .i64 u.k, .int .i64 u.n, .slice B1 u.l.length d1] from by rw [← hX]; exact Bk.new w1 _ _)
  have HRX := Lib.hid (show TermIn X (fun b => w.heap.size ≤ b ∧ b < w1.heap.size) u B1 d1 from by rw [← hX]; exact IsTerm.alloc (lo := w.heap.size) (hi := w1.heap.size) (HRU.out.imp (fun _ _ _ => rfl) (fun b hb => ⟨by have := hb.1; simp at this; omega, hb.2⟩)) (Nat.le_refl _) _)
  have HWX := Lib.hid (show Below w1.heap.size w1 X from by rw [← hX]; exact (Below.refl _ _).alloc (Nat.le_refl _) _)
  have HBOX := Lib.hid (fun (V : World) (hV : Below X.heap.size X V) => KB.out V (hb1.trans ((HWX.out.trans (hV.mono HWX.out.size)).mono hb1.size)))
  have HXS := Lib.hid (show w1.heap.size < X.heap.size from HKX.out.lt)
  obtain ⟨c0, c1', c2, c3, c4, c5, c6, c7, c8, c9, c10, c11, c12, c13, c14⟩ := HBOX.out _ (Below.refl _ _)
  clear hru hb1 CS1 HBX0 HRU x0 x1 x2 x3 x4 x5 x6 x7 x8 x9 x10 x11 x12 x13 x14
  go_wp2_with fail
  clear hX c0 c1' c2 c3 c4 c5 c6 c7 c8 c9 c10 c11 c12 c13 c14
  have hbk := Lib.hid ((Below.refl X.heap.size X).drew)
  have HK := Lib.hid (fun (V : World) (hV : Below X.heap.size X V) => (show V.cell? ⟨w1.heap.size, 0, none⟩ = some (.int .i64 u.k) ∧ V.cell? ⟨w1.heap.size, 1, none⟩ = some (.int .i64 u.n) ∧ V.cell? ⟨w1.heap.size, 2, none⟩ = some (.slice B1 u.l.length d1) ∧ V.cell? ⟨w.heap.size, 12, none⟩ = some (.int .i64 x.v) from
    ⟨(HKX.out.below hV HXS.out).cell 0, (HKX.out.below hV HXS.out).cell 1, (HKX.out.below hV HXS.out).cell 2, (HBOX.out V hV).c12⟩))
  by_cases he : er = 0
  case neg =>
    have te : (er != 0) = true := by simpa using he
    obtain rfl : z = false := by rw [← HZ3.out, decide_eq_false he]; rfl
    clear he
    refine wp_region_held_drew (S := fun w' => w'.cell? ⟨w1.heap.size, 0, none⟩ = some (.int .i64 u.k) ∧ w'.cell? ⟨w1.heap.size, 1, none⟩ = some (.int .i64 u.n) ∧ w'.cell? ⟨w1.heap.size, 2, none⟩ = some (.slice B1 u.l.length d1) ∧ w'.cell? ⟨w.heap.size, 12, none⟩ = some (.int .i64 x.v)) (by kernel_rfl) ?_ (fun hHeld => ?_)
    · exact HK.out _ hbk.out
    refine tkp [0, 1, 2] ?_
    iterate 3 (refine tkq (v := ?_) (by rfl) (by kernel_rfl) (by exact fun _ _ _ h => h) (by rfl) (HK.out _ hbk.out) ?_ ?_; rotate_left; (intro w hSw; (try dsimp only at hSw); go_simp; (try with_reducible rfl)); simp only [Act.put, List.setIfInBounds_toArray, List.set_cons_zero, List.set_cons_succ])
    refine tke ?_
    refine tko (by kernel_rfl) (fun _ _ _ _ h => h) (HK.out _ hbk.out) [(3, 50), (4, 51), (5, 52), (6, 53), (7, 54), (8, 55)] 6 rfl _ _ (by kernel_rfl) ?_
    simp only [offA, offL, Act.put, List.setIfInBounds_toArray, List.set_cons_zero, List.set_cons_succ]
    refine tkp [9] ?_
    iterate 1 (refine tkq (v := ?_) (by rfl) (by kernel_rfl) (by exact fun _ _ _ h => h) (by rfl) (HK.out _ hbk.out) ?_ ?_; rotate_left; (intro w hSw; (try dsimp only at hSw); go_simp; (try with_reducible rfl)); simp only [Act.put, List.setIfInBounds_toArray, List.set_cons_zero, List.set_cons_succ])
    refine tke ?_
    refine wpAnyH_done (by kernel_rfl) ?_ _
    go_wp2_with fail
    go_ret
    exact ⟨rfl, HBX.out.trans (hbk.out.mono HBX.out.size)⟩
  have te : (er != 0) = false := by simpa using he
  subst he
  have CC := Lib.hid (fun (V : World) => (mk_sort x.v V).mono fun e w' h => (show e = .returned (.agg #[.int .i64 2, .int .i64 x.v, .slice none 0 0]) ∧ Below V.heap.size V w' from ⟨h.1, by rw [h.2]; exact (Below.refl _ _).alloc (Nat.le_refl _) _⟩))
  obtain ⟨rb, hrb⟩ : ∃ r, (decide (u.k = 2) && decide (u.n = x.v)) = r := ⟨_, rfl⟩
  have HSM := Lib.hid (same_sort (m := x.v) (HSH.out rfl))
  rw [hrb] at HSM HZ3
  have CS2 : Hid (∀ (V : World), Below X.heap.size X V → Calls Tryz.prog 191 #[.agg #[.int .i64 u.k, .int .i64 u.n, .slice B1 u.l.length d1], .agg #[.int .i64 2, .int .i64 x.v, .slice none 0 0]] V fun e w' => e = .returned (.bool rb) ∧ Below V.heap.size V w') := Lib.hid (fun V hV => by
    have := tmSame_any u (.node 2 x.v []) w.heap.size w1.heap.size 0 V.heap.size B1 none d1 0 V (IsTerm.kept (lo := w.heap.size) (hi := w1.heap.size) HRX.out hV (by have := HXS.out; omega)) (leaf_in _ _ _ _) (by have := hV.size; have := HXS.out; omega) (Nat.le_refl _) (HSS.out V (HBX.out.trans (hV.mono HBX.out.size)))
    rw [HSM.out] at this
    exact this)
  clear hrb HSM HSO HSE HSH
  refine wp_region_held_drew (S := fun w' => w'.cell? ⟨w1.heap.size, 0, none⟩ = some (.int .i64 u.k) ∧ w'.cell? ⟨w1.heap.size, 1, none⟩ = some (.int .i64 u.n) ∧ w'.cell? ⟨w1.heap.size, 2, none⟩ = some (.slice B1 u.l.length d1) ∧ w'.cell? ⟨w.heap.size, 12, none⟩ = some (.int .i64 x.v)) (by kernel_rfl) ?_ (fun hHeld => ?_)
  · exact HK.out _ hbk.out
  refine tkp [0, 1, 2, 3, 4, 5] ?_
  iterate 6 (refine tkq (v := ?_) (by rfl) (by kernel_rfl) (by exact fun _ _ _ h => h) (by rfl) (HK.out _ hbk.out) ?_ ?_; rotate_left; (intro w hSw; (try dsimp only at hSw); go_simp; (try with_reducible rfl)); simp only [Act.put, List.setIfInBounds_toArray, List.set_cons_zero, List.set_cons_succ])
  refine tke ?_
  refine wpAnyH_ready (rs := [6]) (by kernel_rfl) (by simp) ?_
  refine AllReadyH.cons (o := ({ dst := some 53, op := Op.call { callee := Callee.value (Operand.func 176), args := #[Operand.tmp 52], argTypes := #[3] }, type := 25, pos := "sign.go:202", after := #[{ on := 5, ground := Ground.data }, { on := 2, ground := Ground.chain }, { on := 2, ground := Ground.guard }], guard := some (2, false) } : Oper)) rfl (fun K hK => ?_) AllReadyH.nil
  go_simp
  refine (CC.out _).mono ?_; rintro e w3 ⟨rfl, hbn⟩
  have hbk := Lib.hid (hbk.out.trans (hbn.mono hbk.out.size))
  clear hbn
  try (dsimp only)
  try go_wp2_with fail
  refine hK.out _ _ (HK.out _ hbk.out) (fun hHeld => ?_)
  clear hK K
  try simp only [Act.put, List.setIfInBounds_toArray, List.set_cons_zero, List.set_cons_succ]
  refine wpAnyH_ready (rs := [7]) (by kernel_rfl) (by simp) ?_
  refine AllReadyH.cons (o := ({ dst := some 54, op := Op.call { callee := Callee.value (Operand.func 191), args := #[Operand.tmp 50, Operand.tmp 53], argTypes := #[25, 25] }, type := 4, pos := "sign.go:202", after := #[{ on := 3, ground := Ground.data }, { on := 6, ground := Ground.data }, { on := 6, ground := Ground.chain }, { on := 2, ground := Ground.guard }], guard := some (2, false) } : Oper)) rfl (fun K hK => ?_) AllReadyH.nil
  go_simp
  refine (CS2.out _ hbk.out).mono ?_; rintro e w4 ⟨rfl, hbn⟩
  have hbk := Lib.hid (hbk.out.trans (hbn.mono hbk.out.size))
  clear hbn
  try (dsimp only)
  try go_wp2_with fail
  refine hK.out _ _ (HK.out _ hbk.out) (fun hHeld => ?_)
  clear hK K
  try simp only [Act.put, List.setIfInBounds_toArray, List.set_cons_zero, List.set_cons_succ]
  refine tkp [8, 9] ?_
  iterate 2 (refine tkq (v := ?_) (by rfl) (by kernel_rfl) (by exact fun _ _ _ h => h) (by rfl) (HK.out _ hbk.out) ?_ ?_; rotate_left; (intro w hSw; (try dsimp only at hSw); go_simp; (try with_reducible rfl)); simp only [Act.put, List.setIfInBounds_toArray, List.set_cons_zero, List.set_cons_succ])
  refine tke ?_
  refine wpAnyH_done (by kernel_rfl) ?_ _
  have HBY := Lib.hid (HBX.out.trans (hbk.out.mono HBX.out.size))
  obtain ⟨-, -, -, -, -, -, -, -, -, -, -, -, -, c13, c14⟩ := HBOX.out _ hbk.out
  have hsz4 : w.heap.size < w4.heap.size := by have := hbk.out.size; have := HXS.out; omega
  cases rb with
  | false =>
    obtain rfl : z = false := by rw [← HZ3.out]; rfl
    go_wp2_with fail
    go_ret
    exact ⟨rfl, HBY.out⟩
  | true =>
  have HZ4 : Hid ((bc && (decide (x.d.length = 0) || rr)) = z) := HZ3
  go_wp2_with fail
  refine (HBE.out _ HBY.out).mono ?_
  rintro e w5 ⟨rfl, rfl⟩
  cases bc with
  | false =>
    obtain rfl : z = false := by rw [← HZ4.out]; rfl
    go_wp2_with fail
    go_ret
    exact ⟨rfl, HBY.out⟩
  | true =>
  have HR := Lib.hid (HRC.out HAA.out rfl _ HBY.out)
  by_cases h5 : x.d.length = 0
  · have t5 : ((x.d.length : Int) == 0) = true := by simpa using h5
    obtain rfl : z = true := by rw [← HZ4.out, decide_eq_true h5]; rfl
    clear h5
    go_wp2_with fail
    go_ret
    exact ⟨rfl, HBY.out⟩
  · have t5 : ((x.d.length : Int) == 0) = false := by simpa using h5
    obtain rfl : rr = z := by rw [← HZ4.out, decide_eq_false h5]; rfl
    clear h5
    go_wp2_with fail
    refine HR.out.mono ?_
    rintro e w6 ⟨rfl, hb6⟩
    go_wp2_with fail
    go_ret
    exact ⟨rfl, HBY.out.trans (hb6.mono HBY.out.size)⟩

end Go.Proofs.YtchllgkgjompgaaGreatDoor
