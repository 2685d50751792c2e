/- sign.formedField. -/
import Derived.Test.YtchllgkgjompgaaGreatDoorSgTake
import Derived.Test.YtchllgkgjompgaaGreatDoorSgCon
namespace Go.Proofs.YtchllgkgjompgaaGreatDoor
open Go.RowKit
set_option linter.unusedVariables false
set_option maxRecDepth 100000

set_option maxHeartbeats 8000000 in
theorem fld_any (l : List ET) (A : Option Addr) (cap i : Nat) (hi : i < l.length) (lo hh : Nat) (w : World) (hl : l.length ≤ 600) (hlc : l.length ≤ cap) (hn : EntsAt w lo hh A l) (hhh : hh ≤ w.heap.size) (hS : ShapesM w)
    (hfo : FamOk l i) (hsh : shapedB l[i].t = true) :
    Calls Tryz.prog 189 #[.slice A l.length cap, .int .i64 i] w fun e w' => e = .returned (.bool (fldB l i l[i])) ∧ Below w.heap.size w w' := by
  obtain ⟨b, o, p, hA, hb1, hb2, hx, hent⟩ := hn i hi
  have HN := Lib.hid hn
  have HFO := Lib.hid hfo
  have HIS0 := Lib.hid (fun (n : Int) (V : World) (hV : Below w.heap.size w V) => isOf_any (l.take i) A cap lo hh n 1 V (by rw [List.length_take]; unfold maxLen; omega) ((hn.kept hV hhh).take i))
  have HLT := Lib.hid (show (l.take i).length = i by rw [List.length_take]; omega)
  have HND := Lib.hid (fun (j : Nat) (hj : j < l.length) (t : TM) (T : Option Addr) (tc bs lo' hi' : Nat) (V : World) (hV : Below w.heap.size w V) h1 h2 h3 h4 h5 h6 h7 h8 => ind_any l A cap j hj t T tc bs lo hh lo' hi' V hl (hn.kept hV hhh) (by have := hV.size; omega) h1 h2 (hS.kept hV) h3 h4 h5 h6 h7 h8)
  have HLL := Lib.hid hl
  obtain ⟨z, hz⟩ : ∃ z, fldB l i l[i] = z := ⟨_, rfl⟩
  rw [hz]
  unfold fldB at hz
  obtain ⟨x, hxx⟩ : ∃ x, l[i] = x := ⟨_, rfl⟩
  rw [hxx] at hx hent hz hsh
  obtain ⟨x0, x1, x2, x3, x4, x5, x6, x7, x8, x9, x10, x11, x12, x13, x14⟩ := hx
  subst hA
  have hbw : b < w.heap.size := by omega
  have hi0' : (i : Int) < (l.length : Int) := by omega
  have hi1 : (i : Int) < 600 := by omega
  have HZ := Lib.hid hz
  have HB1 := Lib.hid (show Below w.heap.size w (w.alloc (.cells (entC x p) 43)) from (Below.refl _ _).alloc (Nat.le_refl _) _)
  have KB := Lib.hid (fun (V : World) (hV : Below (w.alloc (.cells (entC x p) 43)).heap.size (w.alloc (.cells (entC x p) 43)) V) => (show BoxE V w.heap.size x p from ((Bk.new w 43 (entC x p)).below hV (by simp)).boxE))
  have HENT := Lib.hid (fun (V : World) (hV : Below w.heap.size w V) => hent.kept hV hhh)
  have HSS := Lib.hid (fun (V : World) (hV : Below w.heap.size w V) => hS.kept hV)
  have HSH := Lib.hid hsh
  have hra := hent.ra
  have hlc' : (l.length : Int) ≤ (cap : Int) := by omega
  have hic : (i : Int) ≤ (cap : Int) := by omega
  have HIS : Hid (∀ (V : World), Below w.heap.size w V → Calls Tryz.prog 136 #[.slice (some ⟨b, o, none⟩) i cap, .int .i64 x.f, .int .i64 1] V fun e w' => e = .returned (.bool (isB (l.take i) x.f 1)) ∧ V = w') := Lib.hid (fun V hV => by
    have := HIS0.out x.f V hV
    rw [HLT.out] at this
    exact this)
  clear hz hxx hent hn hS hl hb1 hb2 hfo hsh hlc HIS0
  obtain ⟨X, hX⟩ : ∃ X, w.alloc (.cells (entC x p) 43) = X := ⟨_, rfl⟩
  rw [hX] at HB1 KB
  have HBX := Lib.hid HB1.out
  have HXS := Lib.hid (show w.heap.size < X.heap.size from by rw [← hX]; simp)
  have hbk := Lib.hid ((Below.refl X.heap.size X).drew)
  have HKA := Lib.hid (fun (V : World) (hV : Below X.heap.size X V) => (KB.out V hV).c8)
  unfold entC at hX
  obtain ⟨rb, hrb⟩ : ∃ r, isB (l.take i) x.f 1 = r := ⟨_, rfl⟩
  rw [hrb] at HIS
  have CIS := Lib.hid (fun (V : World) (hV : Below X.heap.size X V) => HIS.out V (HBX.out.trans (hV.mono HBX.out.size)))
  cases rb with
  | false =>
    obtain rfl : z = false := by rw [← HZ.out, hrb]; rfl
    clear hrb
    go_enter Tryz.func189, Tryz.ntmps189
    go_wp2_with fail
    clear hX
    refine wp_region_held_drew (S := fun w' => w'.cell? ⟨w.heap.size, 8, none⟩ = some (.int .i64 x.f)) (by kernel_rfl) ?_ (fun hHeld => ?_)
    · exact HKA.out _ hbk.out
    refine tkp [0, 1, 2, 3, 4] ?_
    iterate 5 (refine tkq (v := ?_) (by rfl) (by kernel_rfl) (by exact fun _ _ _ h => h) (by rfl) (HKA.out _ hbk.out) ?_ ?_; rotate_left; (intro w hSw; (try dsimp only at hSw); go_simp; (try with_reducible rfl)); simp only [Act.put, List.setIfInBounds_toArray, List.set_cons_zero, List.set_cons_succ])
    refine tke ?_
    refine wpAnyH_ready (rs := [5]) (by kernel_rfl) (by simp) ?_
    refine AllReadyH.cons (o := ({ dst := some 20, op := Op.call { callee := Callee.value (Operand.func 136), args := #[Operand.tmp 17, Operand.tmp 19, Operand.const (Value.int IntKind.i64 1)], argTypes := #[22, 3, 3] }, type := 4, pos := "sign.go:245", after := #[{ on := 2, ground := Ground.data }, { on := 4, ground := Ground.data }], guard := none } : Oper)) rfl (fun K hK => ?_) AllReadyH.nil
    go_simp
    refine (CIS.out _ hbk.out).mono ?_; rintro e w3 ⟨rfl, rfl⟩
    try (dsimp only)
    try go_wp2_with fail
    refine hK.out _ _ (HKA.out _ hbk.out) (fun hHeld => ?_)
    clear hK K
    try simp only [Act.put, List.setIfInBounds_toArray, List.set_cons_zero, List.set_cons_succ]
    refine tkp [6, 7] ?_
    iterate 2 (refine tkq (v := ?_) (by rfl) (by kernel_rfl) (by exact fun _ _ _ h => h) (by rfl) (HKA.out _ hbk.out) ?_ ?_; rotate_left; (intro w hSw; (try dsimp only at hSw); go_simp; (try with_reducible rfl)); simp only [Act.put, List.setIfInBounds_toArray, List.set_cons_zero, List.set_cons_succ])
    refine tke ?_
    refine tko (by kernel_rfl) (fun _ _ _ _ h => h) (HKA.out _ hbk.out) [(8, 23), (9, 24), (10, 25), (11, 26), (12, 27), (13, 28), (14, 29), (15, 30), (16, 31)] 9 rfl _ _ (by kernel_rfl) ?_
    simp only [offA, offL, Act.put, List.setIfInBounds_toArray, List.set_cons_zero, List.set_cons_succ]
    refine tkp [17, 18] ?_
    iterate 2 (refine tkq (v := ?_) (by rfl) (by kernel_rfl) (by exact fun _ _ _ h => h) (by rfl) (HKA.out _ hbk.out) ?_ ?_; rotate_left; (intro w hSw; (try dsimp only at hSw); go_simp; (try with_reducible rfl)); simp only [Act.put, List.setIfInBounds_toArray, List.set_cons_zero, List.set_cons_succ])
    refine tke ?_
    refine tko (by kernel_rfl) (fun _ _ _ _ h => h) (HKA.out _ hbk.out) [(19, 34), (20, 35), (21, 36), (22, 37), (23, 38), (24, 39), (25, 40), (26, 41), (27, 42)] 9 rfl _ _ (by kernel_rfl) ?_
    simp only [offA, offL, Act.put, List.setIfInBounds_toArray, List.set_cons_zero, List.set_cons_succ]
    refine tkp [28] ?_
    iterate 1 (refine tkq (v := ?_) (by rfl) (by kernel_rfl) (by exact fun _ _ _ h => h) (by rfl) (HKA.out _ hbk.out) ?_ ?_; rotate_left; (intro w hSw; (try dsimp only at hSw); go_simp; (try with_reducible rfl)); simp only [Act.put, List.setIfInBounds_toArray, List.set_cons_zero, List.set_cons_succ])
    refine tke ?_
    refine wpAnyH_done (by kernel_rfl) ?_ _
    go_wp2_with fail
    go_ret
    exact ⟨rfl, HBX.out.trans (hbk.out.mono HBX.out.size)⟩
  | true =>
  obtain ⟨j, hf, hji, hj, hjk⟩ := isB_take hrb
  have hfo := HFO.out j hj hji hjk
  obtain ⟨b', o', q, hA', -, hbh, hy, henty⟩ := HN.out j hj
  obtain ⟨rfl, rfl⟩ : b = b' ∧ o = o' := by
    injection hA' with r
    injection r with r1 r2
    exact ⟨r1, r2⟩
  have hz2 := HZ.out
  rw [hrb, famAt_nat hf hj, Bool.true_and] at hz2
  have CCO0 := Lib.hid (fun (V : World) (hV : Below w.heap.size w V) => contains_any l[j].d (i : Int) q.D q.dc lo hh V (Nat.le_trans henty.ld henty.md) ((henty.hd).kept hV hhh))
  have CIN := Lib.hid (fun (t : TM) (T : Option Addr) (tc bs lo' hi' : Nat) (V : World) (hV : Below w.heap.size w V) h1 h2 h4 h7 h8 => HND.out j hj t T tc bs lo' hi' V hV h1 h2 h4 hfo.1 hfo.2.1 hfo.2.2 h7 h8)
  obtain ⟨y, hyy⟩ : ∃ y, l[j] = y := ⟨_, rfl⟩
  rw [hyy] at hy hz2 CCO0 CIN hfo
  have HKB := Lib.hid (fun (V : World) (hV : Below X.heap.size X V) => (show V.cell? ⟨w.heap.size, 8, none⟩ = some (.int .i64 j) ∧ V.cell? ⟨w.heap.size, 10, none⟩ = some (.int .i64 x.a) ∧ V.cell? ⟨b, o + j * 15 + 14, none⟩ = some (.slice q.D y.d.length q.dc) ∧ V.cell? ⟨b, o + j * 15 + 10, none⟩ = some (.int .i64 y.a) from
    ⟨by rw [(KB.out V hV).c8, hf], (KB.out V hV).c10, (hy.kept (HBX.out.trans (hV.mono HBX.out.size)) hbw).c14, (hy.kept (HBX.out.trans (hV.mono HBX.out.size)) hbw).c10⟩))
  obtain ⟨rc, hrc⟩ : ∃ r, y.d.contains (i : Int) = r := ⟨_, rfl⟩
  dsimp only at hz2
  rw [hrc] at CCO0 hz2
  have CCO := Lib.hid (fun (V : World) (hV : Below X.heap.size X V) => CCO0.out V (HBX.out.trans (hV.mono HBX.out.size)))
  rw [hf] at CIS
  have HF := Lib.hid hf
  have HZ2 : Hid ((rc && (decide (x.a = y.a) && (decide (x.a + 1 ≤ 24) && (decide (x.a + 1 ≤ (pisN x.t : Int)) && appB (fldT x) x.f x.a.toNat y.i.toNat x.a.toNat)))) = z) := Lib.hid hz2
  have HFY := Lib.hid hfo
  have hj0 : (j : Int) < (l.length : Int) := by omega
  have hj1 : (j : Int) < 600 := by omega
  clear hrb hz2 hrc henty hA' hy hyy hfo hjk hf HZ HIS HKA
  cases rc with
  | false =>
    obtain rfl : z = false := by rw [← HZ2.out]; rfl
    go_enter Tryz.func189, Tryz.ntmps189
    go_wp2_with fail
    clear hX
    refine wp_region_held_drew (S := fun w' => w'.cell? ⟨w.heap.size, 8, none⟩ = some (.int .i64 j) ∧ w'.cell? ⟨w.heap.size, 10, none⟩ = some (.int .i64 x.a) ∧ w'.cell? ⟨b, o + j * 15 + 14, none⟩ = some (.slice q.D y.d.length q.dc) ∧ w'.cell? ⟨b, o + j * 15 + 10, none⟩ = some (.int .i64 y.a)) (by kernel_rfl) ?_ (fun hHeld => ?_)
    · exact HKB.out _ hbk.out
    refine tkp [0, 1, 2, 3, 4] ?_
    iterate 5 (refine tkq (v := ?_) (by rfl) (by kernel_rfl) (by exact fun _ _ _ h => h) (by rfl) (HKB.out _ hbk.out) ?_ ?_; rotate_left; (intro w hSw; (try dsimp only at hSw); go_simp; (try with_reducible rfl)); simp only [Act.put, List.setIfInBounds_toArray, List.set_cons_zero, List.set_cons_succ])
    refine tke ?_
    refine wpAnyH_ready (rs := [5]) (by kernel_rfl) (by simp) ?_
    refine AllReadyH.cons (o := ({ dst := some 20, op := Op.call { callee := Callee.value (Operand.func 136), args := #[Operand.tmp 17, Operand.tmp 19, Operand.const (Value.int IntKind.i64 1)], argTypes := #[22, 3, 3] }, type := 4, pos := "sign.go:245", after := #[{ on := 2, ground := Ground.data }, { on := 4, ground := Ground.data }], guard := none } : Oper)) rfl (fun K hK => ?_) AllReadyH.nil
    go_simp
    refine (CIS.out _ hbk.out).mono ?_; rintro e w3 ⟨rfl, rfl⟩
    try (dsimp only)
    try go_wp2_with fail
    refine hK.out _ _ (HKB.out _ hbk.out) (fun hHeld => ?_)
    clear hK K
    try simp only [Act.put, List.setIfInBounds_toArray, List.set_cons_zero, List.set_cons_succ]
    refine tkp [6, 7, 8, 9, 10, 11, 12, 13, 14] ?_
    iterate 9 (refine tkq (v := ?_) (by rfl) (by kernel_rfl) (by exact fun _ _ _ h => h) (by rfl) (HKB.out _ hbk.out) ?_ ?_; rotate_left; (intro w hSw; (try dsimp only at hSw); go_simp; (try with_reducible rfl)); simp only [Act.put, List.setIfInBounds_toArray, List.set_cons_zero, List.set_cons_succ])
    refine tke ?_
    refine wpAnyH_ready (rs := [15]) (by kernel_rfl) (by simp) ?_
    refine AllReadyH.cons (o := ({ dst := some 30, op := Op.call { callee := Callee.value (Operand.func 209), args := #[Operand.tmp 28, Operand.tmp 29], argTypes := #[41, 3] }, type := 4, pos := "sign.go:245", after := #[{ on := 13, ground := Ground.data }, { on := 14, ground := Ground.data }, { on := 7, ground := Ground.chain }, { on := 7, ground := Ground.guard }], guard := some (7, false) } : Oper)) rfl (fun K hK => ?_) AllReadyH.nil
    go_simp
    refine (CCO.out _ hbk.out).mono ?_; rintro e w4 ⟨rfl, rfl⟩
    try (dsimp only)
    try go_wp2_with fail
    refine hK.out _ _ (HKB.out _ hbk.out) (fun hHeld => ?_)
    clear hK K
    try simp only [Act.put, List.setIfInBounds_toArray, List.set_cons_zero, List.set_cons_succ]
    refine tkp [16, 17, 18] ?_
    iterate 3 (refine tkq (v := ?_) (by rfl) (by kernel_rfl) (by exact fun _ _ _ h => h) (by rfl) (HKB.out _ hbk.out) ?_ ?_; rotate_left; (intro w hSw; (try dsimp only at hSw); go_simp; (try with_reducible rfl)); simp only [Act.put, List.setIfInBounds_toArray, List.set_cons_zero, List.set_cons_succ])
    refine tke ?_
    refine tko (by kernel_rfl) (fun _ _ _ _ h => h) (HKB.out _ hbk.out) [(19, 34), (20, 35), (21, 36), (22, 37), (23, 38), (24, 39), (25, 40), (26, 41), (27, 42)] 9 rfl _ _ (by kernel_rfl) ?_
    simp only [offA, offL, Act.put, List.setIfInBounds_toArray, List.set_cons_zero, List.set_cons_succ]
    refine tkp [28] ?_
    iterate 1 (refine tkq (v := ?_) (by rfl) (by kernel_rfl) (by exact fun _ _ _ h => h) (by rfl) (HKB.out _ hbk.out) ?_ ?_; rotate_left; (intro w hSw; (try dsimp only at hSw); go_simp; (try with_reducible rfl)); simp only [Act.put, List.setIfInBounds_toArray, List.set_cons_zero, List.set_cons_succ])
    refine tke ?_
    refine wpAnyH_done (by kernel_rfl) ?_ _
    go_wp2_with fail
    go_ret
    exact ⟨rfl, HBX.out.trans (hbk.out.mono HBX.out.size)⟩
  | true =>
  rw [Bool.true_and] at HZ2
  by_cases hpa : x.a = y.a
  case neg =>
    have t0 : (x.a != y.a) = true := by simpa using hpa
    obtain rfl : z = false := by rw [← HZ2.out, decide_eq_false hpa]; rfl
    clear hpa
    go_enter Tryz.func189, Tryz.ntmps189
    go_wp2_with fail
    clear hX
    refine wp_region_held_drew (S := fun w' => w'.cell? ⟨w.heap.size, 8, none⟩ = some (.int .i64 j) ∧ w'.cell? ⟨w.heap.size, 10, none⟩ = some (.int .i64 x.a) ∧ w'.cell? ⟨b, o + j * 15 + 14, none⟩ = some (.slice q.D y.d.length q.dc) ∧ w'.cell? ⟨b, o + j * 15 + 10, none⟩ = some (.int .i64 y.a)) (by kernel_rfl) ?_ (fun hHeld => ?_)
    · exact HKB.out _ hbk.out
    refine tkp [0, 1, 2, 3, 4] ?_
    iterate 5 (refine tkq (v := ?_) (by rfl) (by kernel_rfl) (by exact fun _ _ _ h => h) (by rfl) (HKB.out _ hbk.out) ?_ ?_; rotate_left; (intro w hSw; (try dsimp only at hSw); go_simp; (try with_reducible rfl)); simp only [Act.put, List.setIfInBounds_toArray, List.set_cons_zero, List.set_cons_succ])
    refine tke ?_
    refine wpAnyH_ready (rs := [5]) (by kernel_rfl) (by simp) ?_
    refine AllReadyH.cons (o := ({ dst := some 20, op := Op.call { callee := Callee.value (Operand.func 136), args := #[Operand.tmp 17, Operand.tmp 19, Operand.const (Value.int IntKind.i64 1)], argTypes := #[22, 3, 3] }, type := 4, pos := "sign.go:245", after := #[{ on := 2, ground := Ground.data }, { on := 4, ground := Ground.data }], guard := none } : Oper)) rfl (fun K hK => ?_) AllReadyH.nil
    go_simp
    refine (CIS.out _ hbk.out).mono ?_; rintro e w3 ⟨rfl, rfl⟩
    try (dsimp only)
    try go_wp2_with fail
    refine hK.out _ _ (HKB.out _ hbk.out) (fun hHeld => ?_)
    clear hK K
    try simp only [Act.put, List.setIfInBounds_toArray, List.set_cons_zero, List.set_cons_succ]
    refine tkp [6, 7, 8, 9, 10, 11, 12, 13, 14] ?_
    iterate 9 (refine tkq (v := ?_) (by rfl) (by kernel_rfl) (by exact fun _ _ _ h => h) (by rfl) (HKB.out _ hbk.out) ?_ ?_; rotate_left; (intro w hSw; (try dsimp only at hSw); go_simp; (try with_reducible rfl)); simp only [Act.put, List.setIfInBounds_toArray, List.set_cons_zero, List.set_cons_succ])
    refine tke ?_
    refine wpAnyH_ready (rs := [15]) (by kernel_rfl) (by simp) ?_
    refine AllReadyH.cons (o := ({ dst := some 30, op := Op.call { callee := Callee.value (Operand.func 209), args := #[Operand.tmp 28, Operand.tmp 29], argTypes := #[41, 3] }, type := 4, pos := "sign.go:245", after := #[{ on := 13, ground := Ground.data }, { on := 14, ground := Ground.data }, { on := 7, ground := Ground.chain }, { on := 7, ground := Ground.guard }], guard := some (7, false) } : Oper)) rfl (fun K hK => ?_) AllReadyH.nil
    go_simp
    refine (CCO.out _ hbk.out).mono ?_; rintro e w4 ⟨rfl, rfl⟩
    try (dsimp only)
    try go_wp2_with fail
    refine hK.out _ _ (HKB.out _ hbk.out) (fun hHeld => ?_)
    clear hK K
    try simp only [Act.put, List.setIfInBounds_toArray, List.set_cons_zero, List.set_cons_succ]
    refine tkp [16, 17, 18, 19, 20, 21, 22, 23, 24, 25, 26, 27, 28] ?_
    iterate 13 (refine tkq (v := ?_) (by rfl) (by kernel_rfl) (by exact fun _ _ _ h => h) (by rfl) (HKB.out _ hbk.out) ?_ ?_; rotate_left; (intro w hSw; (try dsimp only at hSw); go_simp; (try with_reducible rfl)); simp only [Act.put, List.setIfInBounds_toArray, List.set_cons_zero, List.set_cons_succ])
    refine tke ?_
    refine wpAnyH_done (by kernel_rfl) ?_ _
    go_wp2_with fail
    go_ret
    exact ⟨rfl, HBX.out.trans (hbk.out.mono HBX.out.size)⟩
  have t0 : (x.a != y.a) = false := by simpa using hpa
  obtain ⟨ps, hps⟩ : ∃ n : Nat, x.a = (n : Int) := ⟨x.a.toNat, by have := HFY.out; omega⟩
  have hps24 : (ps : Int) ≤ 24 := by have := HFY.out; omega
  have HZ3 : Hid ((decide (ps + 1 ≤ 24) && (decide (ps + 1 ≤ pisN x.t) && appB (fldT x) (j : Int) y.a.toNat y.i.toNat ps)) = z) := Lib.hid (by
    have := HZ2.out
    rw [decide_eq_true hpa, HF.out, Bool.true_and, hps] at this
    rw [← hpa, hps, ← this]
    have e : decide (ps + 1 ≤ pisN x.t) = decide ((ps : Int) + 1 ≤ (pisN x.t : Int)) := by congr 1; apply propext; omega
    have e2 : decide (ps + 1 ≤ 24) = decide ((ps : Int) + 1 ≤ 24) := by congr 1; apply propext; omega
    rw [e, e2, Int.toNat_natCast])
  have HPY := Lib.hid (show y.a = (ps : Int) by rw [← hpa, hps])
  have HPS := Lib.hid hps
  clear HZ2 hpa hps
  go_enter Tryz.func189, Tryz.ntmps189
  go_wp2_with fail
  clear hX
  refine wp_region_held_drew (S := fun w' => w'.cell? ⟨w.heap.size, 8, none⟩ = some (.int .i64 j) ∧ w'.cell? ⟨w.heap.size, 10, none⟩ = some (.int .i64 x.a) ∧ w'.cell? ⟨b, o + j * 15 + 14, none⟩ = some (.slice q.D y.d.length q.dc) ∧ w'.cell? ⟨b, o + j * 15 + 10, none⟩ = some (.int .i64 y.a)) (by kernel_rfl) ?_ (fun hHeld => ?_)
  · exact HKB.out _ hbk.out
  refine tkp [0, 1, 2, 3, 4] ?_
  iterate 5 (refine tkq (v := ?_) (by rfl) (by kernel_rfl) (by exact fun _ _ _ h => h) (by rfl) (HKB.out _ hbk.out) ?_ ?_; rotate_left; (intro w hSw; (try dsimp only at hSw); go_simp; (try with_reducible rfl)); simp only [Act.put, List.setIfInBounds_toArray, List.set_cons_zero, List.set_cons_succ])
  refine tke ?_
  refine wpAnyH_ready (rs := [5]) (by kernel_rfl) (by simp) ?_
  refine AllReadyH.cons (o := ({ dst := some 20, op := Op.call { callee := Callee.value (Operand.func 136), args := #[Operand.tmp 17, Operand.tmp 19, Operand.const (Value.int IntKind.i64 1)], argTypes := #[22, 3, 3] }, type := 4, pos := "sign.go:245", after := #[{ on := 2, ground := Ground.data }, { on := 4, ground := Ground.data }], guard := none } : Oper)) rfl (fun K hK => ?_) AllReadyH.nil
  go_simp
  refine (CIS.out _ hbk.out).mono ?_; rintro e w3 ⟨rfl, rfl⟩
  try (dsimp only)
  try go_wp2_with fail
  refine hK.out _ _ (HKB.out _ hbk.out) (fun hHeld => ?_)
  clear hK K
  try simp only [Act.put, List.setIfInBounds_toArray, List.set_cons_zero, List.set_cons_succ]
  refine tkp [6, 7, 8, 9, 10, 11, 12, 13, 14] ?_
  iterate 9 (refine tkq (v := ?_) (by rfl) (by kernel_rfl) (by exact fun _ _ _ h => h) (by rfl) (HKB.out _ hbk.out) ?_ ?_; rotate_left; (intro w hSw; (try dsimp only at hSw); go_simp; (try with_reducible rfl)); simp only [Act.put, List.setIfInBounds_toArray, List.set_cons_zero, List.set_cons_succ])
  refine tke ?_
  refine wpAnyH_ready (rs := [15]) (by kernel_rfl) (by simp) ?_
  refine AllReadyH.cons (o := ({ dst := some 30, op := Op.call { callee := Callee.value (Operand.func 209), args := #[Operand.tmp 28, Operand.tmp 29], argTypes := #[41, 3] }, type := 4, pos := "sign.go:245", after := #[{ on := 13, ground := Ground.data }, { on := 14, ground := Ground.data }, { on := 7, ground := Ground.chain }, { on := 7, ground := Ground.guard }], guard := some (7, false) } : Oper)) rfl (fun K hK => ?_) AllReadyH.nil
  go_simp
  refine (CCO.out _ hbk.out).mono ?_; rintro e w4 ⟨rfl, rfl⟩
  try (dsimp only)
  try go_wp2_with fail
  refine hK.out _ _ (HKB.out _ hbk.out) (fun hHeld => ?_)
  clear hK K
  try simp only [Act.put, List.setIfInBounds_toArray, List.set_cons_zero, List.set_cons_succ]
  refine tkp [16, 17, 18, 19, 20, 21, 22, 23, 24, 25, 26, 27, 28] ?_
  iterate 13 (refine tkq (v := ?_) (by rfl) (by kernel_rfl) (by exact fun _ _ _ h => h) (by rfl) (HKB.out _ hbk.out) ?_ ?_; rotate_left; (intro w hSw; (try dsimp only at hSw); go_simp; (try with_reducible rfl)); simp only [Act.put, List.setIfInBounds_toArray, List.set_cons_zero, List.set_cons_succ])
  refine tke ?_
  refine wpAnyH_done (by kernel_rfl) ?_ _
  have CW := Lib.hid (fun (V : World) (hV : Below w.heap.size w V) => split_any x.t p.T p.tc ((ps : Int) + 1) V (((HENT.out V hV).ht).wide (Nat.zero_le _) (by have := hV.size; omega)) (HSS.out V hV))
  unfold GivesS termV at CW
  obtain ⟨-, -, c2, c3, c4, -, -, -, c8, -, c10, -, -, -, -⟩ := KB.out _ hbk.out
  have wr1 : IntKind.i64.wrap (x.a + 1) = (ps : Int) + 1 := by rw [HPS.out]; exact IntWalk.i64_in _ (by omega)
  have HBY := Lib.hid (HBX.out.trans (hbk.out.mono HBX.out.size))
  have HTF := Lib.hid (tel_facts HSH.out)
  have HRC : Hid ((∃ u, splitX x.t ((ps : Int) + 1) = ((telT x.t).take (ps + 1), u, 0) ∧ ps + 1 ≤ pisN x.t ∧ appB (fldT x) (j : Int) y.a.toNat y.i.toNat ps = z) ∨ (z = false ∧ ∃ c, splitX x.t ((ps : Int) + 1) = ([], .node 0 0 [], c) ∧ (c = 2 ∨ c = 6))) := Lib.hid (by
    have hz3 := HZ3.out
    rw [show (ps : Int) + 1 = ((ps + 1 : Nat) : Int) by omega]
    by_cases h24 : ps + 1 ≤ 24
    · rw [decide_eq_true h24, Bool.true_and] at hz3
      by_cases hp : ps + 1 ≤ pisN x.t
      · obtain ⟨u, hu, -⟩ := split_few HSH.out h24 hp
        rw [decide_eq_true hp, Bool.true_and] at hz3
        exact .inl ⟨u, hu, hp, hz3⟩
      · rw [decide_eq_false hp] at hz3
        exact .inr ⟨hz3.symm, 6, split_many HSH.out h24 (by omega), .inr rfl⟩
    · rw [decide_eq_false h24] at hz3
      exact .inr ⟨hz3.symm, 2, split_long (by rw [HSH.out, decide_eq_true (show (0 : Int) ≤ ((ps + 1 : Nat) : Int) by omega)]; rfl) (by omega), .inl rfl⟩)
  have HTL := Lib.hid (fun (hp : ps + 1 ≤ pisN x.t) => (show ∃ h : ps < ((telT x.t).take (ps + 1)).length, ((telT x.t).take (ps + 1))[ps] = fldT x ∧ shapedB (fldT x) = true from by
    have h1 := (tel_facts HSH.out).1
    have h2 : ps < (telT x.t).length := by omega
    refine ⟨by rw [List.length_take]; omega, ?_, ?_⟩
    · rw [List.getElem_take]; unfold fldT; rw [HPS.out, Int.toNat_natCast, List.getElem?_eq_getElem h2]; rfl
    · unfold fldT; rw [HPS.out, Int.toNat_natCast, List.getElem?_eq_getElem h2]; exact (tel_facts HSH.out).2.2.2 _ (List.getElem_mem h2)))
  obtain ⟨R, hR⟩ : ∃ R, splitX x.t ((ps : Int) + 1) = R := ⟨_, rfl⟩
  rw [hR] at CW HRC
  clear hR CIS CCO HKB HZ3
  go_wp2_with fail
  refine (CW.out _ HBY.out).mono ?_
  rintro e w5 ⟨A1, c1, B1, d1, rfl, hrt, -, hb5⟩
  have HB5 := Lib.hid (HBY.out.trans (hb5.mono HBY.out.size))
  have HBK5 := Lib.hid (hbk.out.trans (hb5.mono hbk.out.size))
  have HRT := Lib.hid hrt
  clear hb5 hrt CW c2 c3 c4 c8 c10
  have hsz5 : w.heap.size < w5.heap.size := by have := HBK5.out.size; have := HXS.out; omega
  have HB5A := Lib.hid (fun o => HB5.out.alloc HB5.out.size o)
  rcases HRC.out with ⟨u, hR, hp, hzz⟩ | ⟨hzf, c, hR, hc⟩
  · subst hR
    obtain ⟨hlp, hel, hsf⟩ := HTL.out hp
    simp only at HRT
    have HT5 := Lib.hid (show IsTerms w5 w.heap.size w5.heap.size ((telT x.t).take (ps + 1)) A1 c1 from HRT.out.imp (fun _ _ _ => rfl) (fun b hb => ⟨by have := hb.1; have := HBY.out.size; omega, hb.2⟩))
    obtain ⟨ts, hts⟩ : ∃ ts, (telT x.t).take (ps + 1) = ts := ⟨_, rfl⟩
    rw [hts] at HT5 hlp ⊢
    simp only [hts] at hel
    obtain ⟨bt, ot, FT, CT, hAt, -, hbt, hxt, hnt⟩ := HT5.out.sub ps hlp
    rw [hel] at hxt hnt
    subst hAt
    obtain ⟨f, hf⟩ : ∃ f, fldT x = f := ⟨_, rfl⟩
    rw [hf] at hxt hnt hsf hzz
    have HZ5 := Lib.hid hzz
    have HHX := Lib.hid hxt
    have HNT := Lib.hid hnt
    have HSF := Lib.hid hsf
    have hpl : (ps : Int) < (ts.length : Int) := by omega
    have hbt5 : bt < w5.heap.size := hbt
    clear hf hel hts hxt hnt hsf hzz hp HRC HTL HTF HRT hlp
    obtain ⟨Y, hY⟩ : ∃ Y, w5.alloc (.cells #[.int .i64 u.k, .int .i64 u.n, .slice B1 u.l.length d1] 25) = Y := ⟨_, rfl⟩
    have HWY := Lib.hid (show Below w5.heap.size w5 Y from by rw [← hY]; exact (Below.refl _ _).alloc (Nat.le_refl _) _)
    have HBYY := Lib.hid (HB5.out.trans (HWY.out.mono HB5.out.size))
    have HBKY := Lib.hid (HBK5.out.trans (HWY.out.mono HBK5.out.size))
    have hby := Lib.hid ((Below.refl Y.heap.size Y).drew)
    have HK7 := Lib.hid (fun (V : World) (hV : Below Y.heap.size Y V) => (show V.cell? ⟨w.heap.size, 8, none⟩ = some (.int .i64 j) ∧ V.cell? ⟨w.heap.size, 10, none⟩ = some (.int .i64 ps) ∧ V.cell? ⟨bt, ot + ps * 3, none⟩ = some (.int .i64 f.k) ∧ V.cell? ⟨bt, ot + ps * 3 + 1, none⟩ = some (.int .i64 f.n) ∧ V.cell? ⟨bt, ot + ps * 3 + 2, none⟩ = some (.slice FT f.l.length CT) from by
      obtain ⟨q0, q1, q2⟩ := HHX.out.kept (HWY.out.trans (hV.mono HWY.out.size)) hbt5
      exact ⟨by rw [(KB.out V (HBKY.out.trans (hV.mono HBKY.out.size))).c8, HF.out], by rw [(KB.out V (HBKY.out.trans (hV.mono HBKY.out.size))).c10, HPS.out], q0, q1, q2⟩))
    have CI2 : Hid (∀ (V : World), Below Y.heap.size Y V → Calls Tryz.prog 166 #[.slice (some ⟨b, o, none⟩) l.length cap, .int .i64 j, .agg #[.int .i64 f.k, .int .i64 f.n, .slice FT f.l.length CT], .int .i64 ps] V fun e w' => (∃ A7 n7 c7, e = .returned (.tuple #[.slice A7 n7 c7, .bool z])) ∧ Below V.heap.size V w') := Lib.hid (fun V hV => by
      have := CIN.out f FT CT ps w.heap.size w5.heap.size V (HBYY.out.trans (hV.mono HBYY.out.size)) (HNT.out.kept (HWY.out.trans (hV.mono HWY.out.size)) (Nat.le_refl _)) (by have := hV.size; have := HWY.out.size; omega) HSF.out (by rw [HPY.out]; omega) (by omega)
      rw [HZ5.out] at this
      exact this.mono fun e w' ⟨A7, n7, c7, h1, _, h2⟩ => ⟨⟨A7, n7, c7, h1⟩, h2⟩)
    clear HZ5 CIN HND HNT HHX
    go_wp2_with fail
    clear hY
    have hbk := hby
    refine wp_region_held_drew (S := fun w' => w'.cell? ⟨w.heap.size, 8, none⟩ = some (.int .i64 j) ∧ w'.cell? ⟨w.heap.size, 10, none⟩ = some (.int .i64 ps) ∧ w'.cell? ⟨bt, ot + ps * 3, none⟩ = some (.int .i64 f.k) ∧ w'.cell? ⟨bt, ot + ps * 3 + 1, none⟩ = some (.int .i64 f.n) ∧ w'.cell? ⟨bt, ot + ps * 3 + 2, none⟩ = some (.slice FT f.l.length CT)) (by kernel_rfl) ?_ (fun hHeld => ?_)
    · exact HK7.out _ hbk.out
    refine tkp [0, 1, 2, 3, 4, 5, 6, 7, 8, 9] ?_
    iterate 10 (refine tkq (v := ?_) (by rfl) (by kernel_rfl) (by exact fun _ _ _ h => h) (by rfl) (HK7.out _ hbk.out) ?_ ?_; rotate_left; (intro w hSw; (try dsimp only at hSw); go_simp; (try with_reducible rfl)); simp only [Act.put, List.setIfInBounds_toArray, List.set_cons_zero, List.set_cons_succ])
    refine tke ?_
    refine wpAnyH_ready (rs := [10]) (by kernel_rfl) (by simp) ?_
    refine AllReadyH.cons (o := ({ dst := some 67, op := Op.call { callee := Callee.value (Operand.func 166), args := #[Operand.tmp 57, Operand.tmp 59, Operand.tmp 64, Operand.tmp 66], argTypes := #[22, 3, 25, 3] }, type := 201, pos := "sign.go:252", after := #[{ on := 0, ground := Ground.data }, { on := 2, ground := Ground.data }, { on := 7, ground := Ground.data }, { on := 9, ground := Ground.data }], guard := none } : Oper)) rfl (fun K hK => ?_) AllReadyH.nil
    go_simp
    refine (CI2.out _ hbk.out).mono ?_; rintro e w6 ⟨⟨A7, n7, c7, rfl⟩, hbn⟩
    have hbk := Lib.hid (hbk.out.trans (hbn.mono hbk.out.size))
    clear hbn
    try (dsimp only)
    try go_wp2_with fail
    refine hK.out _ _ (HK7.out _ hbk.out) (fun hHeld => ?_)
    clear hK K
    try simp only [Act.put, List.setIfInBounds_toArray, List.set_cons_zero, List.set_cons_succ]
    refine tkp [11, 12, 13, 14, 15] ?_
    iterate 5 (refine tkq (v := ?_) (by rfl) (by kernel_rfl) (by exact fun _ _ _ h => h) (by rfl) (HK7.out _ hbk.out) ?_ ?_; rotate_left; (intro w hSw; (try dsimp only at hSw); go_simp; (try with_reducible rfl)); simp only [Act.put, List.setIfInBounds_toArray, List.set_cons_zero, List.set_cons_succ])
    refine tke ?_
    refine wpAnyH_done (by kernel_rfl) ?_ _
    go_wp2_with fail
    go_ret
    exact ⟨rfl, HBYY.out.trans (hbk.out.mono HBYY.out.size)⟩
  · subst hR
    subst hzf
    have tc : (c != 0) = true := by rcases hc with rfl | rfl <;> rfl
    clear hc HRC
    go_wp2_with fail
    go_ret
    exact ⟨rfl, HB5A.out _⟩

end Go.Proofs.YtchllgkgjompgaaGreatDoor
