/- sign.formedCon. -/
import Derived.Test.YtchllgkgjompgaaGreatDoorSgTake
import Derived.Test.YtchllgkgjompgaaGreatDoorSgFam
import Derived.Test.YtchllgkgjompgaaGreatDoorSgInd2
namespace Go.Proofs.YtchllgkgjompgaaGreatDoor
open Go.RowKit
set_option linter.unusedVariables false
set_option maxRecDepth 100000

theorem isB_take {l : List ET} {i : Nat} {n k : Int} (h : isB (l.take i) n k = true) : ∃ j : Nat, n = (j : Int) ∧ j < i ∧ ∃ hj : j < l.length, l[j].k = k := by
  obtain ⟨m, rfl, hm, hk⟩ := isB_true h
  rw [List.length_take] at hm
  rw [List.getElem_take] at hk
  exact ⟨m, rfl, by omega, by omega, hk⟩
theorem famAt_nat {l : List ET} {x : ET} {j : Nat} (hf : x.f = (j : Int)) (hj : j < l.length) : famAt l x = some l[j] := by
  unfold famAt
  rw [if_pos (by omega), hf, Int.toNat_natCast, List.getElem?_eq_getElem hj]

set_option maxHeartbeats 8000000 in
theorem con_any (l : List ET) (A : Option Addr) (cap i : Nat) (hi : i < l.length) (lo hh : Nat) (w : World) (hl : l.length ≤ 600) (hlc : l.length ≤ cap) (hn : EntsAt w lo hh A l) (hhh : hh ≤ w.heap.size) (hS : ShapesM w)
    (hfo : FamOk l i) (hsh : shapedB l[i].t = true) :
    Calls Tryz.prog 188 #[.slice A l.length cap, .int .i64 i] w fun e w' => e = .returned (.bool (conB l i l[i])) ∧ Below w.heap.size w w' := by
  obtain ⟨b, o, p, hA, hb1, hb2, hx, hent⟩ := hn i hi
  have HN := Lib.hid hn
  have HFO := Lib.hid hfo
  have HIS0 := Lib.hid (fun (n : Int) (V : World) (hV : Below w.heap.size w V) => isOf_any (l.take i) A cap lo hh n 1 V (by rw [List.length_take]; unfold maxLen; omega) ((hn.kept hV hhh).take i))
  have HLT := Lib.hid (show (l.take i).length = i by rw [List.length_take]; omega)
  have HND := Lib.hid (fun (j : Nat) (hj : j < l.length) (t : TM) (T : Option Addr) (tc bs lo' hi' : Nat) (V : World) (hV : Below w.heap.size w V) h1 h2 h3 h4 h5 h6 h7 h8 => ind_any l A cap j hj t T tc bs lo hh lo' hi' V hl (hn.kept hV hhh) (by have := hV.size; omega) h1 h2 (hS.kept hV) h3 h4 h5 h6 h7 h8)
  have HLL := Lib.hid hl
  obtain ⟨z, hz⟩ : ∃ z, conB l i l[i] = z := ⟨_, rfl⟩
  rw [hz]
  unfold conB at hz
  obtain ⟨x, hxx⟩ : ∃ x, l[i] = x := ⟨_, rfl⟩
  rw [hxx] at hx hent hz hsh
  obtain ⟨x0, x1, x2, x3, x4, x5, x6, x7, x8, x9, x10, x11, x12, x13, x14⟩ := hx
  subst hA
  have hbw : b < w.heap.size := by omega
  have hi0' : (i : Int) < (l.length : Int) := by omega
  have hi1 : (i : Int) < 600 := by omega
  have HZ := Lib.hid hz
  have HB1 := Lib.hid (show Below w.heap.size w (w.alloc (.cells (entC x p) 43)) from (Below.refl _ _).alloc (Nat.le_refl _) _)
  have KB := Lib.hid (fun (V : World) (hV : Below (w.alloc (.cells (entC x p) 43)).heap.size (w.alloc (.cells (entC x p) 43)) V) => (show BoxE V w.heap.size x p from ((Bk.new w 43 (entC x p)).below hV (by simp)).boxE))
  have HENT := Lib.hid (fun (V : World) (hV : Below w.heap.size w V) => hent.kept hV hhh)
  have HSS := Lib.hid (fun (V : World) (hV : Below w.heap.size w V) => hS.kept hV)
  have HSH := Lib.hid hsh
  have hra := hent.ra
  have hlc' : (l.length : Int) ≤ (cap : Int) := by omega
  have hic : (i : Int) ≤ (cap : Int) := by omega
  have HIS : Hid (∀ (V : World), Below w.heap.size w V → Calls Tryz.prog 136 #[.slice (some ⟨b, o, none⟩) i cap, .int .i64 x.f, .int .i64 1] V fun e w' => e = .returned (.bool (isB (l.take i) x.f 1)) ∧ V = w') := Lib.hid (fun V hV => by
    have := HIS0.out x.f V hV
    rw [HLT.out] at this
    exact this)
  clear hz hxx hent hn hS hl hb1 hb2 hfo hsh hlc HIS0
  obtain ⟨X, hX⟩ : ∃ X, w.alloc (.cells (entC x p) 43) = X := ⟨_, rfl⟩
  rw [hX] at HB1 KB
  have HBX := Lib.hid HB1.out
  have HXS := Lib.hid (show w.heap.size < X.heap.size from by rw [← hX]; simp)
  have hbk := Lib.hid ((Below.refl X.heap.size X).drew)
  have HKA := Lib.hid (fun (V : World) (hV : Below X.heap.size X V) => (KB.out V hV).c8)
  unfold entC at hX
  obtain ⟨rb, hrb⟩ : ∃ r, isB (l.take i) x.f 1 = r := ⟨_, rfl⟩
  rw [hrb] at HIS
  have CIS := Lib.hid (fun (V : World) (hV : Below X.heap.size X V) => HIS.out V (HBX.out.trans (hV.mono HBX.out.size)))
  cases rb with
  | false =>
    obtain rfl : z = false := by rw [← HZ.out, hrb]; rfl
    clear hrb
    go_enter Tryz.func188, Tryz.ntmps188
    go_wp2_with fail
    clear hX
    refine wp_region_held_drew (S := fun w' => w'.cell? ⟨w.heap.size, 8, none⟩ = some (.int .i64 x.f)) (by kernel_rfl) ?_ (fun hHeld => ?_)
    · exact HKA.out _ hbk.out
    refine tkp [0, 1, 2, 3, 4] ?_
    iterate 5 (refine tkq (v := ?_) (by rfl) (by kernel_rfl) (by exact fun _ _ _ h => h) (by rfl) (HKA.out _ hbk.out) ?_ ?_; rotate_left; (intro w hSw; (try dsimp only at hSw); go_simp; (try with_reducible rfl)); simp only [Act.put, List.setIfInBounds_toArray, List.set_cons_zero, List.set_cons_succ])
    refine tke ?_
    refine wpAnyH_ready (rs := [5]) (by kernel_rfl) (by simp) ?_
    refine AllReadyH.cons (o := ({ dst := some 20, op := Op.call { callee := Callee.value (Operand.func 136), args := #[Operand.tmp 17, Operand.tmp 19, Operand.const (Value.int IntKind.i64 1)], argTypes := #[22, 3, 3] }, type := 4, pos := "sign.go:231", after := #[{ on := 2, ground := Ground.data }, { on := 4, ground := Ground.data }], guard := none } : Oper)) rfl (fun K hK => ?_) AllReadyH.nil
    go_simp
    refine (CIS.out _ hbk.out).mono ?_; rintro e w3 ⟨rfl, rfl⟩
    try (dsimp only)
    try go_wp2_with fail
    refine hK.out _ _ (HKA.out _ hbk.out) (fun hHeld => ?_)
    clear hK K
    try simp only [Act.put, List.setIfInBounds_toArray, List.set_cons_zero, List.set_cons_succ]
    refine tkp [6, 7] ?_
    iterate 2 (refine tkq (v := ?_) (by rfl) (by kernel_rfl) (by exact fun _ _ _ h => h) (by rfl) (HKA.out _ hbk.out) ?_ ?_; rotate_left; (intro w hSw; (try dsimp only at hSw); go_simp; (try with_reducible rfl)); simp only [Act.put, List.setIfInBounds_toArray, List.set_cons_zero, List.set_cons_succ])
    refine tke ?_
    refine tko (by kernel_rfl) (fun _ _ _ _ h => h) (HKA.out _ hbk.out) [(8, 23), (9, 24), (10, 25), (11, 26), (12, 27), (13, 28), (14, 29), (15, 30), (16, 31)] 9 rfl _ _ (by kernel_rfl) ?_
    simp only [offA, offL, Act.put, List.setIfInBounds_toArray, List.set_cons_zero, List.set_cons_succ]
    refine tkp [17, 18] ?_
    iterate 2 (refine tkq (v := ?_) (by rfl) (by kernel_rfl) (by exact fun _ _ _ h => h) (by rfl) (HKA.out _ hbk.out) ?_ ?_; rotate_left; (intro w hSw; (try dsimp only at hSw); go_simp; (try with_reducible rfl)); simp only [Act.put, List.setIfInBounds_toArray, List.set_cons_zero, List.set_cons_succ])
    refine tke ?_
    refine tko (by kernel_rfl) (fun _ _ _ _ h => h) (HKA.out _ hbk.out) [(19, 34), (20, 35), (21, 36), (22, 37), (23, 38), (24, 39), (25, 40), (26, 41), (27, 42)] 9 rfl _ _ (by kernel_rfl) ?_
    simp only [offA, offL, Act.put, List.setIfInBounds_toArray, List.set_cons_zero, List.set_cons_succ]
    refine tkp [28] ?_
    iterate 1 (refine tkq (v := ?_) (by rfl) (by kernel_rfl) (by exact fun _ _ _ h => h) (by rfl) (HKA.out _ hbk.out) ?_ ?_; rotate_left; (intro w hSw; (try dsimp only at hSw); go_simp; (try with_reducible rfl)); simp only [Act.put, List.setIfInBounds_toArray, List.set_cons_zero, List.set_cons_succ])
    refine tke ?_
    refine wpAnyH_done (by kernel_rfl) ?_ _
    go_wp2_with fail
    go_ret
    exact ⟨rfl, HBX.out.trans (hbk.out.mono HBX.out.size)⟩
  | true =>
  obtain ⟨j, hf, hji, hj, hjk⟩ := isB_take hrb
  have hfo := HFO.out j hj hji hjk
  obtain ⟨b', o', q, hA', -, hbh, hy, henty⟩ := HN.out j hj
  obtain ⟨rfl, rfl⟩ : b = b' ∧ o = o' := by
    injection hA' with r
    injection r with r1 r2
    exact ⟨r1, r2⟩
  have hz2 := HZ.out
  rw [hrb, famAt_nat hf hj, Bool.true_and] at hz2
  have CCO0 := Lib.hid (fun (V : World) (hV : Below w.heap.size w V) => contains_any l[j].c (i : Int) q.C q.cc lo hh V (Nat.le_trans henty.lc henty.mc) ((henty.hc).kept hV hhh))
  have CIN := Lib.hid (fun (t : TM) (T : Option Addr) (tc bs lo' hi' : Nat) (V : World) (hV : Below w.heap.size w V) h1 h2 h4 h7 h8 => HND.out j hj t T tc bs lo' hi' V hV h1 h2 h4 hfo.1 hfo.2.1 hfo.2.2 h7 h8)
  obtain ⟨y, hyy⟩ : ∃ y, l[j] = y := ⟨_, rfl⟩
  rw [hyy] at hy hz2 CCO0 CIN hfo
  have HKB := Lib.hid (fun (V : World) (hV : Below X.heap.size X V) => (show V.cell? ⟨w.heap.size, 8, none⟩ = some (.int .i64 j) ∧ V.cell? ⟨w.heap.size, 10, none⟩ = some (.int .i64 x.a) ∧ V.cell? ⟨b, o + j * 15 + 13, none⟩ = some (.slice q.C y.c.length q.cc) ∧ V.cell? ⟨b, o + j * 15 + 10, none⟩ = some (.int .i64 y.a) from
    ⟨by rw [(KB.out V hV).c8, hf], (KB.out V hV).c10, (hy.kept (HBX.out.trans (hV.mono HBX.out.size)) hbw).c13, (hy.kept (HBX.out.trans (hV.mono HBX.out.size)) hbw).c10⟩))
  obtain ⟨rc, hrc⟩ : ∃ r, y.c.contains (i : Int) = r := ⟨_, rfl⟩
  dsimp only at hz2
  rw [hrc] at CCO0 hz2
  have CCO := Lib.hid (fun (V : World) (hV : Below X.heap.size X V) => CCO0.out V (HBX.out.trans (hV.mono HBX.out.size)))
  rw [hf] at CIS
  have HF := Lib.hid hf
  have HZ2 : Hid ((rc && (decide (x.a = y.a) && (decide (pisN x.t ≤ 24) && (decide (x.a ≤ (pisN x.t : Int)) && appB (benT x.t) x.f x.a.toNat y.i.toNat (pisN x.t))))) = z) := Lib.hid hz2
  have HFY := Lib.hid hfo
  have hj0 : (j : Int) < (l.length : Int) := by omega
  have hj1 : (j : Int) < 600 := by omega
  clear hrb hz2 hrc henty hA' hy hyy hfo hjk hf HZ HIS HKA
  cases rc with
  | false =>
    obtain rfl : z = false := by rw [← HZ2.out]; rfl
    go_enter Tryz.func188, Tryz.ntmps188
    go_wp2_with fail
    clear hX
    refine wp_region_held_drew (S := fun w' => w'.cell? ⟨w.heap.size, 8, none⟩ = some (.int .i64 j) ∧ w'.cell? ⟨w.heap.size, 10, none⟩ = some (.int .i64 x.a) ∧ w'.cell? ⟨b, o + j * 15 + 13, none⟩ = some (.slice q.C y.c.length q.cc) ∧ w'.cell? ⟨b, o + j * 15 + 10, none⟩ = some (.int .i64 y.a)) (by kernel_rfl) ?_ (fun hHeld => ?_)
    · exact HKB.out _ hbk.out
    refine tkp [0, 1, 2, 3, 4] ?_
    iterate 5 (refine tkq (v := ?_) (by rfl) (by kernel_rfl) (by exact fun _ _ _ h => h) (by rfl) (HKB.out _ hbk.out) ?_ ?_; rotate_left; (intro w hSw; (try dsimp only at hSw); go_simp; (try with_reducible rfl)); simp only [Act.put, List.setIfInBounds_toArray, List.set_cons_zero, List.set_cons_succ])
    refine tke ?_
    refine wpAnyH_ready (rs := [5]) (by kernel_rfl) (by simp) ?_
    refine AllReadyH.cons (o := ({ dst := some 20, op := Op.call { callee := Callee.value (Operand.func 136), args := #[Operand.tmp 17, Operand.tmp 19, Operand.const (Value.int IntKind.i64 1)], argTypes := #[22, 3, 3] }, type := 4, pos := "sign.go:231", after := #[{ on := 2, ground := Ground.data }, { on := 4, ground := Ground.data }], guard := none } : Oper)) rfl (fun K hK => ?_) AllReadyH.nil
    go_simp
    refine (CIS.out _ hbk.out).mono ?_; rintro e w3 ⟨rfl, rfl⟩
    try (dsimp only)
    try go_wp2_with fail
    refine hK.out _ _ (HKB.out _ hbk.out) (fun hHeld => ?_)
    clear hK K
    try simp only [Act.put, List.setIfInBounds_toArray, List.set_cons_zero, List.set_cons_succ]
    refine tkp [6, 7, 8, 9, 10, 11, 12, 13, 14] ?_
    iterate 9 (refine tkq (v := ?_) (by rfl) (by kernel_rfl) (by exact fun _ _ _ h => h) (by rfl) (HKB.out _ hbk.out) ?_ ?_; rotate_left; (intro w hSw; (try dsimp only at hSw); go_simp; (try with_reducible rfl)); simp only [Act.put, List.setIfInBounds_toArray, List.set_cons_zero, List.set_cons_succ])
    refine tke ?_
    refine wpAnyH_ready (rs := [15]) (by kernel_rfl) (by simp) ?_
    refine AllReadyH.cons (o := ({ dst := some 30, op := Op.call { callee := Callee.value (Operand.func 209), args := #[Operand.tmp 28, Operand.tmp 29], argTypes := #[41, 3] }, type := 4, pos := "sign.go:231", after := #[{ on := 13, ground := Ground.data }, { on := 14, ground := Ground.data }, { on := 7, ground := Ground.chain }, { on := 7, ground := Ground.guard }], guard := some (7, false) } : Oper)) rfl (fun K hK => ?_) AllReadyH.nil
    go_simp
    refine (CCO.out _ hbk.out).mono ?_; rintro e w4 ⟨rfl, rfl⟩
    try (dsimp only)
    try go_wp2_with fail
    refine hK.out _ _ (HKB.out _ hbk.out) (fun hHeld => ?_)
    clear hK K
    try simp only [Act.put, List.setIfInBounds_toArray, List.set_cons_zero, List.set_cons_succ]
    refine tkp [16, 17, 18] ?_
    iterate 3 (refine tkq (v := ?_) (by rfl) (by kernel_rfl) (by exact fun _ _ _ h => h) (by rfl) (HKB.out _ hbk.out) ?_ ?_; rotate_left; (intro w hSw; (try dsimp only at hSw); go_simp; (try with_reducible rfl)); simp only [Act.put, List.setIfInBounds_toArray, List.set_cons_zero, List.set_cons_succ])
    refine tke ?_
    refine tko (by kernel_rfl) (fun _ _ _ _ h => h) (HKB.out _ hbk.out) [(19, 34), (20, 35), (21, 36), (22, 37), (23, 38), (24, 39), (25, 40), (26, 41), (27, 42)] 9 rfl _ _ (by kernel_rfl) ?_
    simp only [offA, offL, Act.put, List.setIfInBounds_toArray, List.set_cons_zero, List.set_cons_succ]
    refine tkp [28] ?_
    iterate 1 (refine tkq (v := ?_) (by rfl) (by kernel_rfl) (by exact fun _ _ _ h => h) (by rfl) (HKB.out _ hbk.out) ?_ ?_; rotate_left; (intro w hSw; (try dsimp only at hSw); go_simp; (try with_reducible rfl)); simp only [Act.put, List.setIfInBounds_toArray, List.set_cons_zero, List.set_cons_succ])
    refine tke ?_
    refine wpAnyH_done (by kernel_rfl) ?_ _
    go_wp2_with fail
    go_ret
    exact ⟨rfl, HBX.out.trans (hbk.out.mono HBX.out.size)⟩
  | true =>
  rw [Bool.true_and] at HZ2
  by_cases hpa : x.a = y.a
  case neg =>
    have t0 : (x.a != y.a) = true := by simpa using hpa
    obtain rfl : z = false := by rw [← HZ2.out, decide_eq_false hpa]; rfl
    clear hpa
    go_enter Tryz.func188, Tryz.ntmps188
    go_wp2_with fail
    clear hX
    refine wp_region_held_drew (S := fun w' => w'.cell? ⟨w.heap.size, 8, none⟩ = some (.int .i64 j) ∧ w'.cell? ⟨w.heap.size, 10, none⟩ = some (.int .i64 x.a) ∧ w'.cell? ⟨b, o + j * 15 + 13, none⟩ = some (.slice q.C y.c.length q.cc) ∧ w'.cell? ⟨b, o + j * 15 + 10, none⟩ = some (.int .i64 y.a)) (by kernel_rfl) ?_ (fun hHeld => ?_)
    · exact HKB.out _ hbk.out
    refine tkp [0, 1, 2, 3, 4] ?_
    iterate 5 (refine tkq (v := ?_) (by rfl) (by kernel_rfl) (by exact fun _ _ _ h => h) (by rfl) (HKB.out _ hbk.out) ?_ ?_; rotate_left; (intro w hSw; (try dsimp only at hSw); go_simp; (try with_reducible rfl)); simp only [Act.put, List.setIfInBounds_toArray, List.set_cons_zero, List.set_cons_succ])
    refine tke ?_
    refine wpAnyH_ready (rs := [5]) (by kernel_rfl) (by simp) ?_
    refine AllReadyH.cons (o := ({ dst := some 20, op := Op.call { callee := Callee.value (Operand.func 136), args := #[Operand.tmp 17, Operand.tmp 19, Operand.const (Value.int IntKind.i64 1)], argTypes := #[22, 3, 3] }, type := 4, pos := "sign.go:231", after := #[{ on := 2, ground := Ground.data }, { on := 4, ground := Ground.data }], guard := none } : Oper)) rfl (fun K hK => ?_) AllReadyH.nil
    go_simp
    refine (CIS.out _ hbk.out).mono ?_; rintro e w3 ⟨rfl, rfl⟩
    try (dsimp only)
    try go_wp2_with fail
    refine hK.out _ _ (HKB.out _ hbk.out) (fun hHeld => ?_)
    clear hK K
    try simp only [Act.put, List.setIfInBounds_toArray, List.set_cons_zero, List.set_cons_succ]
    refine tkp [6, 7, 8, 9, 10, 11, 12, 13, 14] ?_
    iterate 9 (refine tkq (v := ?_) (by rfl) (by kernel_rfl) (by exact fun _ _ _ h => h) (by rfl) (HKB.out _ hbk.out) ?_ ?_; rotate_left; (intro w hSw; (try dsimp only at hSw); go_simp; (try with_reducible rfl)); simp only [Act.put, List.setIfInBounds_toArray, List.set_cons_zero, List.set_cons_succ])
    refine tke ?_
    refine wpAnyH_ready (rs := [15]) (by kernel_rfl) (by simp) ?_
    refine AllReadyH.cons (o := ({ dst := some 30, op := Op.call { callee := Callee.value (Operand.func 209), args := #[Operand.tmp 28, Operand.tmp 29], argTypes := #[41, 3] }, type := 4, pos := "sign.go:231", after := #[{ on := 13, ground := Ground.data }, { on := 14, ground := Ground.data }, { on := 7, ground := Ground.chain }, { on := 7, ground := Ground.guard }], guard := some (7, false) } : Oper)) rfl (fun K hK => ?_) AllReadyH.nil
    go_simp
    refine (CCO.out _ hbk.out).mono ?_; rintro e w4 ⟨rfl, rfl⟩
    try (dsimp only)
    try go_wp2_with fail
    refine hK.out _ _ (HKB.out _ hbk.out) (fun hHeld => ?_)
    clear hK K
    try simp only [Act.put, List.setIfInBounds_toArray, List.set_cons_zero, List.set_cons_succ]
    refine tkp [16, 17, 18, 19, 20, 21, 22, 23, 24, 25, 26, 27, 28] ?_
    iterate 13 (refine tkq (v := ?_) (by rfl) (by kernel_rfl) (by exact fun _ _ _ h => h) (by rfl) (HKB.out _ hbk.out) ?_ ?_; rotate_left; (intro w hSw; (try dsimp only at hSw); go_simp; (try with_reducible rfl)); simp only [Act.put, List.setIfInBounds_toArray, List.set_cons_zero, List.set_cons_succ])
    refine tke ?_
    refine wpAnyH_done (by kernel_rfl) ?_ _
    go_wp2_with fail
    go_ret
    exact ⟨rfl, HBX.out.trans (hbk.out.mono HBX.out.size)⟩
  have t0 : (x.a != y.a) = false := by simpa using hpa
  obtain ⟨ps, hps⟩ : ∃ n : Nat, x.a = (n : Int) := ⟨x.a.toNat, by have := HFY.out; omega⟩
  have hps24 : (ps : Int) ≤ 24 := by have := HFY.out; omega
  have HZ3 : Hid ((decide (pisN x.t ≤ 24) && (decide (ps ≤ pisN x.t) && appB (benT x.t) (j : Int) y.a.toNat y.i.toNat (pisN x.t))) = z) := Lib.hid (by
    have := HZ2.out
    rw [decide_eq_true hpa, HF.out, Bool.true_and, hps] at this
    rw [← hpa, hps, ← this]
    have e : decide (ps ≤ pisN x.t) = decide ((ps : Int) ≤ (pisN x.t : Int)) := by congr 1; apply propext; omega
    rw [e, ← hps])
  have HPY := Lib.hid (show y.a = (ps : Int) by rw [← hpa, hps])
  have HPS := Lib.hid hps
  clear HZ2 hpa hps
  go_enter Tryz.func188, Tryz.ntmps188
  go_wp2_with fail
  clear hX
  refine wp_region_held_drew (S := fun w' => w'.cell? ⟨w.heap.size, 8, none⟩ = some (.int .i64 j) ∧ w'.cell? ⟨w.heap.size, 10, none⟩ = some (.int .i64 x.a) ∧ w'.cell? ⟨b, o + j * 15 + 13, none⟩ = some (.slice q.C y.c.length q.cc) ∧ w'.cell? ⟨b, o + j * 15 + 10, none⟩ = some (.int .i64 y.a)) (by kernel_rfl) ?_ (fun hHeld => ?_)
  · exact HKB.out _ hbk.out
  refine tkp [0, 1, 2, 3, 4] ?_
  iterate 5 (refine tkq (v := ?_) (by rfl) (by kernel_rfl) (by exact fun _ _ _ h => h) (by rfl) (HKB.out _ hbk.out) ?_ ?_; rotate_left; (intro w hSw; (try dsimp only at hSw); go_simp; (try with_reducible rfl)); simp only [Act.put, List.setIfInBounds_toArray, List.set_cons_zero, List.set_cons_succ])
  refine tke ?_
  refine wpAnyH_ready (rs := [5]) (by kernel_rfl) (by simp) ?_
  refine AllReadyH.cons (o := ({ dst := some 20, op := Op.call { callee := Callee.value (Operand.func 136), args := #[Operand.tmp 17, Operand.tmp 19, Operand.const (Value.int IntKind.i64 1)], argTypes := #[22, 3, 3] }, type := 4, pos := "sign.go:231", after := #[{ on := 2, ground := Ground.data }, { on := 4, ground := Ground.data }], guard := none } : Oper)) rfl (fun K hK => ?_) AllReadyH.nil
  go_simp
  refine (CIS.out _ hbk.out).mono ?_; rintro e w3 ⟨rfl, rfl⟩
  try (dsimp only)
  try go_wp2_with fail
  refine hK.out _ _ (HKB.out _ hbk.out) (fun hHeld => ?_)
  clear hK K
  try simp only [Act.put, List.setIfInBounds_toArray, List.set_cons_zero, List.set_cons_succ]
  refine tkp [6, 7, 8, 9, 10, 11, 12, 13, 14] ?_
  iterate 9 (refine tkq (v := ?_) (by rfl) (by kernel_rfl) (by exact fun _ _ _ h => h) (by rfl) (HKB.out _ hbk.out) ?_ ?_; rotate_left; (intro w hSw; (try dsimp only at hSw); go_simp; (try with_reducible rfl)); simp only [Act.put, List.setIfInBounds_toArray, List.set_cons_zero, List.set_cons_succ])
  refine tke ?_
  refine wpAnyH_ready (rs := [15]) (by kernel_rfl) (by simp) ?_
  refine AllReadyH.cons (o := ({ dst := some 30, op := Op.call { callee := Callee.value (Operand.func 209), args := #[Operand.tmp 28, Operand.tmp 29], argTypes := #[41, 3] }, type := 4, pos := "sign.go:231", after := #[{ on := 13, ground := Ground.data }, { on := 14, ground := Ground.data }, { on := 7, ground := Ground.chain }, { on := 7, ground := Ground.guard }], guard := some (7, false) } : Oper)) rfl (fun K hK => ?_) AllReadyH.nil
  go_simp
  refine (CCO.out _ hbk.out).mono ?_; rintro e w4 ⟨rfl, rfl⟩
  try (dsimp only)
  try go_wp2_with fail
  refine hK.out _ _ (HKB.out _ hbk.out) (fun hHeld => ?_)
  clear hK K
  try simp only [Act.put, List.setIfInBounds_toArray, List.set_cons_zero, List.set_cons_succ]
  refine tkp [16, 17, 18, 19, 20, 21, 22, 23, 24, 25, 26, 27, 28] ?_
  iterate 13 (refine tkq (v := ?_) (by rfl) (by kernel_rfl) (by exact fun _ _ _ h => h) (by rfl) (HKB.out _ hbk.out) ?_ ?_; rotate_left; (intro w hSw; (try dsimp only at hSw); go_simp; (try with_reducible rfl)); simp only [Act.put, List.setIfInBounds_toArray, List.set_cons_zero, List.set_cons_succ])
  refine tke ?_
  refine wpAnyH_done (by kernel_rfl) ?_ _
  have CW := Lib.hid (fun (V : World) (hV : Below w.heap.size w V) => whole_any x.t p.T p.tc V (((HENT.out V hV).ht).wide (Nat.zero_le _) (by have := hV.size; omega)) (HSS.out V hV))
  unfold GivesS termV at CW
  obtain ⟨-, -, c2, c3, c4, -, -, -, c8, -, c10, -, -, -, -⟩ := KB.out _ hbk.out
  have HBY := Lib.hid (HBX.out.trans (hbk.out.mono HBX.out.size))
  have HWC := Lib.hid (whole_cases x.t)
  have HTF := Lib.hid (tel_facts HSH.out)
  obtain ⟨R, hR⟩ : ∃ R, wholeX x.t = R := ⟨_, rfl⟩
  rw [hR] at CW HWC
  clear hR CIS CCO HKB
  go_wp2_with fail
  refine (CW.out _ HBY.out).mono ?_
  rintro e w5 ⟨A1, c1, B1, d1, rfl, -, hru, hb5⟩
  have HB5 := Lib.hid (HBY.out.trans (hb5.mono HBY.out.size))
  have HBK5 := Lib.hid (hbk.out.trans (hb5.mono hbk.out.size))
  have HRU := Lib.hid hru
  clear hb5 hru CW c2 c3 c4 c8 c10
  obtain ⟨-, -, -, -, -, -, -, -, c8, -, c10, -, -, -, -⟩ := KB.out _ HBK5.out
  rw [HF.out] at c8
  rw [HPS.out] at c10
  have hsz5 : w.heap.size < w5.heap.size := by have := HBK5.out.size; have := HXS.out; omega
  have HB5A := Lib.hid (fun o => HB5.out.alloc HB5.out.size o)
  rcases HWC.out with ⟨hs, h24, hR⟩ | ⟨hno, c, hR, hc⟩
  · subst hR
    simp only at HRU
    have hlt := HTF.out.1
    obtain ⟨ts, hts⟩ : ∃ ts, telT x.t = ts := ⟨_, rfl⟩
    obtain ⟨u, hu⟩ : ∃ u, benT x.t = u := ⟨_, rfl⟩
    have HUS := Lib.hid (show shapedB u = true from by rw [← hu]; exact HTF.out.2.2.1)
    have HZ4 : Hid ((decide (ps ≤ ts.length) && appB u (j : Int) y.a.toNat y.i.toNat ts.length) = z) := Lib.hid (by
      have := HZ3.out
      rw [decide_eq_true h24, ← hlt, hts, hu] at this
      simpa using this)
    have htl : (ts.length : Int) ≤ 24 := by rw [← hts, hlt]; omega
    rw [hts]
    rw [hu] at HRU ⊢
    clear hlt hs h24 hts hu HWC HTF HZ3
    by_cases hpt : ps ≤ ts.length
    case neg =>
      have t5 : decide ((ts.length : Int) < (ps : Int)) = true := decide_eq_true (by omega)
      have t5' : decide (ts.length < ps) = true := decide_eq_true (by omega)
      have t5'' : ts.length < ps := by omega
      obtain rfl : z = false := by rw [← HZ4.out, decide_eq_false hpt]; rfl
      clear hpt
      go_wp2_with fail
      go_ret
      exact ⟨rfl, HB5A.out _⟩
    have t5 : decide ((ts.length : Int) < (ps : Int)) = false := decide_eq_false (by omega)
    have t5' : decide (ts.length < ps) = false := decide_eq_false (by omega)
    have t5'' : ¬ ts.length < ps := by omega
    have HZ5 : Hid (appB u (j : Int) y.a.toNat y.i.toNat ts.length = z) := Lib.hid (by have := HZ4.out; rw [decide_eq_true hpt, Bool.true_and] at this; exact this)
    obtain ⟨Y, hY⟩ : ∃ Y, w5.alloc (.cells #[.int .i64 u.k, .int .i64 u.n, .slice B1 u.l.length d1] 25) = Y := ⟨_, rfl⟩
    have HWY := Lib.hid (show Below w5.heap.size w5 Y from by rw [← hY]; exact (Below.refl _ _).alloc (Nat.le_refl _) _)
    have HKY := Lib.hid (show Bk Y w5.heap.size 25 #[.int .i64 u.k, .int .i64 u.n, .slice B1 u.l.length d1] from by rw [← hY]; exact Bk.new w5 _ _)
    have HBYY := Lib.hid (HB5.out.trans (HWY.out.mono HB5.out.size))
    obtain ⟨-, -, -, -, -, -, -, -, c8y, -, c10y, -, -, -, -⟩ := KB.out Y (HBK5.out.trans (HWY.out.mono HBK5.out.size))
    rw [HF.out] at c8y
    rw [HPS.out] at c10y
    have y0 := HKY.out.cell 0
    have y1 := HKY.out.cell 1
    have y2 := HKY.out.cell 2
    have hyl := HKY.out.lt
    change Y.cell? ⟨w5.heap.size, 0, none⟩ = some (.int .i64 u.k) at y0
    change Y.cell? ⟨w5.heap.size, 1, none⟩ = some (.int .i64 u.n) at y1
    change Y.cell? ⟨w5.heap.size, 2, none⟩ = some (.slice B1 u.l.length d1) at y2
    have CI2 := Lib.hid (CIN.out u B1 d1 ts.length w.heap.size w5.heap.size Y HBYY.out
      (IsTerm.kept (lo := w.heap.size) (hi := w5.heap.size) (HRU.out.imp (fun _ _ _ => rfl) (fun b hb => ⟨by have := hb.1; have := HBY.out.size; omega, hb.2⟩)) HWY.out (Nat.le_refl _)) (by omega) HUS.out (by rw [HPY.out]; omega) (by omega))
    rw [HZ5.out] at CI2
    unfold termV IndIs at CI2
    clear hpt HZ5 HZ4 HKY HRU CIN HND
    go_wp2_with fail
    clear hY
    refine CI2.out.mono ?_
    rintro e w6 ⟨A7, n7, c7, rfl, -, hb6⟩
    go_wp2_with fail
    go_ret
    exact ⟨rfl, HBYY.out.trans (hb6.mono HBYY.out.size)⟩
  · subst hR
    obtain rfl : z = false := by
      rw [← HZ3.out]
      rw [HSH.out, Bool.true_and] at hno
      rw [hno]; rfl
    have tc : (c != 0) = true := by rcases hc with rfl | rfl <;> rfl
    clear hno hc HZ3 HWC
    go_wp2_with fail
    go_ret
    exact ⟨rfl, HB5A.out _⟩

end Go.Proofs.YtchllgkgjompgaaGreatDoor
