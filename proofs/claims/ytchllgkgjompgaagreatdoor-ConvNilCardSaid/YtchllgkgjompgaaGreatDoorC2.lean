import Derived.Test.YtchllgkgjompgaaGreatDoorC1
import Derived.Deep.CutRange
import Derived.Deep.RegionHeld3
namespace Go.Proofs.YtchllgkgjompgaaGreatDoor
open Go.RowKit
set_option linter.unusedVariables false
set_option maxRecDepth 100000

theorem infoP : (Tryz.prog.info? 88).map (fun i => (i.zero, i.size)) = some (some (.agg #[.int .i64 0, .int .i64 0, .slice none 0 0, .int .i64 0, .int .i64 0, .slice none 0 0, .nilFunc]), 7) := by kernel_rfl
/-- Nothing appended to what has room. -/
theorem run_app0 {Q : Program} (w : World) (t ty e : TypeId) (i : TypeInfo) (z : Value) (ht : Q.underlying t = some (.slice e)) (hi : Q.info? e = some i) (hz : i.zero = some z) (ad : Addr) (n cap : Nat) (hn : n ≤ cap) :
    (Builtin.append_ #[t, t] ty #[.slice (some ad) n cap, .slice none 0 0]).run Q w = .ok (.slice (some ad) n cap) w := by
  simp [Builtin.append_, run_underlying ht, Go.sizeOf, typeInfo, hi, Builtin.lenOf, Builtin.firstCells, hn, storeCells]
theorem wpList_app0 {Q : Program} {w : World} {ops : Array Oper} {rest : List Oper} {o : Oper} {a : Act} {R : Exit → Act → World → Prop} (hgd : o.guard = none) (s x : Operand) (t : TypeId)
    (ho : o.op = .call { callee := .builtin .append, args := #[s, x], argTypes := #[t, t] })
    (e : TypeId) (i : TypeInfo) (z : Value) (ht : Q.underlying t = some (.slice e)) (hi : Q.info? e = some i) (hz : i.zero = some z) (ad : Addr) (n cap : Nat) (hn : n ≤ cap) (hv : a.eval s = .slice (some ad) n cap) (hx : a.eval x = .slice none 0 0)
    (h : wpList Q ops R rest (a.put o.dst (.slice (some ad) n cap)) w) : wpList Q ops R (o :: rest) a w :=
  wpList_plain hgd fun _ hK => by
    have hr := run_app0 w t o.type e i z ht hi hz ad n cap hn
    unfold Oper.wp execOp
    simp only [ho, resolve, invoke, builtin, Sem.run_bind, Sem.run_pure, Result.andThen_ok, List.map_toArray, List.map_cons, List.map_nil, hv, hx, hr]
    exact hK _ _ h
theorem revP_nil (w : World) : Calls Tryz.prog 104 #[.slice none 0 0] w fun e w' => e = .returned (.tuple #[]) ∧ w = w' := by
  go_enter Tryz.func104, Tryz.ntmps104
  go_wp2_with fail
  refine wp_loop_rounds 1 ?_
  rw [rounds_succ]
  go_wp2_with fail
  refine bodyPost_end (v := .tuple #[]) (by simp [results, Tryz.results104, go_sem]) rfl ?_
  exact ⟨rfl, rfl⟩

set_option maxHeartbeats 1000000 in
/-- The first pair errs. -/
theorem call_few (R : World → Prop) (M F : Option Addr) (gp : Nat) (a b : TM) (A B : Option Addr) (ca cb : Nat) (h : Value) (w : World) (hk : Bk w gp 88 #[.int .i64 a.k, .int .i64 a.n, .slice A a.l.length ca, .int .i64 b.k, .int .i64 b.n, .slice B b.l.length cb, h])
    (hP : ∀ V, Below w.heap.size w V → Calls Tryz.prog 103 #[.agg #[.pointer M, .pointer F], pairV a A ca b B cb h] V fun e w' => e = .returned (.tuple #[.slice none 0 0, .bool false, .int .i64 8]) ∧ R w') :
    Calls Tryz.prog 72 #[.agg #[.pointer M, .pointer F], .slice (some ⟨gp, 0, none⟩) 1 1] w fun e w' => e = .returned (.tuple #[.bool false, .int .i64 8]) ∧ R w' := by
  have CP := Lib.hid hP
  unfold pairV at CP
  obtain ⟨X, hX⟩ : ∃ X, w.alloc (.cells #[.pointer M, .pointer F] 84) = X := ⟨_, rfl⟩
  have HBX := Lib.hid (show Below w.heap.size w X from by rw [← hX]; exact (Below.refl _ _).alloc (Nat.le_refl _) _)
  have HKq := Lib.hid (show Bk X w.heap.size 84 #[.pointer M, .pointer F] from by rw [← hX]; exact Bk.new _ _ _)
  have HKp := Lib.hid (hk.below HBX.out hk.lt)
  have hpX := HKp.out.lt
  have HKK := Lib.hid (fun (V : World) (hV : Below X.heap.size X V) => (show (V.cell? ⟨w.heap.size, 0, none⟩ = some (.pointer M) ∧ V.cell? ⟨w.heap.size, 1, none⟩ = some (.pointer F)) ∧ V.cell? ⟨gp, 0, none⟩ = some (.int .i64 a.k) ∧ V.cell? ⟨gp, 1, none⟩ = some (.int .i64 a.n) ∧ V.cell? ⟨gp, 2, none⟩ = some (.slice A a.l.length ca) ∧ V.cell? ⟨gp, 3, none⟩ = some (.int .i64 b.k) ∧ V.cell? ⟨gp, 4, none⟩ = some (.int .i64 b.n) ∧ V.cell? ⟨gp, 5, none⟩ = some (.slice B b.l.length cb) ∧ V.cell? ⟨gp, 6, none⟩ = some h from by
    have k1 := HKq.out.below hV HKq.out.lt
    have k2 := HKp.out.below hV HKp.out.lt
    exact ⟨⟨k1.cell 0, k1.cell 1⟩, k2.cell 0, k2.cell 1, k2.cell 2, k2.cell 3, k2.cell 4, k2.cell 5, k2.cell 6⟩))
  obtain ⟨i0, hi0, hz0⟩ : ∃ i, Tryz.prog.info? 88 = some i ∧ i.zero = some (.agg #[.int .i64 0, .int .i64 0, .slice none 0 0, .int .i64 0, .int .i64 0, .slice none 0 0, .nilFunc]) := by
    have := infoP
    obtain ⟨i, h1, h2⟩ := Option.map_eq_some_iff.1 this
    exact ⟨i, h1, congrArg Prod.fst h2⟩
  have hbk0 := Lib.hid (show Below X.heap.size X X.drew from (Below.refl _ _).drew)
  have HXE := Lib.hid hX
  have hlq := HKq.out.lt
  clear hk hP hX
  go_enter Tryz.func72, Tryz.ntmps72
  go_wp2_with fail
  rw [HXE.out]
  refine wp_loop_rounds 2 ?_
  rw [rounds_succ]
  obtain ⟨⟨q0, q1⟩, p0, p1, p2, p3, p4, p5, p6⟩ := HKK.out X (Below.refl _ _)
  go_upto_region 4 with fail
  go_cut [8, 9, 10] from 18 to 26 (fun s8 s9 s10 wx => s8 = .slice none 0 0 ∧ s9 = .bool false ∧ s10 = .int .i64 8 ∧ R wx)
  case first =>
    clear q0 q1 p0 p1 p2 p3 p4 p5 p6
    obtain ⟨⟨q0, q1⟩, p0, p1, p2, p3, p4, p5, p6⟩ := HKK.out _ hbk0.out
    go_region_law
      (first
       | (go_simp; go_at_call 103; refine (CP.out _ (HBX.out.trans (hbk0.out.mono HBX.out.size))).mono ?_; rintro e w3 ⟨rfl, hr⟩; have HR := Lib.hid hr; clear hr))
    all_goals
      go_wp2_with fail
      go_meet
      case rel => exact ⟨rfl, rfl, rfl, HR.out⟩
  case rest =>
    obtain ⟨wg, rfl⟩ : ∃ wg : World, wg = wc := ⟨_, rfl⟩
    obtain ⟨rfl, rfl, rfl, hr⟩ := hcut
    have HR := Lib.hid hr
    clear hr
    go_wp2_with fail
    refine bodyPost_ret (v := .tuple #[.bool false, .int .i64 8]) (by simp [results, Tryz.results72, go_sem]) rfl ?_
    exact ⟨rfl, HR.out⟩

set_option maxHeartbeats 1000000 in
/-- The first pair does not hold. -/
theorem call_no (R : World → Prop) (M F : Option Addr) (gp : Nat) (a b : TM) (A B : Option Addr) (ca cb : Nat) (h : Value) (w : World) (hk : Bk w gp 88 #[.int .i64 a.k, .int .i64 a.n, .slice A a.l.length ca, .int .i64 b.k, .int .i64 b.n, .slice B b.l.length cb, h])
    (hP : ∀ V, Below w.heap.size w V → Calls Tryz.prog 103 #[.agg #[.pointer M, .pointer F], pairV a A ca b B cb h] V fun e w' => e = .returned (.tuple #[.slice none 0 0, .bool false, .int .i64 0]) ∧ R w') :
    Calls Tryz.prog 72 #[.agg #[.pointer M, .pointer F], .slice (some ⟨gp, 0, none⟩) 1 1] w fun e w' => e = .returned (.tuple #[.bool false, .int .i64 0]) ∧ R w' := by
  have CP := Lib.hid hP
  unfold pairV at CP
  obtain ⟨X, hX⟩ : ∃ X, w.alloc (.cells #[.pointer M, .pointer F] 84) = X := ⟨_, rfl⟩
  have HBX := Lib.hid (show Below w.heap.size w X from by rw [← hX]; exact (Below.refl _ _).alloc (Nat.le_refl _) _)
  have HKq := Lib.hid (show Bk X w.heap.size 84 #[.pointer M, .pointer F] from by rw [← hX]; exact Bk.new _ _ _)
  have HKp := Lib.hid (hk.below HBX.out hk.lt)
  have hpX := HKp.out.lt
  have HKK := Lib.hid (fun (V : World) (hV : Below X.heap.size X V) => (show (V.cell? ⟨w.heap.size, 0, none⟩ = some (.pointer M) ∧ V.cell? ⟨w.heap.size, 1, none⟩ = some (.pointer F)) ∧ V.cell? ⟨gp, 0, none⟩ = some (.int .i64 a.k) ∧ V.cell? ⟨gp, 1, none⟩ = some (.int .i64 a.n) ∧ V.cell? ⟨gp, 2, none⟩ = some (.slice A a.l.length ca) ∧ V.cell? ⟨gp, 3, none⟩ = some (.int .i64 b.k) ∧ V.cell? ⟨gp, 4, none⟩ = some (.int .i64 b.n) ∧ V.cell? ⟨gp, 5, none⟩ = some (.slice B b.l.length cb) ∧ V.cell? ⟨gp, 6, none⟩ = some h from by
    have k1 := HKq.out.below hV HKq.out.lt
    have k2 := HKp.out.below hV HKp.out.lt
    exact ⟨⟨k1.cell 0, k1.cell 1⟩, k2.cell 0, k2.cell 1, k2.cell 2, k2.cell 3, k2.cell 4, k2.cell 5, k2.cell 6⟩))
  obtain ⟨i0, hi0, hz0⟩ : ∃ i, Tryz.prog.info? 88 = some i ∧ i.zero = some (.agg #[.int .i64 0, .int .i64 0, .slice none 0 0, .int .i64 0, .int .i64 0, .slice none 0 0, .nilFunc]) := by
    have := infoP
    obtain ⟨i, h1, h2⟩ := Option.map_eq_some_iff.1 this
    exact ⟨i, h1, congrArg Prod.fst h2⟩
  have hbk0 := Lib.hid (show Below X.heap.size X X.drew from (Below.refl _ _).drew)
  have HXE := Lib.hid hX
  have hlq := HKq.out.lt
  clear hk hP hX
  go_enter Tryz.func72, Tryz.ntmps72
  go_wp2_with fail
  rw [HXE.out]
  refine wp_loop_rounds 2 ?_
  rw [rounds_succ]
  obtain ⟨⟨q0, q1⟩, p0, p1, p2, p3, p4, p5, p6⟩ := HKK.out X (Below.refl _ _)
  go_upto_region 4 with fail
  go_cut [8, 9, 10] from 18 to 26 (fun s8 s9 s10 wx => s8 = .slice none 0 0 ∧ s9 = .bool false ∧ s10 = .int .i64 0 ∧ R wx)
  case first =>
    clear q0 q1 p0 p1 p2 p3 p4 p5 p6
    obtain ⟨⟨q0, q1⟩, p0, p1, p2, p3, p4, p5, p6⟩ := HKK.out _ hbk0.out
    go_region_law
      (first
       | (go_simp; go_at_call 103; refine (CP.out _ (HBX.out.trans (hbk0.out.mono HBX.out.size))).mono ?_; rintro e w3 ⟨rfl, hr⟩; have HR := Lib.hid hr; clear hr))
    all_goals
      go_wp2_with fail
      go_meet
      case rel => exact ⟨rfl, rfl, rfl, HR.out⟩
  case rest =>
    obtain ⟨wg, rfl⟩ : ∃ wg : World, wg = wc := ⟨_, rfl⟩
    obtain ⟨rfl, rfl, rfl, hr⟩ := hcut
    have HR := Lib.hid hr
    clear hr
    go_wp2_with fail
    refine bodyPost_ret (v := .tuple #[.bool false, .int .i64 0]) (by simp [results, Tryz.results72, go_sem]) rfl ?_
    exact ⟨rfl, HR.out⟩

set_option maxHeartbeats 1000000 in
/-- The one pair holds, and leaves nothing. -/
theorem call_yes (R : World → Prop) (M F : Option Addr) (gp : Nat) (a b : TM) (A B : Option Addr) (ca cb : Nat) (h : Value) (w : World) (hk : Bk w gp 88 #[.int .i64 a.k, .int .i64 a.n, .slice A a.l.length ca, .int .i64 b.k, .int .i64 b.n, .slice B b.l.length cb, h])
    (hP : ∀ V, Below w.heap.size w V → Calls Tryz.prog 103 #[.agg #[.pointer M, .pointer F], pairV a A ca b B cb h] V fun e w' => e = .returned (.tuple #[.slice none 0 0, .bool true, .int .i64 0]) ∧ R w') :
    Calls Tryz.prog 72 #[.agg #[.pointer M, .pointer F], .slice (some ⟨gp, 0, none⟩) 1 1] w fun e w' => e = .returned (.tuple #[.bool true, .int .i64 0]) ∧ R w' := by
  have CP := Lib.hid hP
  unfold pairV at CP
  obtain ⟨X, hX⟩ : ∃ X, w.alloc (.cells #[.pointer M, .pointer F] 84) = X := ⟨_, rfl⟩
  have HBX := Lib.hid (show Below w.heap.size w X from by rw [← hX]; exact (Below.refl _ _).alloc (Nat.le_refl _) _)
  have HKq := Lib.hid (show Bk X w.heap.size 84 #[.pointer M, .pointer F] from by rw [← hX]; exact Bk.new _ _ _)
  have HKp := Lib.hid (hk.below HBX.out hk.lt)
  have hpX := HKp.out.lt
  have HKK := Lib.hid (fun (V : World) (hV : Below X.heap.size X V) => (show (V.cell? ⟨w.heap.size, 0, none⟩ = some (.pointer M) ∧ V.cell? ⟨w.heap.size, 1, none⟩ = some (.pointer F)) ∧ V.cell? ⟨gp, 0, none⟩ = some (.int .i64 a.k) ∧ V.cell? ⟨gp, 1, none⟩ = some (.int .i64 a.n) ∧ V.cell? ⟨gp, 2, none⟩ = some (.slice A a.l.length ca) ∧ V.cell? ⟨gp, 3, none⟩ = some (.int .i64 b.k) ∧ V.cell? ⟨gp, 4, none⟩ = some (.int .i64 b.n) ∧ V.cell? ⟨gp, 5, none⟩ = some (.slice B b.l.length cb) ∧ V.cell? ⟨gp, 6, none⟩ = some h from by
    have k1 := HKq.out.below hV HKq.out.lt
    have k2 := HKp.out.below hV HKp.out.lt
    exact ⟨⟨k1.cell 0, k1.cell 1⟩, k2.cell 0, k2.cell 1, k2.cell 2, k2.cell 3, k2.cell 4, k2.cell 5, k2.cell 6⟩))
  obtain ⟨i0, hi0, hz0⟩ : ∃ i, Tryz.prog.info? 88 = some i ∧ i.zero = some (.agg #[.int .i64 0, .int .i64 0, .slice none 0 0, .int .i64 0, .int .i64 0, .slice none 0 0, .nilFunc]) := by
    have := infoP
    obtain ⟨i, h1, h2⟩ := Option.map_eq_some_iff.1 this
    exact ⟨i, h1, congrArg Prod.fst h2⟩
  have hbk0 := Lib.hid (show Below X.heap.size X X.drew from (Below.refl _ _).drew)
  have HXE := Lib.hid hX
  have hlq := HKq.out.lt
  clear hk hP hX
  go_enter Tryz.func72, Tryz.ntmps72
  go_wp2_with fail
  rw [HXE.out]
  refine wp_loop_rounds 2 ?_
  rw [rounds_succ]
  obtain ⟨⟨q0, q1⟩, p0, p1, p2, p3, p4, p5, p6⟩ := HKK.out X (Below.refl _ _)
  go_upto_region 4 with fail
  go_cut [8, 9, 10] from 18 to 26 (fun s8 s9 s10 wx => s8 = .slice none 0 0 ∧ s9 = .bool true ∧ s10 = .int .i64 0 ∧ R wx)
  case first =>
    clear q0 q1 p0 p1 p2 p3 p4 p5 p6
    obtain ⟨⟨q0, q1⟩, p0, p1, p2, p3, p4, p5, p6⟩ := HKK.out _ hbk0.out
    go_region_law
      (first
       | (go_simp; go_at_call 103; refine (CP.out _ (HBX.out.trans (hbk0.out.mono HBX.out.size))).mono ?_; rintro e w3 ⟨rfl, hr⟩; have HR := Lib.hid hr; clear hr))
    all_goals
      go_wp2_with fail
      go_meet
      case rel => exact ⟨rfl, rfl, rfl, HR.out⟩
  case rest =>
    obtain ⟨wg, rfl⟩ : ∃ wg : World, wg = wc := ⟨_, rfl⟩
    obtain ⟨rfl, rfl, rfl, hr⟩ := hcut
    have HR := Lib.hid hr
    clear hr
    go_wp2_with fail
    refine (revP_nil _).mono ?_
    rintro e w4 ⟨rfl, rfl⟩
    go_wp2_with (at_builtin; refine wpList_app0 rfl (.tmp 38) (.tmp 39) 117 rfl 88 i0 _ Tryz.underlying117 hi0 hz0 ⟨gp, 0, none⟩ 0 1 (by decide) rfl rfl ?_)
    go_wp2_with fail
    rw [rounds_succ]
    go_wp2_with fail
    refine bodyPost_ret (v := .tuple #[.bool true, .int .i64 0]) (by simp [results, Tryz.results72, go_sem]) rfl ?_
    exact ⟨rfl, HR.out⟩



set_option maxHeartbeats 1000000 in
/-- The first one may not come. -/
theorem cask_shape (M F : Option Addr) (a b : TM) (A B : Option Addr) (ca cb : Nat) (h : Value) (w : World)
    (h1 : ∀ V, Below w.heap.size w V → Calls Tryz.prog 71 #[.agg #[.pointer M, .pointer F], termV a A ca] V fun e w' => e = .returned (.bool false) ∧ Below V.heap.size V w') :
    Calls Tryz.prog 47 #[.agg #[.pointer M, .pointer F], pairV a A ca b B cb h] w fun e w' => e = .returned (.tuple #[.bool false, .int .i64 5]) ∧ Below w.heap.size w w' := by
  have C1 := Lib.hid h1
  unfold termV at C1
  unfold pairV
  obtain ⟨X, hX⟩ : ∃ X, (w.alloc (.cells #[.pointer M, .pointer F] 84)).alloc (.cells #[.int .i64 a.k, .int .i64 a.n, .slice A a.l.length ca, .int .i64 b.k, .int .i64 b.n, .slice B b.l.length cb, h] 88) = X := ⟨_, rfl⟩
  have HBX := Lib.hid (show Below w.heap.size w X from by rw [← hX]; exact ((Below.refl _ _).alloc (Nat.le_refl _) _).alloc (by simp) _)
  have HKq := Lib.hid (show Bk X w.heap.size 84 #[.pointer M, .pointer F] from by rw [← hX]; exact (Bk.new _ _ _).alloc _)
  have HKp := Lib.hid (show Bk X (w.heap.size + 1) 88 #[.int .i64 a.k, .int .i64 a.n, .slice A a.l.length ca, .int .i64 b.k, .int .i64 b.n, .slice B b.l.length cb, h] from by rw [← hX]; exact Bk.last _ _ _ (by simp))
  have HKK := Lib.hid (fun (V : World) (hV : Below X.heap.size X V) => (show (V.cell? ⟨w.heap.size, 0, none⟩ = some (.pointer M) ∧ V.cell? ⟨w.heap.size, 1, none⟩ = some (.pointer F)) ∧ V.cell? ⟨w.heap.size + 1, 0, none⟩ = some (.int .i64 a.k) ∧ V.cell? ⟨w.heap.size + 1, 1, none⟩ = some (.int .i64 a.n) ∧ V.cell? ⟨w.heap.size + 1, 2, none⟩ = some (.slice A a.l.length ca) ∧ V.cell? ⟨w.heap.size + 1, 3, none⟩ = some (.int .i64 b.k) ∧ V.cell? ⟨w.heap.size + 1, 4, none⟩ = some (.int .i64 b.n) ∧ V.cell? ⟨w.heap.size + 1, 5, none⟩ = some (.slice B b.l.length cb) ∧ V.cell? ⟨w.heap.size + 1, 6, none⟩ = some h from by
    have k1 := HKq.out.below hV HKq.out.lt
    have k2 := HKp.out.below hV HKp.out.lt
    exact ⟨⟨k1.cell 0, k1.cell 1⟩, k2.cell 0, k2.cell 1, k2.cell 2, k2.cell 3, k2.cell 4, k2.cell 5, k2.cell 6⟩))
  have hlp := HKp.out.lt
  obtain ⟨⟨q0, q1⟩, p0, p1, p2, p3, p4, p5, p6⟩ := HKK.out X (Below.refl _ _)
  clear h1
  go_enter Tryz.func47, Tryz.ntmps47
  go_wp2_with fail
  refine (C1.out _ HBX.out).mono ?_
  rintro e w1 ⟨rfl, hb1⟩
  have HB1 := Lib.hid (HBX.out.trans (hb1.mono HBX.out.size))
  clear hb1 hX q0 q1 p0 p1 p2 p3 p4 p5 p6
  go_wp2_with fail
  refine bodyPost_ret (v := .tuple #[.bool false, .int .i64 5]) (by simp [results, Tryz.results47, go_sem]) rfl ?_
  exact ⟨rfl, HB1.out⟩

set_option maxHeartbeats 1000000 in
/-- Both may come: what all says. -/
theorem cask_go (R : World → Prop) (z : Bool) (q : Int) (M F : Option Addr) (a b : TM) (A B : Option Addr) (ca cb : Nat) (h : Value) (w : World)
    (h1 : ∀ V, Below w.heap.size w V → Calls Tryz.prog 71 #[.agg #[.pointer M, .pointer F], termV a A ca] V fun e w' => e = .returned (.bool true) ∧ Below V.heap.size V w')
    (h2 : ∀ V, Below w.heap.size w V → Calls Tryz.prog 71 #[.agg #[.pointer M, .pointer F], termV b B cb] V fun e w' => e = .returned (.bool true) ∧ Below V.heap.size V w')
    (h3 : ∀ V gp, Below w.heap.size w V → Bk V gp 88 #[.int .i64 a.k, .int .i64 a.n, .slice A a.l.length ca, .int .i64 b.k, .int .i64 b.n, .slice B b.l.length cb, h] → Calls Tryz.prog 72 #[.agg #[.pointer M, .pointer F], .slice (some ⟨gp, 0, none⟩) 1 1] V fun e w' => e = .returned (.tuple #[.bool z, .int .i64 q]) ∧ R w') :
    Calls Tryz.prog 47 #[.agg #[.pointer M, .pointer F], pairV a A ca b B cb h] w fun e w' => e = .returned (.tuple #[.bool z, .int .i64 q]) ∧ R w' := by
  have C1 := Lib.hid h1
  have C2 := Lib.hid h2
  have C3 := Lib.hid h3
  unfold termV at C1 C2
  unfold pairV
  obtain ⟨X, hX⟩ : ∃ X, (w.alloc (.cells #[.pointer M, .pointer F] 84)).alloc (.cells #[.int .i64 a.k, .int .i64 a.n, .slice A a.l.length ca, .int .i64 b.k, .int .i64 b.n, .slice B b.l.length cb, h] 88) = X := ⟨_, rfl⟩
  have HBX := Lib.hid (show Below w.heap.size w X from by rw [← hX]; exact ((Below.refl _ _).alloc (Nat.le_refl _) _).alloc (by simp) _)
  have HKq := Lib.hid (show Bk X w.heap.size 84 #[.pointer M, .pointer F] from by rw [← hX]; exact (Bk.new _ _ _).alloc _)
  have HKp := Lib.hid (show Bk X (w.heap.size + 1) 88 #[.int .i64 a.k, .int .i64 a.n, .slice A a.l.length ca, .int .i64 b.k, .int .i64 b.n, .slice B b.l.length cb, h] from by rw [← hX]; exact Bk.last _ _ _ (by simp))
  have HKK := Lib.hid (fun (V : World) (hV : Below X.heap.size X V) => (show (V.cell? ⟨w.heap.size, 0, none⟩ = some (.pointer M) ∧ V.cell? ⟨w.heap.size, 1, none⟩ = some (.pointer F)) ∧ V.cell? ⟨w.heap.size + 1, 0, none⟩ = some (.int .i64 a.k) ∧ V.cell? ⟨w.heap.size + 1, 1, none⟩ = some (.int .i64 a.n) ∧ V.cell? ⟨w.heap.size + 1, 2, none⟩ = some (.slice A a.l.length ca) ∧ V.cell? ⟨w.heap.size + 1, 3, none⟩ = some (.int .i64 b.k) ∧ V.cell? ⟨w.heap.size + 1, 4, none⟩ = some (.int .i64 b.n) ∧ V.cell? ⟨w.heap.size + 1, 5, none⟩ = some (.slice B b.l.length cb) ∧ V.cell? ⟨w.heap.size + 1, 6, none⟩ = some h from by
    have k1 := HKq.out.below hV HKq.out.lt
    have k2 := HKp.out.below hV HKp.out.lt
    exact ⟨⟨k1.cell 0, k1.cell 1⟩, k2.cell 0, k2.cell 1, k2.cell 2, k2.cell 3, k2.cell 4, k2.cell 5, k2.cell 6⟩))
  have hlp := HKp.out.lt
  obtain ⟨⟨q0, q1⟩, p0, p1, p2, p3, p4, p5, p6⟩ := HKK.out X (Below.refl _ _)
  clear h1 h2 h3
  go_enter Tryz.func47, Tryz.ntmps47
  go_wp2_with fail
  refine (C1.out _ HBX.out).mono ?_
  rintro e w1 ⟨rfl, hb1⟩
  have HB1 := Lib.hid hb1
  clear hb1 hX q0 q1 p0 p1 p2 p3 p4 p5 p6
  obtain ⟨⟨q0, q1⟩, p0, p1, p2, p3, p4, p5, p6⟩ := HKK.out w1 HB1.out
  go_wp2_with fail
  refine (C2.out _ (HBX.out.trans (HB1.out.mono HBX.out.size))).mono ?_
  rintro e w2 ⟨rfl, hb2⟩
  have HB2 := Lib.hid (HB1.out.trans (hb2.mono HB1.out.size))
  clear hb2 q0 q1 p0 p1 p2 p3 p4 p5 p6
  obtain ⟨⟨q0, q1⟩, p0, p1, p2, p3, p4, p5, p6⟩ := HKK.out w2 HB2.out
  go_wp2_with fail
  refine (C3.out _ w2.heap.size ((HBX.out.trans (HB2.out.mono HBX.out.size)).alloc (by have := HBX.out.size; have := HB2.out.size; omega) _) (Bk.new _ _ _)).mono ?_
  rintro e w3 ⟨rfl, hr⟩
  have HR := Lib.hid hr
  clear hr q0 q1 p0 p1 p2 p3 p4 p5 p6
  go_wp2_with fail
  refine bodyPost_ret (v := .tuple #[.bool z, .int .i64 q]) (by simp [results, Tryz.results47, go_sem]) rfl ?_
  exact ⟨rfl, HR.out⟩

set_option maxHeartbeats 1000000 in
theorem cSame_go (R : World → Prop) (z : Bool) (q : Int) (M F : Option Addr) (a b : TM) (A B : Option Addr) (ca cb : Nat) (w : World)
    (h1 : ∀ V, Below w.heap.size w V → Calls Tryz.prog 47 #[.agg #[.pointer M, .pointer F], pairV a A ca b B cb sameF] V fun e w' => e = .returned (.tuple #[.bool z, .int .i64 q]) ∧ R w') :
    Calls Tryz.prog 24 #[.pointer M, termV a A ca, termV b B cb, .pointer F] w fun e w' => e = .returned (.tuple #[.bool z, .int .i64 q]) ∧ R w' := by
  have C1 := Lib.hid h1
  have CS := Lib.hid (fun (V : World) => csame_any a b A B ca cb V)
  unfold termV pairV at CS
  unfold pairV at C1
  unfold termV
  obtain ⟨X, hX⟩ : ∃ X, (w.alloc (.cells #[.int .i64 a.k, .int .i64 a.n, .slice A a.l.length ca] 25)).alloc (.cells #[.int .i64 b.k, .int .i64 b.n, .slice B b.l.length cb] 25) = X := ⟨_, rfl⟩
  have HBX := Lib.hid (show Below w.heap.size w X from by rw [← hX]; exact ((Below.refl _ _).alloc (Nat.le_refl _) _).alloc (by simp) _)
  have HKa := Lib.hid (show Bk X w.heap.size 25 #[.int .i64 a.k, .int .i64 a.n, .slice A a.l.length ca] from by rw [← hX]; exact (Bk.new _ _ _).alloc _)
  have HKb := Lib.hid (show Bk X (w.heap.size + 1) 25 #[.int .i64 b.k, .int .i64 b.n, .slice B b.l.length cb] from by rw [← hX]; exact Bk.last _ _ _ (by simp))
  have a0 : X.cell? ⟨w.heap.size, 0, none⟩ = some (.int .i64 a.k) := HKa.out.cell 0
  have a1 : X.cell? ⟨w.heap.size, 1, none⟩ = some (.int .i64 a.n) := HKa.out.cell 1
  have a2 : X.cell? ⟨w.heap.size, 2, none⟩ = some (.slice A a.l.length ca) := HKa.out.cell 2
  have b0 : X.cell? ⟨w.heap.size + 1, 0, none⟩ = some (.int .i64 b.k) := HKb.out.cell 0
  have b1 : X.cell? ⟨w.heap.size + 1, 1, none⟩ = some (.int .i64 b.n) := HKb.out.cell 1
  have b2 : X.cell? ⟨w.heap.size + 1, 2, none⟩ = some (.slice B b.l.length cb) := HKb.out.cell 2
  clear h1
  go_enter Tryz.func24, Tryz.ntmps24
  go_wp2_with fail
  refine (CS.out _).mono ?_
  rintro e w1 ⟨rfl, hb1⟩
  have HB1 := Lib.hid (HBX.out.trans (hb1.mono HBX.out.size))
  clear hb1 hX a0 a1 a2 b0 b1 b2
  go_wp2_with fail
  refine (C1.out _ HB1.out).mono ?_
  rintro e w2 ⟨rfl, hr⟩
  have HR := Lib.hid hr
  clear hr
  go_wp2_with fail
  refine bodyPost_ret (v := .tuple #[.bool z, .int .i64 q]) (by simp [results, Tryz.results24, go_sem]) rfl ?_
  exact ⟨rfl, HR.out⟩

set_option maxHeartbeats 1000000 in
theorem cMost_go (R : World → Prop) (z : Bool) (q : Int) (M F : Option Addr) (a b : TM) (A B : Option Addr) (ca cb : Nat) (w : World)
    (h1 : ∀ V, Below w.heap.size w V → Calls Tryz.prog 47 #[.agg #[.pointer M, .pointer F], pairV a A ca b B cb mostF] V fun e w' => e = .returned (.tuple #[.bool z, .int .i64 q]) ∧ R w') :
    Calls Tryz.prog 25 #[.pointer M, termV a A ca, termV b B cb, .pointer F] w fun e w' => e = .returned (.tuple #[.bool z, .int .i64 q]) ∧ R w' := by
  have C1 := Lib.hid h1
  have CS := Lib.hid (fun (V : World) => cmost_any a b A B ca cb V)
  unfold termV pairV at CS
  unfold pairV at C1
  unfold termV
  obtain ⟨X, hX⟩ : ∃ X, (w.alloc (.cells #[.int .i64 a.k, .int .i64 a.n, .slice A a.l.length ca] 25)).alloc (.cells #[.int .i64 b.k, .int .i64 b.n, .slice B b.l.length cb] 25) = X := ⟨_, rfl⟩
  have HBX := Lib.hid (show Below w.heap.size w X from by rw [← hX]; exact ((Below.refl _ _).alloc (Nat.le_refl _) _).alloc (by simp) _)
  have HKa := Lib.hid (show Bk X w.heap.size 25 #[.int .i64 a.k, .int .i64 a.n, .slice A a.l.length ca] from by rw [← hX]; exact (Bk.new _ _ _).alloc _)
  have HKb := Lib.hid (show Bk X (w.heap.size + 1) 25 #[.int .i64 b.k, .int .i64 b.n, .slice B b.l.length cb] from by rw [← hX]; exact Bk.last _ _ _ (by simp))
  have a0 : X.cell? ⟨w.heap.size, 0, none⟩ = some (.int .i64 a.k) := HKa.out.cell 0
  have a1 : X.cell? ⟨w.heap.size, 1, none⟩ = some (.int .i64 a.n) := HKa.out.cell 1
  have a2 : X.cell? ⟨w.heap.size, 2, none⟩ = some (.slice A a.l.length ca) := HKa.out.cell 2
  have b0 : X.cell? ⟨w.heap.size + 1, 0, none⟩ = some (.int .i64 b.k) := HKb.out.cell 0
  have b1 : X.cell? ⟨w.heap.size + 1, 1, none⟩ = some (.int .i64 b.n) := HKb.out.cell 1
  have b2 : X.cell? ⟨w.heap.size + 1, 2, none⟩ = some (.slice B b.l.length cb) := HKb.out.cell 2
  clear h1
  go_enter Tryz.func25, Tryz.ntmps25
  go_wp2_with fail
  refine (CS.out _).mono ?_
  rintro e w1 ⟨rfl, hb1⟩
  have HB1 := Lib.hid (HBX.out.trans (hb1.mono HBX.out.size))
  clear hb1 hX a0 a1 a2 b0 b1 b2
  go_wp2_with fail
  refine (C1.out _ HB1.out).mono ?_
  rintro e w2 ⟨rfl, hr⟩
  have HR := Lib.hid hr
  clear hr
  go_wp2_with fail
  refine bodyPost_ret (v := .tuple #[.bool z, .int .i64 q]) (by simp [results, Tryz.results25, go_sem]) rfl ?_
  exact ⟨rfl, HR.out⟩


end Go.Proofs.YtchllgkgjompgaaGreatDoor
