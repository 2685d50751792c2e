import Derived.Test.YtondjkeakfkefaaGreatDoorN1
import Derived.Deep.RegionHeld3
namespace Go.Proofs.YtondjkeakfkefaaGreatDoor
open Go.RowKit
set_option linter.unusedVariables false
set_option maxRecDepth 100000

def CloneL (lo : Nat) (ts : List TM) (w : World) (e : Ending) (w' : World) : Prop :=
  ∃ a c ps, e = .returned (.slice a ps.length c) ∧ TermRow w' w.heap.size 25 (.slice a ps.length c) ps (fun b => lo ≤ b ∧ b < w.heap.size) ∧ ps.map (·.1) = ts ∧ Below w.heap.size w w'
set_option maxHeartbeats 2000000 in
theorem cloneL_any (lo : Nat) (ts : List TM) (A : Option Addr) (cap : Nat) (w : World) (h : IsTerms w lo w.heap.size ts A cap) (hlen : ts.length ≤ 8000) :
    Calls Tryz.prog 81 #[.slice A ts.length cap] w (CloneL lo ts w) := by
  obtain ⟨i0, hi0, hz0, hz1, hz2⟩ := info_parts infoM
  obtain ⟨ps, hps, hpl, hpn, hpc⟩ := terms_row h
  have q22 : ∀ (w : World) (a : Option Addr) (n c n' c' : Nat), (binOp .eql 23 (.slice a n c) (.slice none n' c')).run Tryz.prog w = .ok (.bool a.isNone) w := fun w a n c n' c' => Lib.run_eql_slice_nil w _ _ a n c n' c' Tryz.underlying23
  have HPS := Lib.hid hps
  have HPL := Lib.hid hpl
  have HPN := Lib.hid hpn
  have HPC := Lib.hid hpc
  have HLN := Lib.hid hlen
  clear h hps hpl hpn hpc hlen
  cases A with
  | none =>
    have hz : ts.length = 0 := by
      cases ht : ts.length with
      | zero => rfl
      | succ m => obtain ⟨b, o, hA, _⟩ := HPC.out (by omega); cases hA
    have hnil : ts = [] := List.length_eq_zero_iff.1 hz
    subst hnil
    have hpn2 : ps = [] := List.length_eq_zero_iff.1 (by rw [HPL.out]; rfl)
    subst hpn2
    clear hz
    simp only [List.length_nil]
    go_enter Tryz.func81, Tryz.ntmps81
    go_wp2_with fail
    go_ret
    exact ⟨none, 0, [], rfl, ⟨World.ownsRow_nil _ _ _ _, fun b hb => ⟨hb.2, fun e => by cases e⟩, fun _ h => by cases h⟩, rfl, Below.refl _ _⟩
  | some ad =>
    have HOM := Lib.hid (show (w.alloc (.cells #[] 25)).ownsRow w.heap.size 25 3 (.slice (some ⟨w.heap.size, 0, none⟩) 0 0) 0 [] from World.ownsRow_made w #[] 0 (Nat.le_refl _) (Nat.zero_le _) rfl)
    have HB1 := Lib.hid (show Below w.heap.size w (w.alloc (.cells #[] 25)) from (Below.refl _ _).alloc (Nat.le_refl _) _)
    have HSRC : Hid (Src (w.alloc (.cells #[] 25)) 3 (some ad) ts.length (flatM ps)) := Lib.hid ⟨by rw [flatM_len, HPL.out], fun h0 => by
      obtain ⟨b, o, hA, hb, hc⟩ := HPC.out h0
      refine ⟨ad, rfl, fun j u hj => ?_⟩
      injection hA with hA
      subst hA
      rw [Addr.add_lit]
      exact (HB1.out.cell (p := ⟨b, o + j, none⟩) hb.2).trans (hc j u hj)⟩
    have hml : ts.length ≤ 8000 := HLN.out
    go_enter Tryz.func81, Tryz.ntmps81
    go_wp2_with (at_builtin; refine wpList_app rfl _ _ 23 rfl w.heap.size 25 i0 (.agg #[.int .i64 0, .int .i64 0, .slice none 0 0]) 3 40 Tryz.underlying23 hi0 hz0 hz1 hz2 rfl (by decide) _ _ _ rfl HOM.out (some ad) ts.length cap (flatM ps) rfl HSRC.out (flatM_one _) ?c3 ?c4 ?c5 ?_)
    case c3 => unfold maxLen; omega
    case c4 => omega
    case c5 => simp
    rintro v2 w4 ⟨ha1, ha2, ha3⟩
    obtain ⟨a4, c4, rfl⟩ := own_sliceM ha1
    have hlt := ha1.lt
    have HBF := Lib.hid (HB1.out.grown ha2 (by simp) (fun g e => by simp [Value.ownBlock] at e; omega))
    have HRW := Lib.hid (show TermRow w4 w.heap.size 25 (.slice a4 ps.length c4) ps (fun b => lo ≤ b ∧ b < w.heap.size) from by
      have hs := HBF.out.size
      refine ⟨by rw [HPL.out]; exact ha1, fun b hb => ⟨by have := hb.2; omega, fun e => by have := hb.2; have := hlt b (by rw [HPL.out] at e; exact e); omega⟩, fun p hp => (HPN.out p hp).imp (fun b o hb => HBF.out.cell (p := ⟨b, o, none⟩) hb.2) (fun b hb => hb)⟩)
    clear ha1 ha2 ha3 hlt
    go_wp2_with fail
    go_ret
    exact ⟨a4, c4, ps, by rw [HPL.out]; rfl, HRW.out, HPS.out, HBF.out⟩

theorem TermIn.kn {w : World} {P : Nat → Prop} {k n : Int} {l : List TM} {A : Option Addr} {cap : Nat} (h : TermIn w P (.node k n l) A cap) (k' n' : Int) : TermIn w P (.node k' n' l) A cap := by
  cases h with
  | mk _ _ _ _ _ F C hl hm hc hn => exact .mk k' n' l A cap F C hl hm hc hn
/-- Two terms that a call put into a row of its own: a leaf, and the redex. -/
def RowIs (lo : Nat) (w : World) (e : Ending) (w' : World) : Prop :=
  ∃ g cc r A0 c0 A1 c1, e = .returned (.slice (some ⟨g, 0, none⟩) 2 cc) ∧ Bk w' g 25 (rowV A0 c0 A1 c1 r) ∧ w.heap.size ≤ g ∧ 2 ≤ cc ∧ c0 ≤ maxLen ∧ IsTerm w' lo g aT A1 c1 ∧ Below w.heap.size w w'
theorem row_of {lo : Nat} {w w' : World} {e : Ending} (h : CloneL lo [aS, aT] w e w') : RowIs lo w e w' := by
  obtain ⟨a, cc, ps, rfl, hrow, hps, hb⟩ := h
  obtain ⟨p0, p1, rfl⟩ : ∃ p0 p1, ps = [p0, p1] := by
    rcases ps with _ | ⟨p0, _ | ⟨p1, _ | ⟨p2, l⟩⟩⟩ <;> first | exact ⟨p0, p1, rfl⟩ | (simp at hps)
  obtain ⟨t0, A0, c0⟩ := p0
  obtain ⟨t1, A1, c1⟩ := p1
  simp only [List.map_cons, List.map_nil, List.cons.injEq, and_true] at hps
  obtain ⟨rfl, rfl⟩ := hps
  have n0 := hrow.node (aS, A0, c0) (by simp)
  have n1 := hrow.node (aT, A1, c1) (by simp)
  obtain ⟨h1, h2⟩ := hrow.row
  rcases h2 with ⟨h2, h3⟩ | ⟨g, cap, cur, h2, h3, h4, h5, h6, h7, h8⟩
  · simp at h3
  · injection h2 with q1 q2 q3
    subst q1
    subst q3
    have hcur : cur = rowV A0 c0 A1 c1 (cur.toList.drop 6) := by
      have e1 : cur.toList = flatM [(aS, A0, c0), (aT, A1, c1)] ++ cur.toList.drop 6 := by
        rw [← h8]
        exact (List.take_append_drop 6 cur.toList).symm
      apply Array.toList_inj.1
      rw [e1]
      rfl
    exact ⟨g, cc, _, A0, c0, A1, c1, rfl, by rw [← hcur]; exact h4, h3, h5, n0.bounds.2, n1.imp (fun _ _ _ => rfl) (fun b h' => ⟨h'.1, Nat.lt_of_lt_of_le h'.2 h3⟩), hb⟩
theorem parts_lam (lo : Nat) (G : Option Addr) (c : Nat) (w : World) (h : IsTerm w lo w.heap.size lamT G c) : Calls Tryz.prog 56 #[.agg #[.int .i64 4, .int .i64 0, .slice G 2 c]] w (RowIs lo w) := by
  have hh : IsTerm w lo w.heap.size (.node 0 0 [aS, aT]) G c := TermIn.kn h 0 0
  have CC := Lib.hid (fun (V : World) (hV : Below w.heap.size w V) => cloneL_any lo [aS, aT] G c V ((hh.kept hV (Nat.le_refl _)).wide (Nat.le_refl _) hV.size) (by decide))
  have CC := Lib.hid (fun (V : World) (hV : Below w.heap.size w V) => (show Calls Tryz.prog 81 #[.slice G 2 c] V (RowIs lo V) from (CC.out V hV).mono fun _ _ h => row_of h))
  unfold RowIs at CC ⊢
  obtain ⟨X, hX⟩ : ∃ X, w.alloc (.cells #[.int .i64 4, .int .i64 0, .slice G 2 c] 25) = X := ⟨_, rfl⟩
  have HBX := Lib.hid (show Below w.heap.size w X from by rw [← hX]; exact (Below.refl _ _).alloc (Nat.le_refl _) _)
  have HKt := Lib.hid (show Bk X w.heap.size 25 #[.int .i64 4, .int .i64 0, .slice G 2 c] from by rw [← hX]; exact Bk.new _ _ _)
  have x0 : X.cell? ⟨w.heap.size, 0, none⟩ = some (.int .i64 4) := HKt.out.cell 0
  have x1 : X.cell? ⟨w.heap.size, 1, none⟩ = some (.int .i64 0) := HKt.out.cell 1
  have x2 : X.cell? ⟨w.heap.size, 2, none⟩ = some (.slice G 2 c) := HKt.out.cell 2
  clear h hh
  go_enter Tryz.func56, Tryz.ntmps56
  go_wp2_with fail
  refine (CC.out _ HBX.out).mono ?_
  rintro e w1 ⟨g, cc, r, A0, c0, A1, c1, rfl, hr, hg, hcc, hc0, h1, hb⟩
  go_wp2_with fail
  go_ret
  exact ⟨g, cc, r, A0, c0, A1, c1, rfl, hr, Nat.le_trans HBX.out.size hg, hcc, hc0, h1, HBX.out.trans (hb.mono HBX.out.size)⟩

def lamS : TM := .node 4 0 [aS, aS]
def rowS (A0 : Option Addr) (c0 : Nat) (A1 : Option Addr) (c1 : Nat) (r : List Value) : Array Value := (.int .i64 2 :: .int .i64 2 :: .slice A0 0 c0 :: .int .i64 2 :: .int .i64 2 :: .slice A1 0 c1 :: r).toArray
theorem joined_lam (G A0 A1 : Option Addr) (c c0 c1 g cc : Nat) (r : List Value) (w : World) (hr : Bk w g 25 (rowS A0 c0 A1 c1 r)) (hcc : 2 ≤ cc) (h0 : c0 ≤ maxLen) (h1 : c1 ≤ maxLen) :
    Calls Tryz.prog 58 #[.agg #[.int .i64 4, .int .i64 0, .slice G 2 c], .slice (some ⟨g, 0, none⟩) 2 cc] w fun e w' => ∃ H, e = .returned (.agg #[.int .i64 4, .int .i64 0, .slice H 2 2]) ∧ IsTerm w' w.heap.size w'.heap.size lamS H 2 ∧ Below w.heap.size w w' := by
  have hg := hr.lt
  obtain ⟨X, hX⟩ : ∃ X, (w.alloc (.cells #[.int .i64 4, .int .i64 0, .slice G 2 c] 25)).alloc (.cells #[.int .i64 0, .int .i64 0, .slice none 0 0] 25) = X := ⟨_, rfl⟩
  have HBX := Lib.hid (show Below w.heap.size w X from by rw [← hX]; exact ((Below.refl _ _).alloc (Nat.le_refl _) _).alloc (by simp) _)
  have HKt := Lib.hid (show Bk X w.heap.size 25 #[.int .i64 4, .int .i64 0, .slice G 2 c] from by rw [← hX]; exact (Bk.new _ _ _).alloc _)
  have HKr := Lib.hid (show Bk X (w.heap.size + 1) 25 #[.int .i64 0, .int .i64 0, .slice none 0 0] from by rw [← hX]; exact Bk.last _ _ _ (by simp))
  have x0 : X.cell? ⟨w.heap.size, 0, none⟩ = some (.int .i64 4) := HKt.out.cell 0
  have x1 : X.cell? ⟨w.heap.size, 1, none⟩ = some (.int .i64 0) := HKt.out.cell 1
  have x2 : X.cell? ⟨w.heap.size, 2, none⟩ = some (.slice G 2 c) := HKt.out.cell 2
  have HR := Lib.hid (fun (V : World) (hV : Below X.heap.size X V) => (show Bk V g 25 (rowS A0 c0 A1 c1 r) from (hr.below HBX.out hg).below hV (by have := HBX.out.size; omega)))
  have HK := Lib.hid (fun (V : World) (hV : Below X.heap.size X V) => (show (∀ q, V.frozen? ⟨w.heap.size + 1, q, none⟩ = false) ∧ V.cell? ⟨w.heap.size + 1, 0, none⟩ = some (.int .i64 0) ∧ V.cell? ⟨w.heap.size + 1, 1, none⟩ = some (.int .i64 0) ∧ V.cell? ⟨w.heap.size + 1, 2, none⟩ = some (.slice none 0 0) from by
    have k := HKr.out.below hV HKr.out.lt
    exact ⟨fun q => k.cold q, k.cell 0, k.cell 1, k.cell 2⟩))
  have CL := Lib.hid (fun (V : World) => mk_lam 2 2 2 2 A0 A1 0 0 c0 c1 V)
  unfold TwoIs at CL
  clear hr
  go_enter Tryz.func58, Tryz.ntmps58
  go_upto_region 5 with fail
  have hbk := Lib.hid ((Below.refl X.heap.size X).drew)
  clear hX x0 x1 x2
  obtain ⟨l0, l1, l2, l3, l4, l5⟩ := (HR.out _ hbk.out).c6
  obtain ⟨hfr, r0, r1, r2⟩ := HK.out _ hbk.out
  go_region_law
    (first
     | (go_simp; go_at_call 85; refine (CL.out _).mono ?_; rintro e w3 ⟨H, rfl, hH, hk3, hbn⟩; have HQH := Lib.hid (Nat.le_trans hbk.out.size hH); have HK3 := Lib.hid hk3; have hbk := Lib.hid (hbk.out.trans (hbn.mono hbk.out.size)); clear hbn hk3 l0 l1 l2 l3 l4 l5 hfr r0 r1 r2; obtain ⟨l0, l1, l2, l3, l4, l5⟩ := (HR.out _ hbk.out).c6; obtain ⟨hfr, r0, r1, r2⟩ := HK.out _ hbk.out))
  all_goals
    have hzb := hbk.out.size
    have Kr := HKr.out.below hbk.out HKr.out.lt
    have B5 := ((Kr.at_ 0 (.int .i64 4)).at_ 1 (.int .i64 0)).at_ 2 (.slice (some ⟨H, 0, none⟩) 2 2)
    have HS0 := Lib.hid (B5.cell 0)
    have HS1 := Lib.hid (B5.cell 1)
    have HS2 := Lib.hid (B5.cell 2)
    have HB3 := Lib.hid (HBX.out.trans (hbk.out.mono HBX.out.size))
    have hlK := HKr.out.lt
    clear Kr B5 l0 l1 l2 l3 l4 l5
    go_wp2_with fail
    refine bodyPost_ret (v := .agg #[.int .i64 4, .int .i64 0, .slice (some ⟨H, 0, none⟩) 2 2]) (by simp [results, Tryz.results58, go_sem, HS0.out, HS1.out, HS2.out]) rfl ?_
    have hn : H ≠ w.heap.size + 1 := by have := HQH.out; omega
    have K6 := (((HK3.out.far (a := ⟨w.heap.size + 1, 0, none⟩) hn (.int .i64 4)).far (a := ⟨w.heap.size + 1, 1, none⟩) hn (.int .i64 0)).far (a := ⟨w.heap.size + 1, 2, none⟩) hn (.slice (some ⟨H, 0, none⟩) 2 2))
    exact ⟨some ⟨H, 0, none⟩, rfl, two_in (t := aS) (u := aS) (leafAt _ _ 2 2 A0 h0) (leafAt _ _ 2 2 A1 h1) K6 ⟨by have := HQH.out; have := HBX.out.size; omega, K6.lt⟩ 4 0, Below.st (q := 2) (Below.st (q := 1) (Below.st (q := 0) HB3.out (g := w.heap.size + 1) (by omega) _) (g := w.heap.size + 1) (by omega) _) (g := w.heap.size + 1) (by omega) _⟩


theorem Mt.up2 {w w' : World} {a b c : Nat} {f l : Int} (h : Mt w c f l) (hu : Up2 a b w w') (h1 : c ≠ a) (h2 : c ≠ b) : Mt w' c f l := (hu.block c h.lt h1 h2).trans h
theorem Up2.ofZ {a b : Nat} {w Z V : World} (h : Up2 a b w Z) (k : Up b Z V) : Up2 a b w V := h.trans (Up2.ofB k)
set_option maxHeartbeats 4000000 in
theorem build_leaf (t : TM) (A : Option Addr) (cap gb g gf : Nat) (n d f lf lf' : Int) (w : World) (hne : gb ≠ gf) (hn : 0 ≤ n ∧ n ≤ 1000) (hd : 0 ≤ d ∧ d ≤ 128)
    (hk : Bk w gb 73 (bldV (some ⟨g, 0, none⟩) (some ⟨gf, 0, none⟩) n false)) (hm : Mt w gf f lf)
    (hbr : ∀ V, Up2 gb gf w V → Mt V gf f lf → Calls Tryz.prog 55 #[.pointer (some ⟨g, 0, none⟩), termV t A cap, .pointer (some ⟨gf, 0, none⟩)] V fun e w' => ∃ G c, e = .returned (.tuple #[.agg #[.int .i64 2, .int .i64 2, .slice G 0 c], .int .i64 0]) ∧ c ≤ maxLen ∧ Mt w' gf f lf' ∧ Up gf V w') :
    Calls Tryz.prog 36 #[.pointer (some ⟨gb, 0, none⟩), termV t A cap, .int .i64 d] w fun e w' => ∃ G c, e = .returned (.tuple #[.agg #[.int .i64 2, .int .i64 2, .slice G 0 c], .int .i64 0]) ∧ c ≤ maxLen ∧ Bk w' gb 73 (bldV (some ⟨g, 0, none⟩) (some ⟨gf, 0, none⟩) (n + 1) false) ∧ Mt w' gf f lf' ∧ Up2 gb gf w w' := by
  have HBR := Lib.hid hbr
  unfold termV at HBR
  unfold termV
  have HKB0 := Lib.hid hk
  unfold bldV at hk
  have hgb := hk.lt
  have hgf := hm.lt
  obtain ⟨X, hX⟩ : ∃ X, (w.alloc (.cells #[.int .i64 t.k, .int .i64 t.n, .slice A t.l.length cap] 25)).alloc (.cells #[.int .i64 0, .int .i64 0, .slice none 0 0] 25) = X := ⟨_, rfl⟩
  have HBX := Lib.hid (show Below w.heap.size w X from by rw [← hX]; exact ((Below.refl _ _).alloc (Nat.le_refl _) _).alloc (by simp) _)
  have HKt := Lib.hid (show Bk X w.heap.size 25 #[.int .i64 t.k, .int .i64 t.n, .slice A t.l.length cap] from by rw [← hX]; exact (Bk.new _ _ _).alloc _)
  have HKr := Lib.hid (show Bk X (w.heap.size + 1) 25 #[.int .i64 0, .int .i64 0, .slice none 0 0] from by rw [← hX]; exact Bk.last _ _ _ (by simp))
  have x0 : X.cell? ⟨w.heap.size, 0, none⟩ = some (.int .i64 t.k) := HKt.out.cell 0
  have x1 : X.cell? ⟨w.heap.size, 1, none⟩ = some (.int .i64 t.n) := HKt.out.cell 1
  have x2 : X.cell? ⟨w.heap.size, 2, none⟩ = some (.slice A t.l.length cap) := HKt.out.cell 2
  have HKb := Lib.hid (hk.below HBX.out hgb)
  have HMX := Lib.hid (hm.below HBX.out hgf)
  have b0 : X.cell? ⟨gb, 0, none⟩ = some (.pointer (some ⟨g, 0, none⟩)) := HKb.out.cell 0
  have b1 : X.cell? ⟨gb, 1, none⟩ = some (.pointer (some ⟨gf, 0, none⟩)) := HKb.out.cell 1
  have b3 : X.cell? ⟨gb, 3, none⟩ = some (.bool false) := HKb.out.cell 3
  have hfb : ∀ q, X.frozen? ⟨gb, q, none⟩ = false := fun q => HKb.out.cold q
  have td : decide (d > 128) = false := decide_eq_false (by omega)
  have td' : decide ((128 : Int) < d) = false := decide_eq_false (by omega)
  have HKbZ := Lib.hid (HKb.out.at_ 3 (.bool false))
  have HKtZ := Lib.hid (HKt.out.far (a := ⟨gb, 3, none⟩) (by show w.heap.size ≠ gb; omega) (.bool false))
  have HKrZ := Lib.hid (HKr.out.far (a := ⟨gb, 3, none⟩) (by show w.heap.size + 1 ≠ gb; omega) (.bool false))
  have HMZ := Lib.hid (HMX.out.far (a := ⟨gb, 3, none⟩) (by show gf ≠ gb; omega) (.bool false))
  have HUZ := Lib.hid ((Up2.of HBX.out : Up2 gb gf w X).trans (Up2.ofA (Up.set 3 (.bool false))))
  obtain ⟨Z, hZ⟩ : ∃ Z, X.setCell ⟨gb, 3, none⟩ (.bool false) = Z := ⟨_, rfl⟩
  rw [hZ] at HKbZ HKtZ HKrZ HMZ HUZ
  have z3 : Z.cell? ⟨gb, 3, none⟩ = some (.bool false) := HKbZ.out.cell 3
  have hlZ := HKbZ.out.lt
  have hlt := HKtZ.out.lt
  have hlr := HKrZ.out.lt
  have HK := Lib.hid (fun (V : World) (hV : Up gf Z V) => (show V.cell? ⟨gb, 0, none⟩ = some (.pointer (some ⟨g, 0, none⟩)) ∧ V.cell? ⟨gb, 1, none⟩ = some (.pointer (some ⟨gf, 0, none⟩)) ∧ V.cell? ⟨w.heap.size, 0, none⟩ = some (.int .i64 t.k) ∧ V.cell? ⟨w.heap.size, 1, none⟩ = some (.int .i64 t.n) ∧ V.cell? ⟨w.heap.size, 2, none⟩ = some (.slice A t.l.length cap) ∧ (∀ q, V.frozen? ⟨w.heap.size, q, none⟩ = false) from by
    have k1 := HKbZ.out.up hV hne
    have k2 := HKtZ.out.up hV (by omega)
    exact ⟨k1.cell 0, k1.cell 1, k2.cell 0, k2.cell 1, k2.cell 2, fun q => k2.cold q⟩))
  clear hk hm hbr
  go_enter Tryz.func36, Tryz.ntmps36
  go_upto_region 4 with fail
  clear hX hZ z3 b0 b1 b3 hfb x0 x1 x2
  go_cut [8] from 30 to 43 (fun s8 wx => ∃ G c, s8 = .int .i64 0 ∧ c ≤ maxLen ∧ Bk wx w.heap.size 25 #[.int .i64 2, .int .i64 2, .slice G 0 c] ∧ Bk wx (w.heap.size + 1) 25 #[.int .i64 0, .int .i64 0, .slice none 0 0] ∧ Bk wx gb 73 (bldV (some ⟨g, 0, none⟩) (some ⟨gf, 0, none⟩) n false) ∧ Mt wx gf f lf' ∧ Up2 gb gf w wx)
  case first =>
    have hbk := Lib.hid (Up.of ((Below.refl Z.heap.size Z).drew) : Up gf Z Z.drew)
    obtain ⟨b0, b1, x0, x1, x2, hfz⟩ := HK.out _ hbk.out
    go_region_law
      (first
       | (go_simp; go_at_call 55; refine (HBR.out _ (HUZ.out.ofZ hbk.out) (HMZ.out.below (Below.refl Z.heap.size Z).drew HMZ.out.lt)).mono ?_; rintro e w3 ⟨G, c, rfl, hc, hm3, hup⟩; have HC3 := Lib.hid hc; have HM3 := Lib.hid hm3; have hbk := Lib.hid (hbk.out.trans hup); clear hc hm3 hup b0 b1 x0 x1 x2 hfz; obtain ⟨b0, b1, x0, x1, x2, hfz⟩ := HK.out _ hbk.out))
    all_goals
      have hzb : Z.heap.size ≤ w3.heap.size := World.grownBy.size hbk.out
      have Kt := HKtZ.out.up hbk.out (by omega)
      have Kr := HKrZ.out.up hbk.out (by omega)
      have Kb := HKbZ.out.up hbk.out hne
      have hlr' := Kr.lt
      have HA := Lib.hid (((Kt.at_ 0 (.int .i64 2)).at_ 1 (.int .i64 2)).at_ 2 (.slice G 0 c))
      have HB := Lib.hid (((Kr.far (a := ⟨w.heap.size, 0, none⟩) (by show w.heap.size + 1 ≠ w.heap.size; omega) (.int .i64 2)).far (a := ⟨w.heap.size, 1, none⟩) (by show w.heap.size + 1 ≠ w.heap.size; omega) (.int .i64 2)).far (a := ⟨w.heap.size, 2, none⟩) (by show w.heap.size + 1 ≠ w.heap.size; omega) (.slice G 0 c))
      have HCb := Lib.hid (((Kb.far (a := ⟨w.heap.size, 0, none⟩) (by show gb ≠ w.heap.size; omega) (.int .i64 2)).far (a := ⟨w.heap.size, 1, none⟩) (by show gb ≠ w.heap.size; omega) (.int .i64 2)).far (a := ⟨w.heap.size, 2, none⟩) (by show gb ≠ w.heap.size; omega) (.slice G 0 c))
      have HD := Lib.hid (((HM3.out.far (a := ⟨w.heap.size, 0, none⟩) (by show gf ≠ w.heap.size; omega) (.int .i64 2)).far (a := ⟨w.heap.size, 1, none⟩) (by show gf ≠ w.heap.size; omega) (.int .i64 2)).far (a := ⟨w.heap.size, 2, none⟩) (by show gf ≠ w.heap.size; omega) (.slice G 0 c))
      have HE := Lib.hid (Up2.st (g := w.heap.size) (q := 2) (Up2.st (g := w.heap.size) (q := 1) (Up2.st (g := w.heap.size) (q := 0) (HUZ.out.ofZ hbk.out) (.inl (Nat.le_refl _)) (.int .i64 2)) (.inl (Nat.le_refl _)) (.int .i64 2)) (.inl (Nat.le_refl _)) (.slice G 0 c))
      clear Kt Kr Kb
      go_wp2_with fail
      go_meet
      case rel => exact ⟨G, c, rfl, HC3.out, HA.out, HB.out, HCb.out, HD.out, HE.out⟩
  case rest =>
    obtain ⟨Y, rfl⟩ : ∃ Y : World, Y = wc := ⟨_, rfl⟩
    obtain ⟨G, c, rfl, hc, ht, hr, hb, hm, hu⟩ := hcut
    have HC := Lib.hid hc
    have HT := Lib.hid ht
    have HR := Lib.hid hr
    have HB := Lib.hid hb
    have HM := Lib.hid hm
    have HU := Lib.hid hu
    clear hc ht hr hb hm hu HBR HK HKbZ HKtZ HKrZ HMZ HUZ HKb HMX HKB0 HBX HKt HKr
    have x0 : Y.cell? ⟨w.heap.size, 0, none⟩ = some (.int .i64 2) := HT.out.cell 0
    have x1 : Y.cell? ⟨w.heap.size, 1, none⟩ = some (.int .i64 2) := HT.out.cell 1
    have x2 : Y.cell? ⟨w.heap.size, 2, none⟩ = some (.slice G 0 c) := HT.out.cell 2
    go_wp2_with fail
    refine (parts_leaf G c Y).mono ?_
    rintro e w4 ⟨rfl, hb4⟩
    have HT4 := Lib.hid (HT.out.below hb4 HT.out.lt)
    have HR4 := Lib.hid (HR.out.below hb4 HR.out.lt)
    have HB4 := Lib.hid (HB.out.below hb4 HB.out.lt)
    have HM4 := Lib.hid (HM.out.below hb4 HM.out.lt)
    have HU4 := Lib.hid (HU.out.trans (Up2.of hb4))
    clear hb4 x0 x1 x2
    have x0 : w4.cell? ⟨w.heap.size, 0, none⟩ = some (.int .i64 2) := HT4.out.cell 0
    have x1 : w4.cell? ⟨w.heap.size, 1, none⟩ = some (.int .i64 2) := HT4.out.cell 1
    have x2 : w4.cell? ⟨w.heap.size, 2, none⟩ = some (.slice G 0 c) := HT4.out.cell 2
    go_wp2_with fail
    refine (count_leaf G c gb (some ⟨g, 0, none⟩) (some ⟨gf, 0, none⟩) n hn w4 HB4.out HC.out).mono ?_
    rintro e w5 ⟨rfl, hb5, hu5⟩
    have HB5 := Lib.hid hb5
    have HT5 := Lib.hid (HT4.out.up hu5 (by omega))
    have HR5 := Lib.hid (HR4.out.up hu5 (by omega))
    have HM5 := Lib.hid (HM4.out.up hu5 (by omega))
    have HU5 := Lib.hid (HU4.out.trans (Up2.ofA hu5))
    clear hb5 hu5 x0 x1 x2
    have x0 : w5.cell? ⟨w.heap.size, 0, none⟩ = some (.int .i64 2) := HT5.out.cell 0
    have x1 : w5.cell? ⟨w.heap.size, 1, none⟩ = some (.int .i64 2) := HT5.out.cell 1
    have x2 : w5.cell? ⟨w.heap.size, 2, none⟩ = some (.slice G 0 c) := HT5.out.cell 2
    go_wp2_with fail
    refine wp_loop_rounds 1 ?_
    rw [rounds_succ]
    go_wp2_with fail
    refine (joined_leaf G c w5).mono ?_
    rintro e w6 ⟨rfl, hb6⟩
    have Kr := HR5.out.below hb6 HR5.out.lt
    have HB6 := Lib.hid (HB5.out.below hb6 HB5.out.lt)
    have HM6 := Lib.hid (HM5.out.below hb6 HM5.out.lt)
    have HU6 := Lib.hid (HU5.out.trans (Up2.of hb6))
    clear hb6 x0 x1 x2
    have hlr := Kr.lt
    have hfr : ∀ q, w6.frozen? ⟨w.heap.size + 1, q, none⟩ = false := fun q => Kr.cold q
    have r0 : w6.cell? ⟨w.heap.size + 1, 0, none⟩ = some (.int .i64 0) := Kr.cell 0
    have r1 : w6.cell? ⟨w.heap.size + 1, 1, none⟩ = some (.int .i64 0) := Kr.cell 1
    have r2 : w6.cell? ⟨w.heap.size + 1, 2, none⟩ = some (.slice none 0 0) := Kr.cell 2
    have B5 := ((Kr.at_ 0 (.int .i64 2)).at_ 1 (.int .i64 2)).at_ 2 (.slice G 0 c)
    have HS0 := Lib.hid (B5.cell 0)
    have HS1 := Lib.hid (B5.cell 1)
    have HS2 := Lib.hid (B5.cell 2)
    clear B5
    clear Kr
    go_wp2_with fail
    refine bodyPost_ret (v := .tuple #[.agg #[.int .i64 2, .int .i64 2, .slice G 0 c], .int .i64 0]) (by simp [results, Tryz.results36, go_sem, HS0.out, HS1.out, HS2.out]) rfl ?_
    exact ⟨G, c, rfl, HC.out, ((HB6.out.far (a := ⟨w.heap.size + 1, 0, none⟩) (by show gb ≠ w.heap.size + 1; omega) _).far (a := ⟨w.heap.size + 1, 1, none⟩) (by show gb ≠ w.heap.size + 1; omega) _).far (a := ⟨w.heap.size + 1, 2, none⟩) (by show gb ≠ w.heap.size + 1; omega) _,
      ((HM6.out.far (a := ⟨w.heap.size + 1, 0, none⟩) (by show gf ≠ w.heap.size + 1; omega) _).far (a := ⟨w.heap.size + 1, 1, none⟩) (by show gf ≠ w.heap.size + 1; omega) _).far (a := ⟨w.heap.size + 1, 2, none⟩) (by show gf ≠ w.heap.size + 1; omega) _,
      Up2.st (g := w.heap.size + 1) (q := 2) (Up2.st (g := w.heap.size + 1) (q := 1) (Up2.st (g := w.heap.size + 1) (q := 0) HU6.out (.inl (by omega)) _) (.inl (by omega)) _) (.inl (by omega)) _⟩

end Go.Proofs.YtondjkeakfkefaaGreatDoor
