/- The laws' own question whether the program answers at all (layer 6): it does. -/
import Derived.Test.YteaojmcfppbgiaaGreatDoorE2
import Derived.Test.YteaojmcfppbgiaaGreatDoorA1
namespace Go.Proofs.YteaojmcfppbgiaaGreatDoor
open Go.RowKit
set_option linter.unusedVariables false
set_option maxRecDepth 100000

set_option maxHeartbeats 1000000 in
theorem printNumber_any (z : Int) (w : World) (h0 : -9223372036854775808 ≤ z) (h1 : z ≤ 9223372036854775807) (hT : Tab w) : Calls Tryz.prog 23 #[.int .i64 z] w (StrIs (baX (Lib.itoa z)) w) := by
  have H : Calls Tryz.prog 53 #[.int .i64 z] w (StrIs (baX (Lib.itoa z)) w) := by
    refine (Any.strconv_Itoa Tryz.laysM171 z (by omega) (by omega) w hT).mono ?_
    rintro e w' ⟨rfl, k, os, rfl⟩
    exact ⟨rfl, Lib.below_grow _ _ (Nat.le_refl _) _ _⟩
  obtain ⟨R, hR⟩ : ∃ R, baX (Lib.itoa z) = R := ⟨_, rfl⟩
  rw [hR] at H ⊢
  unfold StrIs at H ⊢
  have H := Lib.hid H
  clear hR hT h0 h1
  go_enter Tryz.func23, Tryz.ntmps23
  go_wp2_with fail
  refine H.out.mono ?_; rintro e w1 ⟨rfl, hb⟩
  go_wp2_with fail
  go_ret
  exact ⟨rfl, hb⟩

theorem leaf_in {w : World} {lo hi : Nat} (k a : Int) (s : ByteArray) (n : Int) (hs : s.size ≤ maxLen) : IsNode w lo hi (.node k a s n []) none 0 :=
  NodeIn.mk k a s n [] none 0 (fun _ => none) (fun _ => 0) hs (Nat.le_refl _) (by decide) (fun h => by simp at h) (fun i h => by simp at h)
/-- A node whose two Subs lie in one row. -/
theorem wpair_in {W : World} {lo hi g : Nat} {k a : Int} {s : ByteArray} {n : Int} {t u : RT} {A0 A1 : Option Addr} {c0 c1 : Nat}
    (hb : Bk W g 36 #[.int .i64 t.k, .int .i64 t.a, .string t.s, .int .i64 t.n, .slice A0 t.l.length c0, .int .i64 u.k, .int .i64 u.a, .string u.s, .int .i64 u.n, .slice A1 u.l.length c1]) (hlo : lo ≤ g) (hg : g < hi)
    (ht : IsNode W lo hi t A0 c0) (hu : IsNode W lo hi u A1 c1) (hs : s.size ≤ maxLen) : IsNode W lo hi (.node k a s n [t, u]) (some ⟨g, 0, none⟩) 2 := by
  refine NodeIn.mk k a s n [t, u] _ 2 (fun i => if i = 0 then A0 else A1) (fun i => if i = 0 then c0 else c1) hs (by simp) (by decide) (fun _ => ⟨g, 0, rfl, ⟨hlo, hg⟩, fun i hi' => ?_⟩) (fun i hi' => ?_)
  · match i, hi' with
    | 0, _ => exact ⟨hb.cell 0, hb.cell 1, hb.cell 2, hb.cell 3, hb.cell 4⟩
    | 1, _ => exact ⟨hb.cell 5, hb.cell 6, hb.cell 7, hb.cell 8, hb.cell 9⟩
  · match i, hi' with
    | 0, _ => exact ht
    | 1, _ => exact hu

/-- A node that a call hands back. -/
def NodeOut (t : RT) (lo : Nat) (w : World) (e : Ending) (w' : World) : Prop := ∃ A c, e = .returned (nodeV t A c) ∧ IsNode w' lo w'.heap.size t A c ∧ Below w.heap.size w w'

set_option maxHeartbeats 1000000 in
theorem name_is (s : ByteArray) (hs : s.size ≤ maxLen) (w : World) : Calls Tryz.prog 22 #[.string s] w (NodeOut (.node 1 0 s 0 []) w.heap.size w) := by
  have HSZ := Lib.hid hs
  clear hs
  go_enter Tryz.func22, Tryz.ntmps22
  go_wp2_with fail
  refine bodyPost_ret (v := .agg #[.int .i64 1, .int .i64 0, .string s, .int .i64 0, .slice none 0 0]) (by simp [results, Tryz.results22, go_sem]) rfl ?_
  exact ⟨none, 0, rfl, leaf_in 1 0 s 0 HSZ.out, (Below.refl w.heap.size w).alloc (Nat.le_refl _) _⟩

set_option maxHeartbeats 2000000 in
theorem arrow_is (t u : RT) (lo hi : Nat) (A0 A1 : Option Addr) (c0 c1 : Nat) (w : World) (ht : IsNode w lo hi t A0 c0) (hu : IsNode w lo hi u A1 c1) (hlo : lo ≤ w.heap.size) (hhi : hi ≤ w.heap.size) :
    Calls Tryz.prog 21 #[nodeV t A0 c0, nodeV u A1 c1] w (NodeOut (.node 3 0 ⟨#[95]⟩ 0 [t, u]) lo w) := by
  obtain ⟨W3, hW3⟩ : ∃ W, ((w.alloc (.cells #[.int .i64 t.k, .int .i64 t.a, .string t.s, .int .i64 t.n, .slice A0 t.l.length c0] 36)).alloc (.cells #[.int .i64 u.k, .int .i64 u.a, .string u.s, .int .i64 u.n, .slice A1 u.l.length c1] 36)).alloc (.cells #[.int .i64 3, .int .i64 0, .string ⟨#[95]⟩, .int .i64 0, .slice (some ⟨w.heap.size + 1 + 1 + 1, 0, none⟩) 2 2] 36) = W := ⟨_, rfl⟩
  have hB3 : Below w.heap.size w W3 := by rw [← hW3]; exact (((Below.refl _ _).alloc (Nat.le_refl _) _).alloc (by simp) _).alloc (by simp; omega) _
  have hz3 : W3.heap.size = w.heap.size + 1 + 1 + 1 := by rw [← hW3]; simp
  have hB4 : Below w.heap.size w (W3.alloc (.cells #[.int .i64 t.k, .int .i64 t.a, .string t.s, .int .i64 t.n, .slice A0 t.l.length c0, .int .i64 u.k, .int .i64 u.a, .string u.s, .int .i64 u.n, .slice A1 u.l.length c1] 36)) := hB3.alloc hB3.size _
  have hB4' := Lib.hid hB4
  have HN := Lib.hid (wpair_in (k := 3) (a := 0) (s := ⟨#[95]⟩) (n := 0) (lo := lo) (hi := (W3.alloc (.cells #[.int .i64 t.k, .int .i64 t.a, .string t.s, .int .i64 t.n, .slice A0 t.l.length c0, .int .i64 u.k, .int .i64 u.a, .string u.s, .int .i64 u.n, .slice A1 u.l.length c1] 36)).heap.size)
    (Bk.newAt (w := W3) hz3 36 #[.int .i64 t.k, .int .i64 t.a, .string t.s, .int .i64 t.n, .slice A0 t.l.length c0, .int .i64 u.k, .int .i64 u.a, .string u.s, .int .i64 u.n, .slice A1 u.l.length c1]) (by omega) (by simp; omega)
    ((ht.kept hB4 hhi).wide (Nat.le_refl _) (Nat.le_trans hhi hB4.size)) ((hu.kept hB4 hhi).wide (Nat.le_refl _) (Nat.le_trans hhi hB4.size)) (by decide))
  have HW := Lib.hid hW3
  unfold nodeV
  clear ht hu hlo hhi hW3 hB3 hB4
  go_enter Tryz.func21, Tryz.ntmps21
  go_wp2_with fail
  rw [HW.out]
  refine bodyPost_ret (v := .agg #[.int .i64 3, .int .i64 0, .string ⟨#[95]⟩, .int .i64 0, .slice (some ⟨w.heap.size + 1 + 1 + 1, 0, none⟩) 2 2]) (by
    have hc := (Bk.newAt (w := (w.alloc (.cells #[.int .i64 t.k, .int .i64 t.a, .string t.s, .int .i64 t.n, .slice A0 t.l.length c0] 36)).alloc (.cells #[.int .i64 u.k, .int .i64 u.a, .string u.s, .int .i64 u.n, .slice A1 u.l.length c1] 36)) (g := w.heap.size + 1 + 1) (by simp) 36 #[.int .i64 3, .int .i64 0, .string ⟨#[95]⟩, .int .i64 0, .slice (some ⟨w.heap.size + 1 + 1 + 1, 0, none⟩) 2 2])
    rw [HW.out] at hc
    obtain ⟨x0, x1, x2, x3, x4⟩ := hc.w5
    have hl := hc.lt
    simp [results, Tryz.results21, go_sem, x0, x1, x2, x3, x4, hl]) rfl ?_
  exact ⟨some ⟨w.heap.size + 1 + 1 + 1, 0, none⟩, 2, rfl, HN.out, hB4'.out⟩

theorem aw_65 : IsName ⟨#[65]⟩ [65] := by
  refine ⟨?_, by decide, by unfold keyB; rw [ByteArray.toList_eq]; decide, by decide, by decide⟩
  have h : Parse (encAll [65]) [65] [] := parse_enc (by intro n hn; simp at hn; subst hn; decide)
  exact h
theorem aw_66 : IsName ⟨#[66]⟩ [66] := by
  refine ⟨?_, by decide, by unfold keyB; rw [ByteArray.toList_eq]; decide, by decide, by decide⟩
  have h : Parse (encAll [66]) [66] [] := parse_enc (by intro n hn; simp at hn; subst hn; decide)
  exact h
theorem aw_67 : IsName ⟨#[67]⟩ [67] := by
  refine ⟨?_, by decide, by unfold keyB; rw [ByteArray.toList_eq]; decide, by decide, by decide⟩
  have h : Parse (encAll [67]) [67] [] := parse_enc (by intro n hn; simp at hn; subst hn; decide)
  exact h
theorem low_95 : lowB ⟨#[95]⟩ = true := by unfold lowB; rw [ByteArray.toList_eq]; decide
def leaf6 (s : ByteArray) : RT := .node 1 0 s 0 []
theorem leaf6_size (s : ByteArray) : (leaf6 s).size = 1 := by unfold leaf6; rw [size_node, sizeL_nil]
theorem leaf6_depth (s : ByteArray) : (leaf6 s).depth = 1 := by unfold leaf6; rw [depth_node, depthL_nil]
theorem leaf6_good {s : ByteArray} {ns : List Int} (h : IsName s ns) : goodB (leaf6 s) false = true := by
  unfold leaf6
  rw [goodB_node, goodL_all]
  unfold topB namedB
  rw [if_pos (by decide), nmB_yes h]
  decide
def arr6 (t u : RT) : RT := .node 3 0 ⟨#[95]⟩ 0 [t, u]
theorem arr6_size (t u : RT) : (arr6 t u).size = t.size + u.size + 1 := by unfold arr6; rw [size_node, sizeL_cons, sizeL_cons, sizeL_nil]; omega
theorem arr6_depth (t u : RT) : (arr6 t u).depth = max t.depth u.depth + 1 := by unfold arr6; rw [depth_node, depthL_cons, depthL_cons, depthL_nil]; omega
theorem arr6_good {t u : RT} (ht : goodB t false = true) (hu : goodB u false = true) : goodB (arr6 t u) false = true := by
  unfold arr6
  rw [goodB_node, goodL_all, show decide ((3 : Int) = 8) = false from rfl, List.all_cons, List.all_cons, ht, hu]
  unfold topB namedB
  rw [if_neg (by decide), if_pos (by decide), low_95]
  simp [manyB, numB]
theorem leaf6_text (s : ByteArray) (lv : Nat) (h : lv ≤ 2) : exprX (leaf6 s) lv = tx s := by
  unfold leaf6
  rw [exprX_bare (by unfold lowest; simp; omega)]
  unfold innerX
  rw [if_pos rfl]
theorem arr6_text (t u : RT) : exprX (arr6 t u) 0 = exprX t 1 ++ ([32, 45, 62, 32] ++ exprX u 0) := by
  unfold arr6
  rw [exprX_bare (by unfold lowest; simp)]
  unfold innerX
  rw [if_neg (by decide), if_neg (by decide), if_neg (by decide), if_pos ⟨rfl, low_95⟩, exprXL_at [t, u] 0 (by simp) 1, exprXL_at [t, u] 1 (by simp) 0]
  rfl
theorem arr6_par (t u : RT) : exprX (arr6 t u) 1 = [40] ++ (exprX (arr6 t u) 0 ++ [41]) := by
  unfold arr6
  rw [exprX_par (by unfold lowest; simp)]
def aw6T : RT := arr6 (arr6 (leaf6 ⟨#[65]⟩) (leaf6 ⟨#[66]⟩)) (leaf6 ⟨#[67]⟩)
theorem aw6_fit : fitB aw6T = true := by
  unfold aw6T
  exact fitB_true.2 ⟨by simp only [arr6_size, leaf6_size]; omega, by simp only [arr6_depth, leaf6_depth]; omega⟩
theorem aw6_good : goodB aw6T false = true := arr6_good (arr6_good (leaf6_good aw_65) (leaf6_good aw_66)) (leaf6_good aw_67)
theorem aw6_text : exprX aw6T 0 = [40, 65, 32, 45, 62, 32, 66, 41, 32, 45, 62, 32, 67] := by
  unfold aw6T
  rw [arr6_text, arr6_par, arr6_text, leaf6_text _ 1 (by decide), leaf6_text _ 0 (by decide), leaf6_text _ 0 (by decide)]
  rfl

set_option maxHeartbeats 4000000 in
theorem awake6 (w : World) (hS : Shapes w) (hbr : Bare w) (hT : Tab w) : Calls Tryz.prog 7 #[] w fun e w' => e = .returned (.bool true) ∧ Below w.heap.size w w' := by
  obtain ⟨ta, ha⟩ : ∃ t, leaf6 ⟨#[65]⟩ = t := ⟨_, rfl⟩
  obtain ⟨tb, hb⟩ : ∃ t, leaf6 ⟨#[66]⟩ = t := ⟨_, rfl⟩
  obtain ⟨tc, hc⟩ : ∃ t, leaf6 ⟨#[67]⟩ = t := ⟨_, rfl⟩
  obtain ⟨tab, hab⟩ : ∃ t, arr6 ta tb = t := ⟨_, rfl⟩
  obtain ⟨tt, htt⟩ : ∃ t, arr6 tab tc = t := ⟨_, rfl⟩
  have hTT : aw6T = tt := by rw [← htt, ← hab, ← ha, ← hb, ← hc]; rfl
  have H1 := Lib.hid (fun V => name_is ⟨#[65]⟩ (by decide) V)
  have H2 := Lib.hid (fun V => name_is ⟨#[66]⟩ (by decide) V)
  have H3 := Lib.hid (fun V => name_is ⟨#[67]⟩ (by decide) V)
  have H4 := Lib.hid (fun lo hi A0 A1 c0 c1 V h1 h2 h3 h4 => arrow_is ta tb lo hi A0 A1 c0 c1 V h1 h2 h3 h4)
  have H5 := Lib.hid (fun lo hi A0 A1 c0 c1 V h1 h2 h3 h4 => arrow_is tab tc lo hi A0 A1 c0 c1 V h1 h2 h3 h4)
  rw [show (RT.node 1 0 ⟨#[65]⟩ 0 []) = ta from ha] at H1
  rw [show (RT.node 1 0 ⟨#[66]⟩ 0 []) = tb from hb] at H2
  rw [show (RT.node 1 0 ⟨#[67]⟩ 0 []) = tc from hc] at H3
  rw [show (RT.node 3 0 ⟨#[95]⟩ 0 [ta, tb]) = tab from hab] at H4
  rw [show (RT.node 3 0 ⟨#[95]⟩ 0 [tab, tc]) = tt from htt] at H5
  have H6 : Hid (∀ V lo hi A c, Below w.heap.size w V → IsNode V lo hi tt A c → hi ≤ V.heap.size → Calls Tryz.prog 12 #[nodeV tt A c] V fun e w' => e = .returned (.tuple #[.string ⟨#[40, 65, 32, 45, 62, 32, 66, 41, 32, 45, 62, 32, 67]⟩, .int .i64 0]) ∧ Below V.heap.size V w') := Lib.hid (fun V lo hi A c hV hn hhi => by
    have := printExpr_any tt lo hi A c V hn hhi (hS.below hV) (hbr.kept hV hbr.lt)
    rw [← hTT, aw6_fit, aw6_good, aw6_text] at this
    rw [← hTT]
    exact this)
  have H7 := Lib.hid (fun V (hV : Below w.heap.size w V) => printNumber_any (-10) V (by decide) (by decide) (hT.below hV))
  have e10 : baX (Lib.itoa (-10)) = ⟨#[45, 49, 48]⟩ := by
    unfold Lib.itoa
    rw [if_pos (by decide)]
    have : Lib.decDigits (-10 : Int).natAbs = [49, 48] := by
      show Lib.decDigits 10 = _
      rw [Lib.decDigits, dif_neg (by decide), Lib.decDigits_one (by decide)]
      decide
    rw [this]; rfl
  rw [e10] at H7
  unfold NodeOut nodeV at H1 H2 H3 H4 H5
  unfold nodeV at H6
  unfold StrIs at H7
  clear ha hb hc hab htt hTT e10 hS hbr hT
  go_enter Tryz.func7, Tryz.ntmps7
  go_wp2_with fail
  refine (H1.out _).mono ?_; rintro e w1 ⟨A1, c1, rfl, n1, b1⟩
  have HN1 := Lib.hid n1
  have HB1 := Lib.hid b1
  have hs1 := b1.size
  clear n1 b1
  go_wp2_with fail
  refine (H2.out _).mono ?_; rintro e w2 ⟨A2, c2, rfl, n2, b2⟩
  have hs2 := b2.size
  have HN1 := Lib.hid ((HN1.out.kept b2 (Nat.le_refl _)).wide (lo' := w.heap.size) (hi' := w2.heap.size) (Nat.le_refl _) hs2)
  have HN2 := Lib.hid (n2.wide (lo' := w.heap.size) (hi' := w2.heap.size) hs1 (Nat.le_refl _))
  have HB2 := Lib.hid (HB1.out.trans (b2.mono hs1))
  clear n2 b2
  go_wp2_with fail
  refine (H4.out _ _ _ _ _ _ _ HN1.out HN2.out (by omega) (Nat.le_refl _)).mono ?_; rintro e w3 ⟨A3, c3, rfl, n3, b3⟩
  have hs3 := b3.size
  have HN3 := Lib.hid n3
  have HB3 := Lib.hid (HB2.out.trans (b3.mono (by omega)))
  clear n3 b3
  go_wp2_with fail
  refine (H3.out _).mono ?_; rintro e w4 ⟨A4, c4, rfl, n4, b4⟩
  have hs4 := b4.size
  have HN3 := Lib.hid ((HN3.out.kept b4 (Nat.le_refl _)).wide (lo' := w.heap.size) (hi' := w4.heap.size) (Nat.le_refl _) hs4)
  have HN4 := Lib.hid (n4.wide (lo' := w.heap.size) (hi' := w4.heap.size) (by omega) (Nat.le_refl _))
  have HB4 := Lib.hid (HB3.out.trans (b4.mono (by omega)))
  clear n4 b4
  go_wp2_with fail
  refine (H5.out _ _ _ _ _ _ _ HN3.out HN4.out (by omega) (Nat.le_refl _)).mono ?_; rintro e w5 ⟨A5, c5, rfl, n5, b5⟩
  have hs5 := b5.size
  have HN5 := Lib.hid n5
  have HB5 := Lib.hid (HB4.out.trans (b5.mono (by omega)))
  clear n5 b5
  go_wp2_with fail
  refine (H6.out _ _ _ _ _ HB5.out HN5.out (Nat.le_refl _)).mono ?_; rintro e w6 ⟨rfl, b6⟩
  have hs6 := b6.size
  have HB6 := Lib.hid (HB5.out.trans (b6.mono (by omega)))
  clear b6
  go_wp2_with fail
  refine (H7.out _ HB6.out).mono ?_; rintro e w7 ⟨rfl, b7⟩
  have HB7 := Lib.hid (HB6.out.trans (b7.mono (by omega)))
  clear b7
  go_wp2_with fail
  go_ret
  exact ⟨rfl, HB7.out⟩

end Go.Proofs.YteaojmcfppbgiaaGreatDoor
