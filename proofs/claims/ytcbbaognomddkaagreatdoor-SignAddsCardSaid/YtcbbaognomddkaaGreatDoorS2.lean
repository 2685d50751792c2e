/- Numbers as a signature. -/
import Derived.Test.YtcbbaognomddkaaGreatDoorS3
import Derived.Test.YtcbbaognomddkaaGreatDoorS7
import Derived.Deep.RegionLaw
import Derived.Deep.Cut
namespace Go.Proofs.YtcbbaognomddkaaGreatDoor
open Go.RowKit
set_option linter.unusedVariables false
set_option maxRecDepth 100000

def natT : TM := .node 6 0 []
def eNat : ET := ⟨1, ⟨#[78, 97, 116]⟩, .node 2 0 [], .node 0 0 [], 0, 0, 0, 0, 0, [1, 2], []⟩
def eZero : ET := ⟨2, ⟨#[122, 101, 114, 111]⟩, .node 6 0 [], .node 0 0 [], 0, 0, 0, 0, 0, [], []⟩
def eSuc : ET := ⟨2, ⟨#[115, 117, 99]⟩, .node 3 0 [.node 6 0 [], .node 6 0 []], .node 0 0 [], 0, 1, 0, 0, 0, [], []⟩
def natL : List ET := [eNat, eZero, eSuc]
theorem nat_fam : famB natL 0 eNat = true := by kernel_rfl
theorem nat_con1 : conB natL 1 eZero = true := by kernel_rfl
theorem nat_con2 : conB natL 2 eSuc = true := by kernel_rfl
theorem nat_cl0 : closedE eNat.t (0 : Nat) = true := by kernel_rfl
theorem nat_cl1 : closedE eZero.t (1 : Nat) = true := by kernel_rfl
theorem nat_cl2 : closedE eSuc.t (2 : Nat) = true := by kernel_rfl
theorem nat_id : idleB eNat = true ∧ idleB eZero = true ∧ idleB eSuc = true := ⟨by kernel_rfl, by kernel_rfl, by kernel_rfl⟩
theorem nat_dist : distB (namesE natL) = true := by kernel_rfl
theorem nm_Nat : IsName ⟨#[78, 97, 116]⟩ [78, 97, 116] := by
  refine ⟨?_, by decide, by unfold keyB; rw [ByteArray.toList_eq]; decide, by decide, by decide⟩
  have h : Parse (encAll [78, 97, 116]) [78, 97, 116] [] := parse_enc (by intro n hn; simp at hn; rcases hn with rfl | rfl | rfl <;> decide)
  exact h
theorem nm_zero : IsName ⟨#[122, 101, 114, 111]⟩ [122, 101, 114, 111] := by
  refine ⟨?_, by decide, by unfold keyB; rw [ByteArray.toList_eq]; decide, by decide, by decide⟩
  have h : Parse (encAll [122, 101, 114, 111]) [122, 101, 114, 111] [] := parse_enc (by intro n hn; simp at hn; rcases hn with rfl | rfl | rfl | rfl <;> decide)
  exact h
theorem nm_suc : IsName ⟨#[115, 117, 99]⟩ [115, 117, 99] := by
  refine ⟨?_, by decide, by unfold keyB; rw [ByteArray.toList_eq]; decide, by decide, by decide⟩
  have h : Parse (encAll [115, 117, 99]) [115, 117, 99] [] := parse_enc (by intro n hn; simp at hn; rcases hn with rfl | rfl | rfl <;> decide)
  exact h
theorem nat_formed : formedB natL = true := by
  unfold formedB
  have h0 : entQ natL 0 = true := by
    rw [entQ_at (l := natL) (i := 0) (by decide)]
    show entP natL 0 eNat = true
    unfold entP
    rw [show nmB eNat.s = true from nmB_yes nm_Nat, nat_cl0, nat_id.1, if_pos (show eNat.k = 1 from rfl), nat_fam]; rfl
  have h1 : entQ natL 1 = true := by
    rw [entQ_at (l := natL) (i := 1) (by decide)]
    show entP natL 1 eZero = true
    unfold entP
    rw [show nmB eZero.s = true from nmB_yes nm_zero, nat_cl1, nat_id.2.1, if_neg (show ¬ eZero.k = 1 by decide), if_pos (show eZero.k = 2 from rfl), nat_con1]; rfl
  have h2 : entQ natL 2 = true := by
    rw [entQ_at (l := natL) (i := 2) (by decide)]
    show entP natL 2 eSuc = true
    unfold entP
    rw [show nmB eSuc.s = true from nmB_yes nm_suc, nat_cl2, nat_id.2.2, if_neg (show ¬ eSuc.k = 1 by decide), if_pos (show eSuc.k = 2 from rfl), nat_con2]; rfl
  rw [nat_dist, decide_eq_true (show natL.length ≤ 256 by decide)]
  show (true && (true && (((true && entQ natL 0) && entQ natL 1) && entQ natL 2))) = true
  rw [h0, h1, h2]; rfl

theorem bytes3 : (⟨#[78, 97, 116]⟩ : ByteArray).size ≤ maxLen ∧ (⟨#[122, 101, 114, 111]⟩ : ByteArray).size ≤ maxLen ∧ (⟨#[115, 117, 99]⟩ : ByteArray).size ≤ maxLen := by unfold maxLen; decide
theorem no_ints (w : World) (lo hi : Nat) (A : Option Addr) : IntRow w lo hi A [] := fun i h => by cases h
theorem nat_at {w : World} {g1 g2 g3 : Nat} (h1 : Bk w g1 3 #[.int .i64 1, .int .i64 2]) (h2 : Bk w g2 31 #[.int .i64 6, .int .i64 0, .slice none 0 0, .int .i64 6, .int .i64 0, .slice none 0 0])
    (h3 : Bk w g3 34 #[.int .i64 1, .string ⟨#[78, 97, 116]⟩, .int .i64 2, .int .i64 0, .slice none 0 0, .int .i64 0, .int .i64 0, .slice none 0 0, .int .i64 0, .int .i64 0, .int .i64 0, .int .i64 0, .int .i64 0, .slice (some ⟨g1, 0, none⟩) 2 2, .slice none 0 0, .int .i64 2, .string ⟨#[122, 101, 114, 111]⟩, .int .i64 6, .int .i64 0, .slice none 0 0, .int .i64 0, .int .i64 0, .slice none 0 0, .int .i64 0, .int .i64 0, .int .i64 0, .int .i64 0, .int .i64 0, .slice none 0 0, .slice none 0 0, .int .i64 2, .string ⟨#[115, 117, 99]⟩, .int .i64 3, .int .i64 0, .slice (some ⟨g2, 0, none⟩) 2 2, .int .i64 0, .int .i64 0, .slice none 0 0, .int .i64 0, .int .i64 1, .int .i64 0, .int .i64 0, .int .i64 0, .slice none 0 0, .slice none 0 0]) : EntsAt w 0 w.heap.size (some ⟨g3, 0, none⟩) natL := by
  intro i hi
  have hm : (2 : Nat) ≤ maxLen ∧ (0 : Nat) ≤ maxLen := by unfold maxLen; decide
  rcases (show i = 0 ∨ i = 1 ∨ i = 2 by have : i < 3 := hi; omega) with rfl | rfl | rfl
  · refine ⟨g3, 0, ⟨none, 0, none, 0, some ⟨g1, 0, none⟩, 2, none, 0⟩, rfl, Nat.zero_le _, h3.lt, ⟨h3.cell 0, h3.cell 1, h3.cell 2, h3.cell 3, h3.cell 4, h3.cell 5, h3.cell 6, h3.cell 7, h3.cell 8, h3.cell 9, h3.cell 10, h3.cell 11, h3.cell 12, h3.cell 13, h3.cell 14⟩, ⟨bytes3.1, leaf_in _ _ 2 0, leaf_in _ _ 0 0, Nat.le_refl 2, hm.1, fun j hj => ?_, Nat.le_refl 0, hm.2, no_ints _ _ _ _, (show (0 : Int) ≤ 9223372036854775807 by decide)⟩⟩
    refine ⟨g1, 0, rfl, Nat.zero_le _, h1.lt, ?_⟩
    rcases (show j = 0 ∨ j = 1 by have : j < 2 := hj; omega) with rfl | rfl
    · exact h1.cell 0
    · exact h1.cell 1
  · exact ⟨g3, 0, ⟨none, 0, none, 0, none, 0, none, 0⟩, rfl, Nat.zero_le _, h3.lt, ⟨h3.cell 15, h3.cell 16, h3.cell 17, h3.cell 18, h3.cell 19, h3.cell 20, h3.cell 21, h3.cell 22, h3.cell 23, h3.cell 24, h3.cell 25, h3.cell 26, h3.cell 27, h3.cell 28, h3.cell 29⟩, ⟨bytes3.2.1, leaf_in _ _ 6 0, leaf_in _ _ 0 0, Nat.le_refl 0, hm.2, no_ints _ _ _ _, Nat.le_refl 0, hm.2, no_ints _ _ _ _, (show (0 : Int) ≤ 9223372036854775807 by decide)⟩⟩
  · exact ⟨g3, 0, ⟨some ⟨g2, 0, none⟩, 2, none, 0, none, 0, none, 0⟩, rfl, Nat.zero_le _, h3.lt, ⟨h3.cell 30, h3.cell 31, h3.cell 32, h3.cell 33, h3.cell 34, h3.cell 35, h3.cell 36, h3.cell 37, h3.cell 38, h3.cell 39, h3.cell 40, h3.cell 41, h3.cell 42, h3.cell 43, h3.cell 44⟩, ⟨bytes3.2.2, two_in (leaf_in _ _ 6 0) (leaf_in _ _ 6 0) h2 ⟨Nat.zero_le _, h2.lt⟩ 3 0, leaf_in _ _ 0 0, Nat.le_refl 0, hm.2, no_ints _ _ _ _, Nat.le_refl 0, hm.2, no_ints _ _ _ _, (show (0 : Int) ≤ 9223372036854775807 by decide)⟩⟩

set_option maxHeartbeats 2000000 in
theorem nat_any (w : World) : Calls Tryz.prog 14 #[] w fun e w' => ∃ A c, e = .returned (.slice A 3 c) ∧ EntsAt w' 0 w'.heap.size A natL ∧ 3 ≤ c ∧ Below w.heap.size w w' := by
  have HF := Lib.hid (show ∀ (V : World), V = ((((w.alloc (.cells #[.int .i64 6, .int .i64 0, .slice none 0 0] 31)).alloc (.cells #[.int .i64 1, .int .i64 2] 3)).alloc (.cells #[.int .i64 6, .int .i64 0, .slice none 0 0, .int .i64 6, .int .i64 0, .slice none 0 0] 31)).alloc (.cells #[.int .i64 1, .string ⟨#[78, 97, 116]⟩, .int .i64 2, .int .i64 0, .slice none 0 0, .int .i64 0, .int .i64 0, .slice none 0 0, .int .i64 0, .int .i64 0, .int .i64 0, .int .i64 0, .int .i64 0, .slice (some ⟨w.heap.size + 1, 0, none⟩) 2 2, .slice none 0 0, .int .i64 2, .string ⟨#[122, 101, 114, 111]⟩, .int .i64 6, .int .i64 0, .slice none 0 0, .int .i64 0, .int .i64 0, .slice none 0 0, .int .i64 0, .int .i64 0, .int .i64 0, .int .i64 0, .int .i64 0, .slice none 0 0, .slice none 0 0, .int .i64 2, .string ⟨#[115, 117, 99]⟩, .int .i64 3, .int .i64 0, .slice (some ⟨w.heap.size + 1 + 1, 0, none⟩) 2 2, .int .i64 0, .int .i64 0, .slice none 0 0, .int .i64 0, .int .i64 1, .int .i64 0, .int .i64 0, .int .i64 0, .slice none 0 0, .slice none 0 0] 34)) →
      EntsAt V 0 V.heap.size (some ⟨w.heap.size + 1 + 1 + 1, 0, none⟩) natL ∧ Below w.heap.size w V from by
    rintro V rfl
    refine ⟨nat_at (g1 := w.heap.size + 1) (g2 := w.heap.size + 1 + 1) (((Bk.last _ _ _ (by simp)).alloc _).alloc _) ((Bk.last _ _ _ (by simp)).alloc _) (Bk.last _ _ _ (by simp)), ?_⟩
    exact ((((Below.refl _ _).alloc (Nat.le_refl _) _).alloc (by simp <;> omega) _).alloc (by simp <;> omega) _).alloc (by simp <;> omega) _)
  go_enter Tryz.func14, Tryz.ntmps14
  go_wp2_with fail
  go_ret
  exact ⟨_, 3, rfl, (HF.out _ rfl).1, Nat.le_refl _, (HF.out _ rfl).2⟩

end Go.Proofs.YtcbbaognomddkaaGreatDoor

/- sign.recursive, sign.parts, sign.Parts of numbers; the laws' awake. -/
namespace Go.Proofs.YtcbbaognomddkaaGreatDoor
open Go.RowKit
set_option linter.unusedVariables false
set_option maxRecDepth 100000

theorem nat_whole : wholeX natT = ([], natT, 0) := by kernel_rfl
theorem nat_app (bs : Nat) : appB natT (0 : Nat) (natL[0]'(by decide)).a.toNat (natL[0]'(by decide)).i.toNat bs = true := by kernel_rfl
theorem nat_shaped : shapedB natT = true := by kernel_rfl
theorem suc_whole : wholeX eSuc.t = ([natT], natT, 0) := by kernel_rfl
/-- indices of numbers. -/
theorem ind_nat (A : Option Addr) (cap lo hi bs : Nat) (T : Option Addr) (tc : Nat) (w : World) (hn : EntsAt w lo hi A natL) (hhi : hi ≤ w.heap.size) (ht : IsTerm w 0 w.heap.size natT T tc) (hS : ShapesM w) (hbs : bs ≤ 1000) :
    Calls Tryz.prog 46 #[.slice A 3 cap, .int .i64 0, .agg #[.int .i64 6, .int .i64 0, .slice T 0 tc], .int .i64 (bs : Int)] w fun e w' => ∃ B n c, e = .returned (.tuple #[.slice B n c, .bool true]) ∧ Below w.heap.size w w' :=
  (ind_any natL A cap 0 (by decide) natT T tc bs lo hi 0 w.heap.size w (by decide) hn hhi ht (Nat.le_refl _) hS nat_shaped (by decide) (by decide) (by decide) (show (0 : Int) ≤ (bs : Int) by omega) hbs).mono fun e w' h => by
    obtain ⟨B, n, c, h1, _, h3⟩ := h
    rw [nat_app] at h1
    exact ⟨B, n, c, h1, h3⟩
/-- tele.Whole of what is a number's type. -/
theorem whole_nat (T : Option Addr) (tc : Nat) (w : World) (ht : IsTerm w 0 w.heap.size natT T tc) (hS : ShapesM w) :
    Calls Tryz.prog 45 #[.agg #[.int .i64 6, .int .i64 0, .slice T 0 tc]] w fun e w' => ∃ B c D d, e = .returned (.tuple #[.slice B 0 c, .agg #[.int .i64 6, .int .i64 0, .slice D 0 d], .int .i64 0]) ∧ IsTerm w' 0 w'.heap.size natT D d ∧ Below w.heap.size w w' :=
  (whole_any natT T tc w ht hS).mono fun e w' h => by
    rw [nat_whole] at h
    obtain ⟨B, c, D, d, h1, _, h2, h3⟩ := h
    exact ⟨B, c, D, d, h1, h2.imp (fun _ _ _ => rfl) (fun b hb => ⟨Nat.zero_le _, hb.2⟩), h3⟩
theorem whole_suc (T : Option Addr) (tc : Nat) (w : World) (ht : IsTerm w 0 w.heap.size eSuc.t T tc) (hS : ShapesM w) :
    Calls Tryz.prog 45 #[.agg #[.int .i64 3, .int .i64 0, .slice T 2 tc]] w fun e w' => ∃ g o c F C D d, e = .returned (.tuple #[.slice (some ⟨g, o, none⟩) 1 c, .agg #[.int .i64 6, .int .i64 0, .slice D 0 d], .int .i64 0]) ∧ 1 ≤ c ∧ g < w'.heap.size ∧
      w'.cell? ⟨g, o, none⟩ = some (.int .i64 6) ∧ w'.cell? ⟨g, o + 1, none⟩ = some (.int .i64 0) ∧ w'.cell? ⟨g, o + 2, none⟩ = some (.slice F 0 C) ∧ IsTerm w' 0 w'.heap.size natT F C ∧ IsTerm w' 0 w'.heap.size natT D d ∧ Below w.heap.size w w' :=
  (whole_any eSuc.t T tc w ht hS).mono fun e w' h => by
    rw [suc_whole] at h
    obtain ⟨B, c, D, d, h1, hx, h2, h3⟩ := h
    cases hx with
    | mk k n l A cap F C hl hm hc hn =>
      obtain ⟨g, o, e, hb, hx⟩ := hc (by decide)
      subst e
      obtain ⟨c0, c1, c2⟩ := hx 0 (by decide)
      rw [Nat.zero_mul, Nat.add_zero] at c0 c1 c2
      exact ⟨g, o, c, F 0, C 0, D, d, h1, hl, hb.2, c0, c1, c2, (hn 0 (by decide)).imp (fun _ _ _ => rfl) (fun b hb => ⟨Nat.zero_le _, hb.2⟩), h2.imp (fun _ _ _ => rfl) (fun b hb => ⟨Nat.zero_le _, hb.2⟩), h3⟩

set_option maxHeartbeats 2000000 in
theorem rec_nat (A : Option Addr) (cap lo hi : Nat) (T : Option Addr) (tc : Nat) (w : World) (hn : EntsAt w lo hi A natL) (hhi : hi ≤ w.heap.size) (ht : IsTerm w 0 w.heap.size natT T tc) (hS : ShapesM w) :
    Calls Tryz.prog 47 #[.slice A 3 cap, .int .i64 0, .agg #[.int .i64 6, .int .i64 0, .slice T 0 tc], .int .i64 0] w fun e w' => ∃ B n c D m d, e = .returned (.agg #[.bool true, .slice B n c, .slice D m d]) ∧ Below w.heap.size w w' := by
  have CW := Lib.hid (fun (V : World) (hV : Below w.heap.size w V) => whole_nat T tc V ((ht.kept hV (Nat.le_refl _)).wide (Nat.le_refl _) hV.size) (hS.kept hV))
  have CI := Lib.hid (fun (D : Option Addr) (d b : Nat) (V : World) (hV : Below w.heap.size w V) (h : IsTerm V 0 b natT D d) (hb : b ≤ V.heap.size) => ind_nat A cap lo hi 0 D d V (hn.kept hV hhi) (by have := hV.size; omega) (h.wide (Nat.le_refl _) hb) (hS.kept hV) (by omega))
  obtain ⟨X, hX⟩ : ∃ X, (w.alloc (.cells #[.int .i64 6, .int .i64 0, .slice T 0 tc] 31)).alloc (.cells #[.bool false, .slice none 0 0, .slice none 0 0] 45) = X := ⟨_, rfl⟩
  have HBX := Lib.hid (show Below w.heap.size w X from by rw [← hX]; exact ((Below.refl _ _).alloc (Nat.le_refl _) _).alloc (by simp) _)
  have HK1 := Lib.hid (show Bk X w.heap.size 31 #[.int .i64 6, .int .i64 0, .slice T 0 tc] from by rw [← hX]; exact (Bk.new w _ _).alloc _)
  have HK2 := Lib.hid (show Bk X (w.heap.size + 1) 45 #[.bool false, .slice none 0 0, .slice none 0 0] from by rw [← hX]; exact Bk.last _ _ _ (by simp))
  have x0 : X.cell? ⟨w.heap.size, 0, none⟩ = some (.int .i64 6) := HK1.out.cell 0
  have x1 : X.cell? ⟨w.heap.size, 1, none⟩ = some (.int .i64 0) := HK1.out.cell 1
  have x2 : X.cell? ⟨w.heap.size, 2, none⟩ = some (.slice T 0 tc) := HK1.out.cell 2
  clear hn hS ht
  go_enter Tryz.func47, Tryz.ntmps47
  go_wp2_with fail
  refine (CW.out _ HBX.out).mono ?_
  rintro e w1 ⟨B, c, D, d, rfl, ht1, hb1⟩
  have HB1 := Lib.hid (HBX.out.trans (hb1.mono HBX.out.size))
  have HK := Lib.hid (HK2.out.below hb1 HK2.out.lt)
  have HT1 := Lib.hid ht1
  obtain ⟨Y, hY⟩ : ∃ Y, w1.alloc (.cells #[.int .i64 6, .int .i64 0, .slice D 0 d] 31) = Y := ⟨_, rfl⟩
  have HBY0 := Lib.hid (show Below w1.heap.size w1 Y from by rw [← hY]; exact (Below.refl _ _).alloc (Nat.le_refl _) _)
  have HBY := Lib.hid (HB1.out.trans (HBY0.out.mono HB1.out.size))
  have HKY := Lib.hid (HK.out.below HBY0.out HK.out.lt)
  have HK3 := Lib.hid (show Bk Y w1.heap.size 31 #[.int .i64 6, .int .i64 0, .slice D 0 d] from by rw [← hY]; exact Bk.new w1 _ _)
  have y0 : Y.cell? ⟨w1.heap.size, 0, none⟩ = some (.int .i64 6) := HK3.out.cell 0
  have y1 : Y.cell? ⟨w1.heap.size, 1, none⟩ = some (.int .i64 0) := HK3.out.cell 1
  have y2 : Y.cell? ⟨w1.heap.size, 2, none⟩ = some (.slice D 0 d) := HK3.out.cell 2
  clear x0 x1 x2 ht1 hb1 hX
  go_wp2_with fail
  refine (CI.out D d w1.heap.size _ HBY.out (HT1.out.kept HBY0.out (Nat.le_refl _)) HBY0.out.size).mono ?_
  rintro e w2 ⟨B2, n2, c2, rfl, hb2⟩
  have HB2 := Lib.hid (HBY.out.trans (hb2.mono HBY.out.size))
  have HKZ := Lib.hid (HKY.out.below hb2 HKY.out.lt)
  have hfz : ∀ q, w2.frozen? ⟨w.heap.size + 1, q, none⟩ = false := fun q => HKZ.out.cold q
  have z0 : w2.cell? ⟨w.heap.size + 1, 0, none⟩ = some (.bool false) := HKZ.out.cell 0
  have z1 : w2.cell? ⟨w.heap.size + 1, 1, none⟩ = some (.slice none 0 0) := HKZ.out.cell 1
  have z2 : w2.cell? ⟨w.heap.size + 1, 2, none⟩ = some (.slice none 0 0) := HKZ.out.cell 2
  have HS0 := Lib.hid (((HKZ.out.at_ 0 (.bool true)).at_ 1 (.slice B 0 c)).at_ 2 (.slice B2 n2 c2))
  clear y0 y1 y2 hb2 hY
  go_wp2_with fail
  have s0 := HS0.out.cell 0
  have s1 := HS0.out.cell 1
  have s2 := HS0.out.cell 2
  refine bodyPost_ret (v := .agg #[.bool true, .slice B 0 c, .slice B2 n2 c2]) (by simp [results, Tryz.results47, go_sem, s0, s1, s2]) rfl ?_
  exact ⟨B, 0, c, B2, n2, c2, rfl, ((HB2.out.setCell (by simp) _).setCell (by simp) _).setCell (by simp) _⟩

end Go.Proofs.YtcbbaognomddkaaGreatDoor

/- sign.parts, sign.Parts of numbers; the laws' awake. -/
namespace Go.Proofs.YtcbbaognomddkaaGreatDoor
open Go.RowKit
set_option linter.unusedVariables false
set_option maxRecDepth 100000

theorem infoR : (Tryz.prog.info? 45).map (fun i => (i.zero, i.size, i.bytes)) = some (some (.agg #[.bool false, .slice none 0 0, .slice none 0 0]), 3, 56) := by kernel_rfl
theorem suc_cells {w : World} {lo hi : Nat} {A : Option Addr} (hn : EntsAt w lo hi A natL) : ∃ (b o : Nat) (p : EP), A = some ⟨b, o, none⟩ ∧ b < hi ∧ IsTerm w lo hi eSuc.t p.T p.tc ∧
    w.cell? ⟨b, o + 2 * 15, none⟩ = some (.int .i64 2) ∧ w.cell? ⟨b, o + 2 * 15 + 1, none⟩ = some (.string ⟨#[115, 117, 99]⟩) ∧ w.cell? ⟨b, o + 2 * 15 + 2, none⟩ = some (.int .i64 3) ∧ w.cell? ⟨b, o + 2 * 15 + 2 + 1, none⟩ = some (.int .i64 0) ∧ w.cell? ⟨b, o + 2 * 15 + 2 + 2, none⟩ = some (.slice p.T 2 p.tc) ∧
    w.cell? ⟨b, o + 2 * 15 + 5, none⟩ = some (.int .i64 0) ∧ w.cell? ⟨b, o + 2 * 15 + 5 + 1, none⟩ = some (.int .i64 0) ∧ w.cell? ⟨b, o + 2 * 15 + 5 + 2, none⟩ = some (.slice p.B 0 p.bc) ∧ w.cell? ⟨b, o + 2 * 15 + 8, none⟩ = some (.int .i64 0) ∧ w.cell? ⟨b, o + 2 * 15 + 9, none⟩ = some (.int .i64 1) ∧
    w.cell? ⟨b, o + 2 * 15 + 10, none⟩ = some (.int .i64 0) ∧ w.cell? ⟨b, o + 2 * 15 + 11, none⟩ = some (.int .i64 0) ∧ w.cell? ⟨b, o + 2 * 15 + 12, none⟩ = some (.int .i64 0) ∧ w.cell? ⟨b, o + 2 * 15 + 13, none⟩ = some (.slice p.C 0 p.cc) ∧ w.cell? ⟨b, o + 2 * 15 + 14, none⟩ = some (.slice p.D 0 p.dc) := by
  obtain ⟨b, o, p, hA, _, h2, h3, h4⟩ := hn 2 (by decide)
  exact ⟨b, o, p, hA, h2, h4.ht, h3.c0, h3.c1, h3.c2, h3.c3, h3.c4, h3.c5, h3.c6, h3.c7, h3.c8, h3.c9, h3.c10, h3.c11, h3.c12, h3.c13, h3.c14⟩

/-- The last statement of a sequence, cut around. -/
theorem wp_last {P : Program} {c : Code} {Q : Exit → Act → World → Prop} {a : Act} {w : World} (h : ∀ K : Act → World → Prop, (∀ a' w', Q .normal a' w' → K a' w') → Code.wp P c (Exit.then K Q) a w) : Code.wp P c Q a w :=
  wp_mono (h (fun a w => Q .normal a w) (fun _ _ q => q)) (by intro e a w q; cases e <;> exact q)
set_option maxHeartbeats 16000000 in
theorem parts_nat (A : Option Addr) (cap lo hi : Nat) (w : World) (hn : EntsAt w lo hi A natL) (hhi : hi ≤ w.heap.size) (hS : ShapesM w) :
    Calls Tryz.prog 26 #[.slice A 3 cap, .int .i64 2] w fun e w' => ∃ B c D m d g c8, e = .returned (.agg #[.slice B 1 c, .slice D m d, .slice (some ⟨g, 0, none⟩) 1 c8]) ∧ w'.cell? ⟨g, 0, none⟩ = some (.bool true) ∧ w.heap.size ≤ g ∧ g < w'.heap.size ∧ Below w.heap.size w w' := by
  obtain ⟨i0, hi0, hz0, hz1, hz2⟩ := info_parts infoR
  obtain ⟨b, o, p, hA, hb2, ht, k0, k1, k2, k3, k4, k5, k6, k7, k8, k9, k10, k11, k12, k13, k14⟩ := suc_cells hn
  have CW := Lib.hid (fun (V : World) (hV : Below w.heap.size w V) => whole_suc p.T p.tc V (((ht.kept hV hhi).wide (Nat.zero_le _) (Nat.le_trans hhi hV.size))) (hS.kept hV))
  have CI := Lib.hid (fun (D : Option Addr) (d b : Nat) (V : World) (hV : Below w.heap.size w V) (h : IsTerm V 0 b natT D d) (hb : b ≤ V.heap.size) => (show Calls Tryz.prog 46 #[.slice A 3 cap, .int .i64 0, .agg #[.int .i64 6, .int .i64 0, .slice D 0 d], .int .i64 1] V fun e w' => ∃ B n c, e = .returned (.tuple #[.slice B n c, .bool true]) ∧ Below V.heap.size V w' from ind_nat A cap lo hi 1 D d V (hn.kept hV hhi) (by have := hV.size; omega) (h.wide (Nat.le_refl _) hb) (hS.kept hV) (by omega)))
  have CR := Lib.hid (fun (F : Option Addr) (C b : Nat) (V : World) (hV : Below w.heap.size w V) (h : IsTerm V 0 b natT F C) (hb : b ≤ V.heap.size) => rec_nat A cap lo hi F C V (hn.kept hV hhi) (by have := hV.size; omega) (h.wide (Nat.le_refl _) hb) (hS.kept hV))
  subst hA
  have hbw : b < w.heap.size := by omega
  obtain ⟨T, hT⟩ : ∃ T, p.T = T := ⟨_, rfl⟩
  obtain ⟨tc, htc⟩ : ∃ tc, p.tc = tc := ⟨_, rfl⟩
  rw [hT, htc] at CW k4
  obtain ⟨X, hX⟩ : ∃ X, (w.alloc (.cells #[.slice none 0 0, .slice none 0 0, .slice none 0 0] 40)).alloc (.cells #[.int .i64 2, .string ⟨#[115, 117, 99]⟩, .int .i64 3, .int .i64 0, .slice T 2 tc, .int .i64 0, .int .i64 0, .slice p.B 0 p.bc, .int .i64 0, .int .i64 1, .int .i64 0, .int .i64 0, .int .i64 0, .slice p.C 0 p.cc, .slice p.D 0 p.dc] 34) = X := ⟨_, rfl⟩
  have HBX := Lib.hid (show Below w.heap.size w X from by rw [← hX]; exact ((Below.refl _ _).alloc (Nat.le_refl _) _).alloc (by simp) _)
  have HK0 := Lib.hid (show Bk X w.heap.size 40 #[.slice none 0 0, .slice none 0 0, .slice none 0 0] from by rw [← hX]; exact (Bk.new w _ _).alloc _)
  have HK1 := Lib.hid (show Bk X (w.heap.size + 1) 34 #[.int .i64 2, .string ⟨#[115, 117, 99]⟩, .int .i64 3, .int .i64 0, .slice T 2 tc, .int .i64 0, .int .i64 0, .slice p.B 0 p.bc, .int .i64 0, .int .i64 1, .int .i64 0, .int .i64 0, .int .i64 0, .slice p.C 0 p.cc, .slice p.D 0 p.dc] from by rw [← hX]; exact Bk.last _ _ _ (by simp))
  have x2 : X.cell? ⟨w.heap.size + 1, 2, none⟩ = some (.int .i64 3) := HK1.out.cell 2
  have x3 : X.cell? ⟨w.heap.size + 1, 3, none⟩ = some (.int .i64 0) := HK1.out.cell 3
  have x4 : X.cell? ⟨w.heap.size + 1, 4, none⟩ = some (.slice T 2 tc) := HK1.out.cell 4
  clear hn hS ht hT htc
  go_enter Tryz.func26, Tryz.ntmps26
  go_wp2_with fail
  refine (CW.out _ HBX.out).mono ?_
  rintro e w1 ⟨g, o1, c, F, C, D, d, rfl, hc1, hg, f0, f1, f2, htF, htD, hb1⟩
  have HB1 := Lib.hid (HBX.out.trans (hb1.mono HBX.out.size))
  have HF := Lib.hid (show w1.cell? ⟨g, o1, none⟩ = some (.int .i64 6) ∧ w1.cell? ⟨g, o1 + 1, none⟩ = some (.int .i64 0) ∧ w1.cell? ⟨g, o1 + 2, none⟩ = some (.slice F 0 C) from ⟨f0, f1, f2⟩)
  have HTF := Lib.hid htF
  have HTD := Lib.hid htD
  have HA0 := Lib.hid (HK0.out.below hb1 HK0.out.lt)
  have HA1 := Lib.hid (HK1.out.below hb1 HK1.out.lt)
  obtain ⟨Y, hY⟩ : ∃ Y, w1.alloc (.cells #[.int .i64 6, .int .i64 0, .slice D 0 d] 31) = Y := ⟨_, rfl⟩
  have HBY0 := Lib.hid (show Below w1.heap.size w1 Y from by rw [← hY]; exact (Below.refl _ _).alloc (Nat.le_refl _) _)
  have HBY := Lib.hid (HB1.out.trans (HBY0.out.mono HB1.out.size))
  have HC0 := Lib.hid (HA0.out.below HBY0.out HA0.out.lt)
  have HC1 := Lib.hid (HA1.out.below HBY0.out HA1.out.lt)
  have HK3 := Lib.hid (show Bk Y w1.heap.size 31 #[.int .i64 6, .int .i64 0, .slice D 0 d] from by rw [← hY]; exact Bk.new w1 _ _)
  have y0 : Y.cell? ⟨w1.heap.size, 0, none⟩ = some (.int .i64 6) := HK3.out.cell 0
  have y1 : Y.cell? ⟨w1.heap.size, 1, none⟩ = some (.int .i64 0) := HK3.out.cell 1
  have y2 : Y.cell? ⟨w1.heap.size, 2, none⟩ = some (.slice D 0 d) := HK3.out.cell 2
  have y8 : Y.cell? ⟨w.heap.size + 1, 8, none⟩ = some (.int .i64 0) := HC1.out.cell 8
  have hc1' : (1 : Int) ≤ (c : Int) := by omega
  clear x2 x3 x4 htF htD hb1 hX f0 f1 f2 k0 k1 k2 k3 k4 k5 k6 k7 k8 k9 k10 k11 k12 k13 k14
  go_wp2_with fail
  refine (CI.out D d w1.heap.size _ HBY.out (HTD.out.kept HBY0.out (Nat.le_refl _)) HBY0.out.size).mono ?_
  rintro e w2 ⟨B2, n2, c2, rfl, hb2⟩
  have HB2 := Lib.hid (HBY.out.trans (hb2.mono HBY.out.size))
  have HD0 := Lib.hid (HC0.out.below hb2 HC0.out.lt)
  have HD1 := Lib.hid (HC1.out.below hb2 HC1.out.lt)
  have HB12 := Lib.hid (HBY0.out.trans (hb2.mono HBY0.out.size))
  clear y0 y1 y2 y8 hb2 hY
  have z10 : w2.cell? ⟨w.heap.size + 1, 10, none⟩ = some (.int .i64 0) := HD1.out.cell 10
  have f0 : w2.cell? ⟨g, o1, none⟩ = some (.int .i64 6) := (HB12.out.cell (p := ⟨g, o1, none⟩) hg).trans HF.out.1
  have f1 : w2.cell? ⟨g, o1 + 1, none⟩ = some (.int .i64 0) := (HB12.out.cell (p := ⟨g, o1 + 1, none⟩) hg).trans HF.out.2.1
  have f2 : w2.cell? ⟨g, o1 + 2, none⟩ = some (.slice F 0 C) := (HB12.out.cell (p := ⟨g, o1 + 2, none⟩) hg).trans HF.out.2.2
  have hg2 : g < w2.heap.size := Nat.lt_of_lt_of_le hg HB12.out.size
  obtain ⟨Z, hZ⟩ : ∃ Z, (w2.alloc (.cells #[.slice (some ⟨g, o1, none⟩) 1 c, .slice B2 n2 c2, .slice none 0 0] 40)).alloc (.cells #[.int .i64 6, .int .i64 0, .slice F 0 C] 31) = Z := ⟨_, rfl⟩
  have HZ0 := Lib.hid (show Below w2.heap.size w2 Z from by rw [← hZ]; exact ((Below.refl _ _).alloc (Nat.le_refl _) _).alloc (by simp) _)
  have HZ := Lib.hid (HB2.out.trans (HZ0.out.mono HB2.out.size))
  have HZC := Lib.hid (show Bk Z w2.heap.size 40 #[.slice (some ⟨g, o1, none⟩) 1 c, .slice B2 n2 c2, .slice none 0 0] from by rw [← hZ]; exact (Bk.new w2 _ _).alloc _)
  have HZT := Lib.hid (show Bk Z (w2.heap.size + 1) 31 #[.int .i64 6, .int .i64 0, .slice F 0 C] from by rw [← hZ]; exact Bk.last _ _ _ (by simp))
  have HE0 := Lib.hid (HD0.out.below HZ0.out HD0.out.lt)
  have HE1 := Lib.hid (HD1.out.below HZ0.out HD1.out.lt)
  have HTZ := Lib.hid (HTF.out.kept (HB12.out.trans (HZ0.out.mono HB12.out.size)) (Nat.le_refl _))
  have HKE := Lib.hid (fun (V : World) (hV : Below Z.heap.size Z V) => (show Bk V w2.heap.size 40 #[.slice (some ⟨g, o1, none⟩) 1 c, .slice B2 n2 c2, .slice none 0 0] ∧ Bk V (w2.heap.size + 1) 31 #[.int .i64 6, .int .i64 0, .slice F 0 C] ∧ Bk V w.heap.size 40 #[.slice none 0 0, .slice none 0 0, .slice none 0 0] ∧ Bk V (w.heap.size + 1) 34 #[.int .i64 2, .string ⟨#[115, 117, 99]⟩, .int .i64 3, .int .i64 0, .slice T 2 tc, .int .i64 0, .int .i64 0, .slice p.B 0 p.bc, .int .i64 0, .int .i64 1, .int .i64 0, .int .i64 0, .int .i64 0, .slice p.C 0 p.cc, .slice p.D 0 p.dc] from ⟨HZC.out.below hV HZC.out.lt, HZT.out.below hV HZT.out.lt, HE0.out.below hV HE0.out.lt, HE1.out.below hV HE1.out.lt⟩))
  have CR2 := Lib.hid (fun (V : World) (hV : Below Z.heap.size Z V) => CR.out F C w1.heap.size V (HZ.out.trans (hV.mono HZ.out.size)) (HTZ.out.kept hV (by have := HB12.out.size; have := HZ0.out.size; omega)) (by have := HB12.out.size; have := HZ0.out.size; have := hV.size; omega))
  have hsz : w2.heap.size < Z.heap.size := HZC.out.lt
  have HSZ := Lib.hid hsz
  clear hsz
  go_wp2_with fail
  refine wp_loop_rounds 2 ?_
  rw [rounds_succ]
  go_upto_region 8 with fail
  have z2 : Z.cell? ⟨w2.heap.size, 2, none⟩ = some (.slice none 0 0) := HZC.out.cell 2
  have e8 : Z.cell? ⟨w.heap.size + 1, 8, none⟩ = some (.int .i64 0) := HE1.out.cell 8
  have e10 : Z.cell? ⟨w.heap.size + 1, 10, none⟩ = some (.int .i64 0) := HE1.out.cell 10
  have t0 : Z.cell? ⟨w2.heap.size + 1, 0, none⟩ = some (.int .i64 6) := HZT.out.cell 0
  have t1 : Z.cell? ⟨w2.heap.size + 1, 1, none⟩ = some (.int .i64 0) := HZT.out.cell 1
  have t2 : Z.cell? ⟨w2.heap.size + 1, 2, none⟩ = some (.slice F 0 C) := HZT.out.cell 2
  have hfz : ∀ q, Z.frozen? ⟨w2.heap.size, q, none⟩ = false := fun q => HZC.out.cold q
  have hbk := Lib.hid ((Below.refl Z.heap.size Z).drew)
  clear z10 f0 f1 f2 hg2
  clear hZ
  refine wp_last ?_
  intro K0 hK0
  go_cut [] from 49 to 62 (fun wx => ∃ g8 c8, Bk wx w2.heap.size 40 #[.slice (some ⟨g, o1, none⟩) 1 c, .slice B2 n2 c2, .slice (some ⟨g8, 0, none⟩) 1 c8] ∧ Bk wx w.heap.size 40 #[.slice none 0 0, .slice none 0 0, .slice none 0 0] ∧ wx.cell? ⟨g8, 0, none⟩ = some (.bool true) ∧ g8 < wx.heap.size ∧ w.heap.size + 1 < g8 ∧ Below w.heap.size w wx)
  case first =>
    go_region_law
      (first
       | (go_simp; go_at_call 47
          refine (CR2.out _ hbk.out).mono ?_
          rintro e w3 ⟨B3, n3, c3, D3, m3, d3, rfl, hb3⟩
          have hbk := Lib.hid (hbk.out.trans (hb3.mono hbk.out.size))
          clear hb3 z2 e8 e10 t0 t1 t2 hfz
          have hz3 : w2.heap.size < w3.heap.size := (HKE.out _ hbk.out).1.lt
          have z2 : w3.cell? ⟨w2.heap.size, 2, none⟩ = some (.slice none 0 0) := (HKE.out _ hbk.out).1.cell 2
          have e8 : w3.cell? ⟨w.heap.size + 1, 8, none⟩ = some (.int .i64 0) := (HKE.out _ hbk.out).2.2.2.cell 8
          have e10 : w3.cell? ⟨w.heap.size + 1, 10, none⟩ = some (.int .i64 0) := (HKE.out _ hbk.out).2.2.2.cell 10
          have t0 : w3.cell? ⟨w2.heap.size + 1, 0, none⟩ = some (.int .i64 6) := (HKE.out _ hbk.out).2.1.cell 0
          have t1 : w3.cell? ⟨w2.heap.size + 1, 1, none⟩ = some (.int .i64 0) := (HKE.out _ hbk.out).2.1.cell 1
          have t2 : w3.cell? ⟨w2.heap.size + 1, 2, none⟩ = some (.slice F 0 C) := (HKE.out _ hbk.out).2.1.cell 2
          have hfz : ∀ q, w3.frozen? ⟨w2.heap.size, q, none⟩ = false := fun q => (HKE.out _ hbk.out).1.cold q)
       | (refine step_app rfl (.tmp 50) (.tmp 60) 38 rfl Z.heap.size 45 i0 (.agg #[.bool false, .slice none 0 0, .slice none 0 0]) 3 56 Tryz.underlying38 hi0 hz0 hz1 hz2 rfl (by decide) (.slice none 0 0) 0 [] rfl (World.ownsRow_nil _ _ _ _) (some ⟨w3.heap.size, 0, none⟩) 1 1 [.bool true, .slice B3 n3 c3, .slice D3 m3 d3] rfl (src_at _ _ _ (by simp) rfl) (fun u hu => by simp at hu; rcases hu with rfl | rfl | rfl <;> rfl) (by unfold maxLen; omega) (by omega) (by have := hbk.out.size; simp; omega) ?_
          rintro v4 w4 ⟨ho4, hg4, hv4⟩
          obtain ⟨g8, c8, rfl, hg8, hg8'⟩ := ho4.form (by omega)
          have HC8 := Lib.hid (show w4.cell? ⟨g8, 0, none⟩ = some (.bool true) from ho4.cellAt 0 (by decide))
          have HG8 := Lib.hid (show Z.heap.size ≤ g8 ∧ g8 < w4.heap.size from ⟨hg8, hg8'⟩)
          have hbk := Lib.hid (show Below Z.heap.size Z w4 from (hbk.out.alloc hbk.out.size _).grown hg4 (by have := hbk.out.size; simp; omega) (fun g e => by cases e))
          clear ho4 hg4 hv4 hg8 hg8' z2 e8 e10 t0 t1 t2 hfz
          have z2 : w4.cell? ⟨w2.heap.size, 2, none⟩ = some (.slice none 0 0) := (HKE.out _ hbk.out).1.cell 2
          have hfz : ∀ q, w4.frozen? ⟨w2.heap.size, q, none⟩ = false := fun q => (HKE.out _ hbk.out).1.cold q))
    all_goals
      go_wp2_with fail
      go_meet
      case rel =>
        have hk := HKE.out _ hbk.out
        have hd := HSZ.out
        have hq := HG8.out
        have hzz := HZ.out.size
        have hw2 := HB2.out.size
        have hlt := HD1.out.lt
        exact ⟨g8, c8, hk.1.at_ 2 _, hk.2.2.1.far (by show w.heap.size ≠ w2.heap.size; omega) _, (World.cell?_setCell_other _ _ _ _ (fun e => by have := congrArg Addr.block e; simp at this; omega)).trans HC8.out, by simp [World.setCell]; exact hq.2, by omega, (HZ.out.trans (hbk.out.mono HZ.out.size)).setCell hw2 _⟩
  case rest =>
    obtain ⟨g8, c8, r1, r2, r3, r4, r5, r6⟩ := hcut
    refine hK0 _ _ ?_
    have HR3 := Lib.hid r3
    have HR6 := Lib.hid r6
    have hgr : w.heap.size ≠ g8 := by omega
    have q0 : wc.cell? ⟨w2.heap.size, 0, none⟩ = some (.slice (some ⟨g, o1, none⟩) 1 c) := r1.cell 0
    have q1 : wc.cell? ⟨w2.heap.size, 1, none⟩ = some (.slice B2 n2 c2) := r1.cell 1
    have q2 : wc.cell? ⟨w2.heap.size, 2, none⟩ = some (.slice (some ⟨g8, 0, none⟩) 1 c8) := r1.cell 2
    have p0 : wc.cell? ⟨w.heap.size, 0, none⟩ = some (.slice none 0 0) := r2.cell 0
    have p1 : wc.cell? ⟨w.heap.size, 1, none⟩ = some (.slice none 0 0) := r2.cell 1
    have p2 : wc.cell? ⟨w.heap.size, 2, none⟩ = some (.slice none 0 0) := r2.cell 2
    have hfz2 : ∀ q, wc.frozen? ⟨w.heap.size, q, none⟩ = false := fun q => r2.cold q
    have HS0 := Lib.hid (((r2.at_ 0 (.slice (some ⟨g, o1, none⟩) 1 c)).at_ 1 (.slice B2 n2 c2)).at_ 2 (.slice (some ⟨g8, 0, none⟩) 1 c8))
    have HZ8 := Lib.hid r4
    clear r1 r2 r3 r6 hfz z2 e8 e10 t0 t1 t2
    go_wp2_with fail
    rw [rounds_succ]
    go_wp2_with fail
    have s0 := HS0.out.cell 0
    have s1 := HS0.out.cell 1
    have s2 := HS0.out.cell 2
    refine bodyPost_ret (v := .agg #[.slice (some ⟨g, o1, none⟩) 1 c, .slice B2 n2 c2, .slice (some ⟨g8, 0, none⟩) 1 c8]) (by simp [results, Tryz.results26, go_sem, s0, s1, s2]) rfl ?_
    refine ⟨_, c, B2, n2, c2, g8, c8, rfl, ?_, by omega, by simp [World.setCell]; exact HZ8.out, ((HR6.out.setCell (Nat.le_refl _) _).setCell (Nat.le_refl _) _).setCell (Nat.le_refl _) _⟩
    exact (cell_three (g := w.heap.size) (fun e => hgr e.symm) 0 1 2 _ _ _).trans HR3.out

end Go.Proofs.YtcbbaognomddkaaGreatDoor

/- sign.Parts of numbers; the laws' awake, light. -/
namespace Go.Proofs.YtcbbaognomddkaaGreatDoor
open Go.RowKit
set_option linter.unusedVariables false
set_option maxRecDepth 100000

set_option maxHeartbeats 4000000 in
theorem Parts_nat (A : Option Addr) (cap lo hi : Nat) (w : World) (hcap : 3 ≤ cap) (hn : EntsAt w lo hi A natL) (hhi : hi ≤ w.heap.size) (hS : ShapesM w) :
    Calls Tryz.prog 13 #[.slice A 3 cap, .int .i64 2] w fun e w' => ∃ B c D m d g c8, e = .returned (.tuple #[.agg #[.slice B 1 c, .slice D m d, .slice (some ⟨g, 0, none⟩) 1 c8], .int .i64 0]) ∧ w'.cell? ⟨g, 0, none⟩ = some (.bool true) ∧ g < w'.heap.size ∧ Below w.heap.size w w' := by
  have CF := Lib.hid (fun (V : World) (hV : Below w.heap.size w V) => (show Calls Tryz.prog 11 #[.slice A 3 cap] V fun e w' => e = .returned (.bool true) ∧ Below V.heap.size V w' from by
    have h := SFormed_any natL A cap lo hi V (by decide) hcap (hn.kept hV hhi) (by have := hV.size; omega) (hS.kept hV)
    rw [nat_formed] at h
    exact h))
  have CO := Lib.hid (fun (V : World) (hV : Below w.heap.size w V) => (show Calls Tryz.prog 25 #[.slice A 3 cap, .int .i64 2, .int .i64 2] V fun e w' => e = .returned (.bool true) ∧ V = w' from isOf_any natL A cap lo hi 2 2 V (by unfold maxLen; decide) (hn.kept hV hhi)))
  have CP := Lib.hid (fun (V : World) (hV : Below w.heap.size w V) => parts_nat A cap lo hi V (hn.kept hV hhi) (by have := hV.size; omega) (hS.kept hV))
  have HX := Lib.hid (show Below w.heap.size w (w.alloc (.cells #[.slice none 0 0, .slice none 0 0, .slice none 0 0] 40)) from (Below.refl _ _).alloc (Nat.le_refl _) _)
  have HK := Lib.hid (Bk.new w 40 #[.slice none 0 0, .slice none 0 0, .slice none 0 0])
  clear hn hS
  go_enter Tryz.func13, Tryz.ntmps13
  go_wp2_with fail
  refine (CF.out _ HX.out).mono ?_
  rintro e w1 ⟨rfl, hb1⟩
  have HB1 := Lib.hid (HX.out.trans (hb1.mono HX.out.size))
  have HK1 := Lib.hid (HK.out.below hb1 HK.out.lt)
  clear hb1
  go_wp2_with fail
  refine (CO.out _ HB1.out).mono ?_
  rintro e w2 ⟨rfl, rfl⟩
  go_wp2_with fail
  refine (CP.out _ HB1.out).mono ?_
  rintro e w3 ⟨B, c, D, m, d, g, c8, rfl, hg, hgl, hgz, hb3⟩
  have HB3 := Lib.hid (HB1.out.trans (hb3.mono HB1.out.size))
  have HK3 := Lib.hid (HK1.out.below hb3 HK1.out.lt)
  have hlt := HK1.out.lt
  have hne : g ≠ w.heap.size := by omega
  have HG := Lib.hid hg
  have HGZ := Lib.hid hgz
  have hfz : ∀ q, w3.frozen? ⟨w.heap.size, q, none⟩ = false := fun q => HK3.out.cold q
  have p0 : w3.cell? ⟨w.heap.size, 0, none⟩ = some (.slice none 0 0) := HK3.out.cell 0
  have p1 : w3.cell? ⟨w.heap.size, 1, none⟩ = some (.slice none 0 0) := HK3.out.cell 1
  have p2 : w3.cell? ⟨w.heap.size, 2, none⟩ = some (.slice none 0 0) := HK3.out.cell 2
  have HS0 := Lib.hid (((HK3.out.at_ 0 (.slice B 1 c)).at_ 1 (.slice D m d)).at_ 2 (.slice (some ⟨g, 0, none⟩) 1 c8))
  clear hg hgl hgz hb3 hlt
  go_wp2_with fail
  have s0 := HS0.out.cell 0
  have s1 := HS0.out.cell 1
  have s2 := HS0.out.cell 2
  refine bodyPost_ret (v := .tuple #[.agg #[.slice B 1 c, .slice D m d, .slice (some ⟨g, 0, none⟩) 1 c8], .int .i64 0]) (by simp [results, Tryz.results13, go_sem, s0, s1, s2]) rfl ?_
  refine ⟨B, c, D, m, d, g, c8, rfl, ?_, by simp [World.setCell]; exact HGZ.out, ((HB3.out.setCell (Nat.le_refl _) _).setCell (Nat.le_refl _) _).setCell (Nat.le_refl _) _⟩
  exact (cell_three (g := w.heap.size) hne 0 1 2 _ _ _).trans HG.out

set_option maxHeartbeats 4000000 in
theorem awakeS_any (w : World) (hS : ShapesM w) : Calls Tryz.prog 6 #[] w fun e w' => e = .returned (.bool true) ∧ Below w.heap.size w w' := by
  have CN := Lib.hid (fun (V : World) => nat_any V)
  have CP := Lib.hid (fun (A : Option Addr) (cap : Nat) (V : World) (hV : Below w.heap.size w V) (hn : EntsAt V 0 V.heap.size A natL) (hc : 3 ≤ cap) => Parts_nat A cap 0 V.heap.size V hc hn (Nat.le_refl _) (hS.kept hV))
  have CF := Lib.hid (fun (A : Option Addr) (cap : Nat) (V : World) (hV : Below w.heap.size w V) (hn : EntsAt V 0 V.heap.size A natL) (hc : 3 ≤ cap) => (show Calls Tryz.prog 11 #[.slice A 3 cap] V fun e w' => e = .returned (.bool true) ∧ Below V.heap.size V w' from by
    have h := SFormed_any natL A cap 0 V.heap.size V (by decide) hc hn (Nat.le_refl _) (hS.kept hV)
    rw [nat_formed] at h
    exact h))
  clear hS
  go_enter Tryz.func6, Tryz.ntmps6
  go_wp2_with fail
  refine (CN.out _).mono ?_
  rintro e w1 ⟨A, ca, rfl, hn1, hc1, hb1⟩
  have HB1 := Lib.hid hb1
  go_wp2_with fail
  refine (CP.out A ca _ HB1.out hn1 hc1).mono ?_
  rintro e w2 ⟨B, c, D, m, d, g, c8, rfl, hg, hgz, hb2⟩
  have HB2 := Lib.hid (HB1.out.trans (hb2.mono HB1.out.size))
  obtain ⟨X, hX⟩ : ∃ X, w2.alloc (.cells #[.slice B 1 c, .slice D m d, .slice (some ⟨g, 0, none⟩) 1 c8] 40) = X := ⟨_, rfl⟩
  have HX0 := Lib.hid (show Below w2.heap.size w2 X from by rw [← hX]; exact (Below.refl _ _).alloc (Nat.le_refl _) _)
  have HKX := Lib.hid (show Bk X w2.heap.size 40 #[.slice B 1 c, .slice D m d, .slice (some ⟨g, 0, none⟩) 1 c8] from by rw [← hX]; exact Bk.new w2 _ _)
  have HGX := Lib.hid ((HX0.out.cell (p := ⟨g, 0, none⟩) hgz).trans hg)
  have HGZ := Lib.hid (Nat.lt_of_lt_of_le hgz HX0.out.size)
  have HBX := Lib.hid (HB2.out.trans (HX0.out.mono HB2.out.size))
  clear hn1 hc1 hb1 hb2 hg hgz
  go_wp2_with fail
  refine (CN.out _).mono ?_
  rintro e w3 ⟨A3, c3, rfl, hn3, hc3, hb3⟩
  have HB3 := Lib.hid (HBX.out.trans (hb3.mono HBX.out.size))
  have HK3 := Lib.hid (HKX.out.below hb3 HKX.out.lt)
  have HG3 := Lib.hid ((hb3.cell (p := ⟨g, 0, none⟩) HGZ.out).trans HGX.out)
  have HGZ3 := Lib.hid (Nat.lt_of_lt_of_le HGZ.out hb3.size)
  go_wp2_with fail
  refine (CF.out A3 c3 _ HB3.out hn3 hc3).mono ?_
  rintro e w4 ⟨rfl, hb4⟩
  have HB4 := Lib.hid (HB3.out.trans (hb4.mono HB3.out.size))
  have k0 : w4.cell? ⟨w2.heap.size, 0, none⟩ = some (.slice B 1 c) := (HK3.out.below hb4 HK3.out.lt).cell 0
  have k2 : w4.cell? ⟨w2.heap.size, 2, none⟩ = some (.slice (some ⟨g, 0, none⟩) 1 c8) := (HK3.out.below hb4 HK3.out.lt).cell 2
  have kg : w4.cell? ⟨g, 0, none⟩ = some (.bool true) := (hb4.cell (p := ⟨g, 0, none⟩) HGZ3.out).trans HG3.out
  clear hn3 hc3 hb3 hb4 hX
  go_wp2_with fail
  go_ret
  exact ⟨rfl, HB4.out⟩

/-- light. -/
theorem light_any (A : Option Addr) (n cap : Nat) (w : World) : Calls Tryz.prog 5 #[.slice A n cap] w fun e w' => e = .returned (.bool (decide (n ≤ 300))) ∧ w = w' := by
  by_cases h : n ≤ 300
  · have t0 : decide ((n : Int) ≤ 300) = true := decide_eq_true (by omega)
    have t1 : decide ((300 : Int) < (n : Int)) = false := decide_eq_false (by omega)
    have t2 : decide (n ≤ 300) = true := decide_eq_true h
    go_enter Tryz.func5, Tryz.ntmps5
    go_wp2_with fail
    go_ret
    exact ⟨by rw [t2]; rfl, rfl⟩
  · have t0 : decide ((n : Int) ≤ 300) = false := decide_eq_false (by omega)
    have t1 : decide ((300 : Int) < (n : Int)) = true := decide_eq_true (by omega)
    have t2 : decide (n ≤ 300) = false := decide_eq_false h
    go_enter Tryz.func5, Tryz.ntmps5
    go_wp2_with fail
    go_ret
    exact ⟨by rw [t2]; rfl, rfl⟩

end Go.Proofs.YtcbbaognomddkaaGreatDoor
