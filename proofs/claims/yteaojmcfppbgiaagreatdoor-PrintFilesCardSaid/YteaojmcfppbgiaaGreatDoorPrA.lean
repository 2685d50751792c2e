/- print's writer: a universe, a name with its type, an expression. -/
import Derived.Test.YteaojmcfppbgiaaGreatDoorD1
import Derived.Test.YteaojmcfppbgiaaGreatDoorA4
import Derived.BigRegion
import Derived.Deep.RegionHeld3
namespace Go.Proofs.YteaojmcfppbgiaaGreatDoor
open Go.RowKit
set_option linter.unusedVariables false
set_option maxRecDepth 100000

theorem Bk.w5 {w : World} {g : Nat} {e : TypeId} {c0 c1 c2 c3 c4 : Value} (h : Bk w g e #[c0, c1, c2, c3, c4]) :
    w.cell? ⟨g, 0, none⟩ = some c0 ∧ w.cell? ⟨g, 1, none⟩ = some c1 ∧ w.cell? ⟨g, 2, none⟩ = some c2 ∧ w.cell? ⟨g, 3, none⟩ = some c3 ∧ w.cell? ⟨g, 4, none⟩ = some c4 :=
  ⟨h.cell 0, h.cell 1, h.cell 2, h.cell 3, h.cell 4⟩
theorem Bk.newAt {w : World} {g : Nat} (h : w.heap.size = g) (e : TypeId) (cs : Array Value) : Bk (w.alloc (.cells cs e)) g e cs := by subst h; exact Bk.new w e cs
theorem nm_size {s : ByteArray} (h : nmB s = true) : s.size ≤ 65535 := by
  unfold nmB at h
  obtain ⟨ns, hn⟩ := @of_decide_eq_true _ (Classical.propDecidable _) h
  have := hn.size
  omega

/-- The table of levels. -/
def bareT : List Int := [0, 2, 2, 0, 0, 1]
def Bare (w : World) : Prop := ∀ i, i < 6 → w.cell? ⟨2, i, none⟩ = some (.int .i64 (bareT.getD i 0))
theorem Bare.lt {w : World} (h : Bare w) : 2 < w.heap.size := World.block_lt_of_cell? w _ (h 0 (by omega))
theorem Bare.kept {w w' : World} {B : Nat} (h : Bare w) (hb : Below B w w') (hB : 2 < B) : Bare w' := fun i hi => (hb.cell (p := ⟨2, i, none⟩) hB).trans (h i hi)

theorem number_small (n : Nat) (w : World) (h : n < 100) : Calls Tryz.prog 23 #[.int .i64 n] w fun e w' => e = .returned (.string ⟨(Lib.decDigits n).toArray⟩) ∧ Below w.heap.size w w' := by
  have H := Lib.hid (itoa_any n w (.inl h))
  obtain ⟨r, hr⟩ : ∃ r : ByteArray, ⟨(Lib.decDigits n).toArray⟩ = r := ⟨_, rfl⟩
  rw [hr] at H ⊢
  clear hr
  go_enter Tryz.func23, Tryz.ntmps23
  go_wp2_with fail
  refine H.out.mono ?_; rintro e w1 ⟨rfl, hb⟩
  go_wp2_with fail
  go_ret
  exact ⟨rfl, hb⟩

set_option maxHeartbeats 2000000 in
theorem set_is {w : World} {b : Nat} {T : Tx} (h : WrAt w b T) (n : Int) (h0 : 0 ≤ n) (h7 : n ≤ 7) :
    Calls Tryz.prog 73 #[.pointer (some ⟨b, 0, none⟩), .int .i64 n] w (PutIs b T (setX n) w) := by
  have HW := Lib.hid h
  have hbl := h.lt
  by_cases hn : n = 0
  · subst hn
    have EQ : Hid (setX 0 = tx ⟨#[83, 101, 116]⟩) := Lib.hid rfl
    clear h
    go_enter Tryz.func73, Tryz.ntmps73
    go_wp2_with fail
    refine (put1 (HW.out.alloc (.cells #[.string ⟨#[83, 101, 116]⟩] 9)) _ ⟨#[83, 101, 116]⟩ (Bk.newAt (by first | rfl | simp) 9 #[.string ⟨#[83, 101, 116]⟩]) (by first | omega | (simp; done) | (simp; omega)) (by decide)).mono ?_; rintro e w1 ⟨rfl, T1, hx, hw, hk⟩
    have hs1 := hk.size
    try simp at hs1
    have HW1 := Lib.hid hw
    have hbl1 := hw.lt
    have HK1 := Lib.hid (((Wk.refl b w).alloc (by first | omega | (simp; done) | (simp; omega)) (.cells #[.string ⟨#[83, 101, 116]⟩] 9)).trans hk)
    have HX1 := Lib.hid hx
    clear hx hw hk
    go_wp2_with fail
    go_end0
    exact ⟨rfl, T1, by rw [EQ.out]; simpa only [List.append_assoc] using HX1.out, HW1.out, HK1.out⟩
  · obtain ⟨m, rfl⟩ : ∃ m : Nat, n = m := ⟨n.toNat, by omega⟩
    have HN := Lib.hid (fun V => number_small m V (by omega))
    obtain ⟨r, hr⟩ : ∃ r : ByteArray, ⟨(Lib.decDigits m).toArray⟩ = r := ⟨_, rfl⟩
    rw [hr] at HN
    have HRS : Hid (r.size ≤ 65535) := Lib.hid (by
      have := digs_lt 1 m (by omega)
      rw [← hr]
      show (Lib.decDigits m).toArray.size ≤ _
      rw [digs_length, ← Lib.decDigits_length] at this
      simpa using Nat.le_trans this (by decide))
    have EQ : Hid (setX m = tx ⟨#[83, 101, 116]⟩ ++ (tx ⟨#[32]⟩ ++ tx r)) := Lib.hid (by
      unfold setX
      rw [if_neg hn, ← hr]
      rfl)
    have t0 : ((m : Int) != 0) = true := by simpa using hn
    clear h hn hr
    go_enter Tryz.func73, Tryz.ntmps73
    go_wp2_with fail
    refine (put1 (HW.out.alloc (.cells #[.string ⟨#[83, 101, 116]⟩] 9)) _ ⟨#[83, 101, 116]⟩ (Bk.newAt (by first | rfl | simp) 9 #[.string ⟨#[83, 101, 116]⟩]) (by first | omega | (simp; done) | (simp; omega)) (by decide)).mono ?_; rintro e w1 ⟨rfl, T1, hx, hw, hk⟩
    have hs1 := hk.size
    try simp at hs1
    have HW1 := Lib.hid hw
    have hbl1 := hw.lt
    have HK1 := Lib.hid (((Wk.refl b w).alloc (by first | omega | (simp; done) | (simp; omega)) (.cells #[.string ⟨#[83, 101, 116]⟩] 9)).trans hk)
    have HX1 := Lib.hid hx
    clear hx hw hk
    go_wp2_with fail
    refine (HN.out _).mono ?_; rintro e w2 ⟨rfl, hb⟩
    have hs2 := hb.size
    have HW2 := Lib.hid (HW1.out.below hb)
    have hbl2 := HW2.out.lt
    have HK2 := Lib.hid (HK1.out.trans (.of hb (by omega)))
    have HX2 := Lib.hid HX1.out
    clear hb
    go_wp2_with fail
    refine (put2 (HW2.out.alloc (.cells #[.string ⟨#[32]⟩, .string r] 9)) _ ⟨#[32]⟩ r (Bk.newAt (by first | rfl | simp) 9 #[.string ⟨#[32]⟩, .string r]) (by first | omega | (simp; done) | (simp; omega)) (by decide) HRS.out).mono ?_; rintro e w3 ⟨rfl, T3, hx, hw, hk⟩
    have hs3 := hk.size
    try simp at hs3
    have HW3 := Lib.hid hw
    have hbl3 := hw.lt
    have HK3 := Lib.hid ((HK2.out.alloc (by first | omega | (simp; done) | (simp; omega)) (.cells #[.string ⟨#[32]⟩, .string r] 9)).trans hk)
    have HX3 := Lib.hid (HX2.out.trans hx)
    clear hx hw hk
    go_wp2_with fail
    go_end0
    exact ⟨rfl, T3, by rw [EQ.out]; simpa only [List.append_assoc] using HX3.out, HW3.out, HK3.out⟩

/-- What expr does with a right tree. -/
def ExprIs (t : RT) : Prop := ∀ (lv lo hi : Nat) (A : Option Addr) (c b : Nat) (T : Tx) (w : World), lv ≤ 2 → IsNode w lo hi t A c → hi ≤ b → 2 < b → Bare w → WrAt w b T → goodB t false = true →
    Calls Tryz.prog 36 #[.pointer (some ⟨b, 0, none⟩), nodeV t A c, .int .i64 lv] w (PutIs b T (exprX t lv) w)

set_option maxHeartbeats 2000000 in
theorem typed_of {t : RT} (he : ExprIs t) {lo hi : Nat} {A : Option Addr} {c b : Nat} {T : Tx} {w : World} (s : ByteArray) (hs : s.size ≤ 65535) (h : IsNode w lo hi t A c) (hhi : hi ≤ b) (hg : 2 < b) (hbr : Bare w) (hw : WrAt w b T) (hgd : goodB t false = true) :
    Calls Tryz.prog 64 #[.pointer (some ⟨b, 0, none⟩), .string s, nodeV t A c] w (PutIs b T (typedX (tx s) (exprX t 0)) w) := by
  have HW := Lib.hid hw
  have hbl := hw.lt
  have HS := Lib.hid hs
  have HN := Lib.hid h
  have HHI := Lib.hid hhi
  have HG := Lib.hid hg
  have HBR := Lib.hid hbr
  have HGD := Lib.hid hgd
  have he0 := fun V (T1 : Tx) (hn : IsNode V lo hi t A c) (hw : WrAt V b T1) (hb : Bare V) => he 0 lo hi A c b T1 V (by decide) hn hhi hg hb hw hgd
  obtain ⟨X, hX⟩ : ∃ X, exprX t 0 = X := ⟨_, rfl⟩
  rw [hX] at he0 ⊢
  have EQ : Hid (typedX (tx s) X = (tx s ++ tx ⟨#[32, 58, 32]⟩) ++ X) := Lib.hid rfl
  have HE := Lib.hid he0
  unfold nodeV at HE
  unfold nodeV
  clear he he0 hw hs h hhi hg hbr hgd hX
  go_enter Tryz.func64, Tryz.ntmps64
  go_wp2_with fail
  refine (put2 ((HW.out.alloc (.cells #[.int .i64 t.k, .int .i64 t.a, .string t.s, .int .i64 t.n, .slice A t.l.length c] 36)).alloc (.cells #[.string s, .string ⟨#[32, 58, 32]⟩] 9)) _ s ⟨#[32, 58, 32]⟩ (Bk.newAt (by first | rfl | simp) 9 #[.string s, .string ⟨#[32, 58, 32]⟩]) (by first | omega | (simp; done) | (simp; omega)) HS.out (by decide)).mono ?_; rintro e w1 ⟨rfl, T1, hx, hw, hk⟩
  have hs1 := hk.size
  try simp at hs1
  have HW1 := Lib.hid hw
  have hbl1 := hw.lt
  have HK1 := Lib.hid ((((Wk.refl b w).alloc (by first | omega | (simp; done) | (simp; omega)) (.cells #[.int .i64 t.k, .int .i64 t.a, .string t.s, .int .i64 t.n, .slice A t.l.length c] 36)).alloc (by first | omega | (simp; done) | (simp; omega)) (.cells #[.string s, .string ⟨#[32, 58, 32]⟩] 9)).trans hk)
  have HX1 := Lib.hid hx
  have HBX1 : Hid (Bk w1 w.heap.size 36 #[.int .i64 t.k, .int .i64 t.a, .string t.s, .int .i64 t.n, .slice A t.l.length c]) := Lib.hid (Bk.wk ((Bk.new w 36 #[.int .i64 t.k, .int .i64 t.a, .string t.s, .int .i64 t.n, .slice A t.l.length c]).alloc _) hk (by first | omega | (simp; done) | (simp; omega)) (by decide))
  clear hx hw hk
  have HBXl1 := HBX1.out.lt
  obtain ⟨HBXc1_0, HBXc1_1, HBXc1_2, HBXc1_3, HBXc1_4⟩ := HBX1.out.w5
  go_wp2_with fail
  refine (HE.out _ _ (HN.out.kept HK1.out.below HHI.out) HW1.out (HBR.out.kept HK1.out.below HG.out)).mono ?_; rintro e w2 ⟨rfl, T2, hx, hw, hk⟩
  have hs2 := hk.size
  try simp at hs2
  have HW2 := Lib.hid hw
  have hbl2 := hw.lt
  have HK2 := Lib.hid (HK1.out.trans hk)
  have HX2 := Lib.hid (HX1.out.trans hx)
  have HBX2 : Hid (Bk w2 w.heap.size 36 #[.int .i64 t.k, .int .i64 t.a, .string t.s, .int .i64 t.n, .slice A t.l.length c]) := Lib.hid (Bk.wk HBX1.out hk (by first | omega | (simp; done) | (simp; omega)) (by decide))
  clear hx hw hk
  go_wp2_with fail
  go_end0
  exact ⟨rfl, T2, by rw [EQ.out]; simpa only [List.append_assoc] using HX2.out, HW2.out, HK2.out⟩

set_option maxHeartbeats 2000000 in
theorem binding_of {t : RT} (he : ExprIs t) {lo hi : Nat} {A : Option Addr} {c b : Nat} {T : Tx} {w : World} (s : ByteArray) (hs : s.size ≤ 65535) (h : IsNode w lo hi t A c) (hhi : hi ≤ b) (hg : 2 < b) (hbr : Bare w) (hw : WrAt w b T) (hgd : goodB t false = true) :
    Calls Tryz.prog 63 #[.pointer (some ⟨b, 0, none⟩), .string s, nodeV t A c] w (PutIs b T (bindX (tx s) (exprX t 0)) w) := by
  have HW := Lib.hid hw
  have hbl := hw.lt
  have HN := Lib.hid h
  have HHI := Lib.hid hhi
  have HG := Lib.hid hg
  have HBR := Lib.hid hbr
  have he0 := fun (V : World) (T1 : Tx) (hn : IsNode V lo hi t A c) (hw : WrAt V b T1) (hb : Bare V) => typed_of he s hs hn hhi hg hb hw hgd
  have e0 : bindX (tx s) (exprX t 0) = [40] ++ (typedX (tx s) (exprX t 0) ++ [41]) := rfl
  rw [e0]
  obtain ⟨X, hX⟩ : ∃ X, typedX (tx s) (exprX t 0) = X := ⟨_, rfl⟩
  rw [hX] at he0 ⊢
  obtain ⟨Y, hY⟩ : ∃ Y, [40] ++ (X ++ [41]) = Y := ⟨_, rfl⟩
  have EQ : Hid (Y = tx ⟨#[40]⟩ ++ (X ++ tx ⟨#[41]⟩)) := Lib.hid hY.symm
  rw [hY]
  have HE := Lib.hid he0
  unfold nodeV at HE
  unfold nodeV
  clear he he0 e0 hX hY hw hs h hhi hg hbr hgd
  go_enter Tryz.func63, Tryz.ntmps63
  go_wp2_with fail
  refine (put1 ((HW.out.alloc (.cells #[.int .i64 t.k, .int .i64 t.a, .string t.s, .int .i64 t.n, .slice A t.l.length c] 36)).alloc (.cells #[.string ⟨#[40]⟩] 9)) _ ⟨#[40]⟩ (Bk.newAt (by first | rfl | simp) 9 #[.string ⟨#[40]⟩]) (by first | omega | (simp; done) | (simp; omega)) (by decide)).mono ?_; rintro e w1 ⟨rfl, T1, hx, hw, hk⟩
  have hs1 := hk.size
  try simp at hs1
  have HW1 := Lib.hid hw
  have hbl1 := hw.lt
  have HK1 := Lib.hid ((((Wk.refl b w).alloc (by first | omega | (simp; done) | (simp; omega)) (.cells #[.int .i64 t.k, .int .i64 t.a, .string t.s, .int .i64 t.n, .slice A t.l.length c] 36)).alloc (by first | omega | (simp; done) | (simp; omega)) (.cells #[.string ⟨#[40]⟩] 9)).trans hk)
  have HX1 := Lib.hid hx
  have HBX1 : Hid (Bk w1 w.heap.size 36 #[.int .i64 t.k, .int .i64 t.a, .string t.s, .int .i64 t.n, .slice A t.l.length c]) := Lib.hid (Bk.wk ((Bk.new w 36 #[.int .i64 t.k, .int .i64 t.a, .string t.s, .int .i64 t.n, .slice A t.l.length c]).alloc _) hk (by first | omega | (simp; done) | (simp; omega)) (by decide))
  clear hx hw hk
  have HBXl1 := HBX1.out.lt
  obtain ⟨HBXc1_0, HBXc1_1, HBXc1_2, HBXc1_3, HBXc1_4⟩ := HBX1.out.w5
  go_wp2_with fail
  refine (HE.out _ _ (HN.out.kept HK1.out.below HHI.out) HW1.out (HBR.out.kept HK1.out.below HG.out)).mono ?_; rintro e w2 ⟨rfl, T2, hx, hw, hk⟩
  have hs2 := hk.size
  try simp at hs2
  have HW2 := Lib.hid hw
  have hbl2 := hw.lt
  have HK2 := Lib.hid (HK1.out.trans hk)
  have HX2 := Lib.hid (HX1.out.trans hx)
  have HBX2 : Hid (Bk w2 w.heap.size 36 #[.int .i64 t.k, .int .i64 t.a, .string t.s, .int .i64 t.n, .slice A t.l.length c]) := Lib.hid (Bk.wk HBX1.out hk (by first | omega | (simp; done) | (simp; omega)) (by decide))
  clear hx hw hk
  go_wp2_with fail
  refine (put1 (HW2.out.alloc (.cells #[.string ⟨#[41]⟩] 9)) _ ⟨#[41]⟩ (Bk.newAt (by first | rfl | simp) 9 #[.string ⟨#[41]⟩]) (by first | omega | (simp; done) | (simp; omega)) (by decide)).mono ?_; rintro e w3 ⟨rfl, T3, hx, hw, hk⟩
  have hs3 := hk.size
  try simp at hs3
  have HW3 := Lib.hid hw
  have hbl3 := hw.lt
  have HK3 := Lib.hid ((HK2.out.alloc (by first | omega | (simp; done) | (simp; omega)) (.cells #[.string ⟨#[41]⟩] 9)).trans hk)
  have HX3 := Lib.hid (HX2.out.trans hx)
  have HBX3 : Hid (Bk w3 w.heap.size 36 #[.int .i64 t.k, .int .i64 t.a, .string t.s, .int .i64 t.n, .slice A t.l.length c]) := Lib.hid (Bk.wk (HBX2.out.alloc _) hk (by first | omega | (simp; done) | (simp; omega)) (by decide))
  clear hx hw hk
  go_wp2_with fail
  go_end0
  exact ⟨rfl, T3, by rw [EQ.out]; simpa only [List.append_assoc] using HX3.out, HW3.out, HK3.out⟩

end Go.Proofs.YteaojmcfppbgiaaGreatDoor
