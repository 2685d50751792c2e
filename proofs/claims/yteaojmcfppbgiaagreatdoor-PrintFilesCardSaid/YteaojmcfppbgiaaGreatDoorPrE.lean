/- print's writer: an expression at a level: the document's text. -/
import Derived.Test.YteaojmcfppbgiaaGreatDoorPrA
namespace Go.Proofs.YteaojmcfppbgiaaGreatDoor
open Go.RowKit
set_option linter.unusedVariables false
set_option maxRecDepth 100000

theorem Wk.drew {b : Nat} {w w' : World} (h : Wk b w w') : Wk b w w'.drew := ⟨h.os, h.tape, h.output, h.size, h.low, h.high⟩
theorem WrAt.drew {w : World} {b : Nat} {T : Tx} (h : WrAt w b T) : WrAt w.drew b T := h.below (Below.refl _ _).drew
theorem Cells5.all {w : World} {b o : Nat} {t : RT} {A : Option Addr} {cap : Nat} (h : Cells5 w b o t A cap) : w.cell? ⟨b, o, none⟩ = some (.int .i64 t.k) ∧ w.cell? ⟨b, o + 1, none⟩ = some (.int .i64 t.a) ∧ w.cell? ⟨b, o + 2, none⟩ = some (.string t.s) ∧ w.cell? ⟨b, o + 3, none⟩ = some (.int .i64 t.n) ∧ w.cell? ⟨b, o + 4, none⟩ = some (.slice A t.l.length cap) := ⟨h.c0, h.c1, h.c2, h.c3, h.c4⟩
/-- The two Subs of a node. -/
theorem IsNode.two {w : World} {lo hi : Nat} {k a : Int} {s : ByteArray} {n : Int} {t u : RT} {A : Option Addr} {c : Nat} (h : IsNode w lo hi (.node k a s n [t, u]) A c) :
    ∃ bs o F0 C0 F1 C1, A = some ⟨bs, o, none⟩ ∧ bs < hi ∧ Cells5 w bs o t F0 C0 ∧ IsNode w lo hi t F0 C0 ∧ Cells5 w bs (o + 5) u F1 C1 ∧ IsNode w lo hi u F1 C1 := by
  obtain ⟨bs, o, F0, C0, hA, hb1, hb2, x0, n0⟩ := h.sub 0 (by simp)
  obtain ⟨bs', o', F1, C1, hA', -, -, x1, n1⟩ := h.sub 1 (by simp)
  subst hA
  injection hA' with hA'
  injection hA' with e1 e2 _
  subst e1 e2
  exact ⟨bs, o, F0, C0, F1, C1, rfl, hb2, by simpa using x0, n0, by simpa using x1, n1⟩

set_option maxHeartbeats 4000000 in
theorem expr_name {a : Int} {s : ByteArray} {n : Int} (hs : s.size ≤ 65535) {lv lo hi : Nat} {A : Option Addr} {c b : Nat} {T : Tx} {w : World} (hlv : lv ≤ 2) (h : IsNode w lo hi (.node 1 a s n []) A c) (hhi : hi ≤ b) (hg : 2 < b) (hbr : Bare w) (hw : WrAt w b T) :
    Calls Tryz.prog 36 #[.pointer (some ⟨b, 0, none⟩), nodeV (.node 1 a s n []) A c, .int .i64 lv] w (PutIs b T (tx s) w) := by
  have HW := Lib.hid hw
  have hbl := hw.lt
  have hgs : 2 < w.heap.size := hbr.lt
  have k0 : w.cell? ⟨2, 1, none⟩ = some (.int .i64 2) := hbr 1 (by omega)
  have hlt : decide ((2 : Int) < (lv : Int)) = false := decide_eq_false (by omega)
  have HSZ := Lib.hid hs
  obtain ⟨Y, hY⟩ : ∃ Y, tx s = Y := ⟨_, rfl⟩
  have EQ : Hid (Y = tx s) := Lib.hid hY.symm
  rw [hY]
  clear h hhi hg hbr hw hs hlv hY
  show Calls Tryz.prog 36 #[.pointer (some ⟨b, 0, none⟩), .agg #[.int .i64 1, .int .i64 a, .string s, .int .i64 n, .slice A 0 c], .int .i64 lv] w _
  go_enter Tryz.func36, Tryz.ntmps36
  go_wp2_with fail
  refine (put1 ((HW.out.alloc (.cells #[.int .i64 1, .int .i64 a, .string s, .int .i64 n, .slice A 0 c] 36)).alloc (.cells #[.string s] 9)) _ s (Bk.newAt (by first | rfl | simp) 9 #[.string s]) (by first | omega | (simp; done) | (simp; omega)) HSZ.out).mono ?_; rintro e w1 ⟨rfl, T1, hx, hw, hk⟩
  have hs1 := hk.size
  try simp at hs1
  have HW1 := Lib.hid hw
  have hbl1 := hw.lt
  have HK1 := Lib.hid ((((Wk.refl b w).alloc (by first | omega | (simp; done) | (simp; omega)) (.cells #[.int .i64 1, .int .i64 a, .string s, .int .i64 n, .slice A 0 c] 36)).alloc (by first | omega | (simp; done) | (simp; omega)) (.cells #[.string s] 9)).trans hk)
  have HX1 := Lib.hid hx
  have HBX1 : Hid (Bk w1 w.heap.size 36 #[.int .i64 1, .int .i64 a, .string s, .int .i64 n, .slice A 0 c]) := Lib.hid (Bk.wk ((Bk.new w 36 #[.int .i64 1, .int .i64 a, .string s, .int .i64 n, .slice A 0 c]).alloc _) hk (by first | omega | (simp; done) | (simp; omega)) (by decide))
  clear hx hw hk
  go_wp2_with fail
  go_end0
  exact ⟨rfl, T1, by rw [EQ.out]; simpa only [List.append_assoc] using HX1.out, HW1.out, HK1.out⟩

set_option maxHeartbeats 4000000 in
theorem expr_set {a : Int} {s : ByteArray} {n : Int} (h0 : 0 ≤ n) (h7 : n ≤ 7) {lv lo hi : Nat} {A : Option Addr} {c b : Nat} {T : Tx} {w : World} (hlv : lv ≤ 2) (h : IsNode w lo hi (.node 2 a s n []) A c) (hhi : hi ≤ b) (hg : 2 < b) (hbr : Bare w) (hw : WrAt w b T) :
    Calls Tryz.prog 36 #[.pointer (some ⟨b, 0, none⟩), nodeV (.node 2 a s n []) A c, .int .i64 lv] w (PutIs b T (setX n) w) := by
  have HW := Lib.hid hw
  have hbl := hw.lt
  have hgs : 2 < w.heap.size := hbr.lt
  have k0 : w.cell? ⟨2, 2, none⟩ = some (.int .i64 2) := hbr 2 (by omega)
  have hlt : decide ((2 : Int) < (lv : Int)) = false := decide_eq_false (by omega)
  have hset := fun V T1 (hV : WrAt V b T1) => set_is hV n h0 h7
  obtain ⟨Y, hY⟩ : ∃ Y, setX n = Y := ⟨_, rfl⟩
  rw [hY] at hset ⊢
  have HSET := Lib.hid hset
  clear h hhi hg hbr hw hlv hY h0 h7 hset
  show Calls Tryz.prog 36 #[.pointer (some ⟨b, 0, none⟩), .agg #[.int .i64 2, .int .i64 a, .string s, .int .i64 n, .slice A 0 c], .int .i64 lv] w _
  go_enter Tryz.func36, Tryz.ntmps36
  go_wp2_with fail
  refine (HSET.out _ _ (HW.out.alloc (.cells #[.int .i64 2, .int .i64 a, .string s, .int .i64 n, .slice A 0 c] 36))).mono ?_; rintro e w1 ⟨rfl, T1, hx, hw, hk⟩
  have hs1 := hk.size
  try simp at hs1
  have HW1 := Lib.hid hw
  have hbl1 := hw.lt
  have HK1 := Lib.hid (((Wk.refl b w).alloc (by first | omega | (simp; done) | (simp; omega)) (.cells #[.int .i64 2, .int .i64 a, .string s, .int .i64 n, .slice A 0 c] 36)).trans hk)
  have HX1 := Lib.hid hx
  have HBX1 : Hid (Bk w1 w.heap.size 36 #[.int .i64 2, .int .i64 a, .string s, .int .i64 n, .slice A 0 c]) := Lib.hid (Bk.wk (Bk.new w 36 #[.int .i64 2, .int .i64 a, .string s, .int .i64 n, .slice A 0 c]) hk (by first | omega | (simp; done) | (simp; omega)) (by decide))
  clear hx hw hk
  go_wp2_with fail
  go_end0
  exact ⟨rfl, T1, by simpa only [List.append_assoc] using HX1.out, HW1.out, HK1.out⟩

set_option maxHeartbeats 4000000 in
theorem wexpr_app {a : Int} {s : ByteArray} {n : Int} {t u : RT} (ht : ExprIs t) (hu : ExprIs u) (gt : goodB t false = true) (gu : goodB u false = true) {lv lo hi : Nat} {A : Option Addr} {c b : Nat} {T : Tx} {w : World} (hlv : lv ≤ 1) (h : IsNode w lo hi (.node 5 a s n [t, u]) A c) (hhi : hi ≤ b) (hg : 2 < b) (hbr : Bare w) (hw : WrAt w b T) :
    Calls Tryz.prog 36 #[.pointer (some ⟨b, 0, none⟩), nodeV (.node 5 a s n [t, u]) A c, .int .i64 lv] w (PutIs b T (exprX t 1 ++ ([32] ++ exprX u 2)) w) := by
  have HW := Lib.hid hw
  have hbl := hw.lt
  have hgs : 2 < w.heap.size := hbr.lt
  have k0 : w.cell? ⟨2, 5, none⟩ = some (.int .i64 1) := hbr 5 (by omega)
  have hlt : decide ((1 : Int) < (lv : Int)) = false := decide_eq_false (by omega)
  obtain ⟨bs, o, F0, C0, F1, C1, rfl, hbs, x0, n0, x1, n1⟩ := h.two
  have hbsb : bs < b := by omega
  have hbsl : bs < w.heap.size := by omega
  have ht0 := fun V T1 (hV : Below b w V) (hw : WrAt V b T1) => ht 1 lo hi F0 C0 b T1 V (by decide) (n0.kept hV hhi) hhi hg (hbr.kept hV hg) hw gt
  have hu0 := fun V T1 (hV : Below b w V) (hw : WrAt V b T1) => hu 2 lo hi F1 C1 b T1 V (by decide) (n1.kept hV hhi) hhi hg (hbr.kept hV hg) hw gu
  obtain ⟨X0, hX0⟩ : ∃ X, exprX t 1 = X := ⟨_, rfl⟩
  obtain ⟨X1, hX1⟩ : ∃ X, exprX u 2 = X := ⟨_, rfl⟩
  rw [hX0] at ht0
  rw [hX1] at hu0
  rw [hX0, hX1]
  obtain ⟨Y, hY⟩ : ∃ Y, X0 ++ ([32] ++ X1) = Y := ⟨_, rfl⟩
  have EQ : Hid (Y = X0 ++ (tx ⟨#[32]⟩ ++ X1)) := Lib.hid hY.symm
  rw [hY]
  have HT := Lib.hid ht0
  have HU := Lib.hid hu0
  unfold nodeV at HT HU
  have HC0 := Lib.hid x0
  have HC1 := Lib.hid x1
  obtain ⟨c00, c01, c02, c03, c04⟩ := x0.all
  have hgd := hg
  clear h hhi hg hbr hw hlv hY hX0 hX1 ht hu gt gu n0 n1 x0 x1 ht0 hu0
  show Calls Tryz.prog 36 #[.pointer (some ⟨b, 0, none⟩), .agg #[.int .i64 5, .int .i64 a, .string s, .int .i64 n, .slice (some ⟨bs, o, none⟩) 2 c], .int .i64 lv] w _
  go_enter Tryz.func36, Tryz.ntmps36
  go_wp2_with fail
  refine (HT.out _ _ ((Wk.refl b w).alloc (by first | omega | (simp; done) | (simp; omega)) (.cells #[.int .i64 5, .int .i64 a, .string s, .int .i64 n, .slice (some ⟨bs, o, none⟩) 2 c] 36)).below (HW.out.alloc (.cells #[.int .i64 5, .int .i64 a, .string s, .int .i64 n, .slice (some ⟨bs, o, none⟩) 2 c] 36))).mono ?_; rintro e w1 ⟨rfl, T1, hx, hw, hk⟩
  have hs1 := hk.size
  try simp at hs1
  have HW1 := Lib.hid hw
  have hbl1 := hw.lt
  have HK1 := Lib.hid (((Wk.refl b w).alloc (by first | omega | (simp; done) | (simp; omega)) (.cells #[.int .i64 5, .int .i64 a, .string s, .int .i64 n, .slice (some ⟨bs, o, none⟩) 2 c] 36)).trans hk)
  have HX1 := Lib.hid hx
  have HBX1 : Hid (Bk w1 w.heap.size 36 #[.int .i64 5, .int .i64 a, .string s, .int .i64 n, .slice (some ⟨bs, o, none⟩) 2 c]) := Lib.hid (Bk.wk (Bk.new w 36 #[.int .i64 5, .int .i64 a, .string s, .int .i64 n, .slice (some ⟨bs, o, none⟩) 2 c]) hk (by first | omega | (simp; done) | (simp; omega)) (by decide))
  clear hx hw hk
  go_wp2_with fail
  refine (put1 (HW1.out.alloc (.cells #[.string ⟨#[32]⟩] 9)) _ ⟨#[32]⟩ (Bk.newAt (by first | rfl | simp) 9 #[.string ⟨#[32]⟩]) (by first | omega | (simp; done) | (simp; omega)) (by decide)).mono ?_; rintro e w2 ⟨rfl, T2, hx, hw, hk⟩
  have hs2 := hk.size
  try simp at hs2
  have HW2 := Lib.hid hw
  have hbl2 := hw.lt
  have HK2 := Lib.hid ((HK1.out.alloc (by first | omega | (simp; done) | (simp; omega)) (.cells #[.string ⟨#[32]⟩] 9)).trans hk)
  have HX2 := Lib.hid (HX1.out.trans hx)
  have HBX2 : Hid (Bk w2 w.heap.size 36 #[.int .i64 5, .int .i64 a, .string s, .int .i64 n, .slice (some ⟨bs, o, none⟩) 2 c]) := Lib.hid (Bk.wk (HBX1.out.alloc _) hk (by first | omega | (simp; done) | (simp; omega)) (by decide))
  clear hx hw hk
  have HBXl2 := HBX2.out.lt
  obtain ⟨HBXc2_0, HBXc2_1, HBXc2_2, HBXc2_3, HBXc2_4⟩ := HBX2.out.w5
  obtain ⟨c10_2, c11_2, c12_2, c13_2, c14_2⟩ := (HC1.out.kept HK2.out.below hbsb).all
  have hbsl2 : bs < w2.heap.size := by omega
  go_wp2_with fail
  refine (HU.out _ _ HK2.out.below HW2.out).mono ?_; rintro e w3 ⟨rfl, T3, hx, hw, hk⟩
  have hs3 := hk.size
  try simp at hs3
  have HW3 := Lib.hid hw
  have hbl3 := hw.lt
  have HK3 := Lib.hid (HK2.out.trans hk)
  have HX3 := Lib.hid (HX2.out.trans hx)
  have HBX3 : Hid (Bk w3 w.heap.size 36 #[.int .i64 5, .int .i64 a, .string s, .int .i64 n, .slice (some ⟨bs, o, none⟩) 2 c]) := Lib.hid (Bk.wk HBX2.out hk (by first | omega | (simp; done) | (simp; omega)) (by decide))
  clear hx hw hk
  go_wp2_with fail
  go_end0
  exact ⟨rfl, T3, by rw [EQ.out]; simpa only [List.append_assoc] using HX3.out, HW3.out, HK3.out⟩

set_option maxHeartbeats 4000000 in
theorem expr_arrow {a : Int} {s : ByteArray} {n : Int} {t u : RT} (ht : ExprIs t) (hu : ExprIs u) (gt : goodB t false = true) (gu : goodB u false = true) (hlow : lowB s = true) {lv lo hi : Nat} {A : Option Addr} {c b : Nat} {T : Tx} {w : World} (hlv : lv ≤ 0) (h : IsNode w lo hi (.node 3 a s n [t, u]) A c) (hhi : hi ≤ b) (hg : 2 < b) (hbr : Bare w) (hw : WrAt w b T) :
    Calls Tryz.prog 36 #[.pointer (some ⟨b, 0, none⟩), nodeV (.node 3 a s n [t, u]) A c, .int .i64 lv] w (PutIs b T (exprX t 1 ++ ([32, 45, 62, 32] ++ exprX u 0)) w) := by
  have HW := Lib.hid hw
  have hbl := hw.lt
  have hgs : 2 < w.heap.size := hbr.lt
  unfold lowB at hlow
  have k0 : w.cell? ⟨2, 3, none⟩ = some (.int .i64 0) := hbr 3 (by omega)
  have hlt : decide ((0 : Nat) < lv) = false := decide_eq_false (by omega)
  obtain ⟨bs, o, F0, C0, F1, C1, rfl, hbs, x0, n0, x1, n1⟩ := h.two
  have hbsb : bs < b := by omega
  have hbsl : bs < w.heap.size := by omega
  have ht0 := fun V T1 (hV : Below b w V) (hw : WrAt V b T1) => ht 1 lo hi F0 C0 b T1 V (by decide) (n0.kept hV hhi) hhi hg (hbr.kept hV hg) hw gt
  have hu0 := fun V T1 (hV : Below b w V) (hw : WrAt V b T1) => hu 0 lo hi F1 C1 b T1 V (by decide) (n1.kept hV hhi) hhi hg (hbr.kept hV hg) hw gu
  obtain ⟨X0, hX0⟩ : ∃ X, exprX t 1 = X := ⟨_, rfl⟩
  obtain ⟨X1, hX1⟩ : ∃ X, exprX u 0 = X := ⟨_, rfl⟩
  rw [hX0] at ht0
  rw [hX1] at hu0
  rw [hX0, hX1]
  obtain ⟨Y, hY⟩ : ∃ Y, X0 ++ ([32, 45, 62, 32] ++ X1) = Y := ⟨_, rfl⟩
  have EQ : Hid (Y = X0 ++ (tx ⟨#[32, 45, 62, 32]⟩ ++ X1)) := Lib.hid hY.symm
  rw [hY]
  have HT := Lib.hid ht0
  have HU := Lib.hid hu0
  unfold nodeV at HT HU
  have HC0 := Lib.hid x0
  have HC1 := Lib.hid x1
  obtain ⟨c00, c01, c02, c03, c04⟩ := x0.all
  have hgd := hg
  clear h hhi hg hbr hw hlv hY hX0 hX1 ht hu gt gu n0 n1 x0 x1 ht0 hu0
  show Calls Tryz.prog 36 #[.pointer (some ⟨b, 0, none⟩), .agg #[.int .i64 3, .int .i64 a, .string s, .int .i64 n, .slice (some ⟨bs, o, none⟩) 2 c], .int .i64 lv] w _
  go_enter Tryz.func36, Tryz.ntmps36
  go_wp2_with fail
  refine (HT.out _ _ ((Wk.refl b w).alloc (by first | omega | (simp; done) | (simp; omega)) (.cells #[.int .i64 3, .int .i64 a, .string s, .int .i64 n, .slice (some ⟨bs, o, none⟩) 2 c] 36)).below (HW.out.alloc (.cells #[.int .i64 3, .int .i64 a, .string s, .int .i64 n, .slice (some ⟨bs, o, none⟩) 2 c] 36))).mono ?_; rintro e w1 ⟨rfl, T1, hx, hw, hk⟩
  have hs1 := hk.size
  try simp at hs1
  have HW1 := Lib.hid hw
  have hbl1 := hw.lt
  have HK1 := Lib.hid (((Wk.refl b w).alloc (by first | omega | (simp; done) | (simp; omega)) (.cells #[.int .i64 3, .int .i64 a, .string s, .int .i64 n, .slice (some ⟨bs, o, none⟩) 2 c] 36)).trans hk)
  have HX1 := Lib.hid hx
  have HBX1 : Hid (Bk w1 w.heap.size 36 #[.int .i64 3, .int .i64 a, .string s, .int .i64 n, .slice (some ⟨bs, o, none⟩) 2 c]) := Lib.hid (Bk.wk (Bk.new w 36 #[.int .i64 3, .int .i64 a, .string s, .int .i64 n, .slice (some ⟨bs, o, none⟩) 2 c]) hk (by first | omega | (simp; done) | (simp; omega)) (by decide))
  clear hx hw hk
  go_wp2_with fail
  refine (put1 (HW1.out.alloc (.cells #[.string ⟨#[32, 45, 62, 32]⟩] 9)) _ ⟨#[32, 45, 62, 32]⟩ (Bk.newAt (by first | rfl | simp) 9 #[.string ⟨#[32, 45, 62, 32]⟩]) (by first | omega | (simp; done) | (simp; omega)) (by decide)).mono ?_; rintro e w2 ⟨rfl, T2, hx, hw, hk⟩
  have hs2 := hk.size
  try simp at hs2
  have HW2 := Lib.hid hw
  have hbl2 := hw.lt
  have HK2 := Lib.hid ((HK1.out.alloc (by first | omega | (simp; done) | (simp; omega)) (.cells #[.string ⟨#[32, 45, 62, 32]⟩] 9)).trans hk)
  have HX2 := Lib.hid (HX1.out.trans hx)
  have HBX2 : Hid (Bk w2 w.heap.size 36 #[.int .i64 3, .int .i64 a, .string s, .int .i64 n, .slice (some ⟨bs, o, none⟩) 2 c]) := Lib.hid (Bk.wk (HBX1.out.alloc _) hk (by first | omega | (simp; done) | (simp; omega)) (by decide))
  clear hx hw hk
  have HBXl2 := HBX2.out.lt
  obtain ⟨HBXc2_0, HBXc2_1, HBXc2_2, HBXc2_3, HBXc2_4⟩ := HBX2.out.w5
  obtain ⟨c10_2, c11_2, c12_2, c13_2, c14_2⟩ := (HC1.out.kept HK2.out.below hbsb).all
  have hbsl2 : bs < w2.heap.size := by omega
  go_wp2_with fail
  refine (HU.out _ _ HK2.out.below HW2.out).mono ?_; rintro e w3 ⟨rfl, T3, hx, hw, hk⟩
  have hs3 := hk.size
  try simp at hs3
  have HW3 := Lib.hid hw
  have hbl3 := hw.lt
  have HK3 := Lib.hid (HK2.out.trans hk)
  have HX3 := Lib.hid (HX2.out.trans hx)
  have HBX3 : Hid (Bk w3 w.heap.size 36 #[.int .i64 3, .int .i64 a, .string s, .int .i64 n, .slice (some ⟨bs, o, none⟩) 2 c]) := Lib.hid (Bk.wk HBX2.out hk (by first | omega | (simp; done) | (simp; omega)) (by decide))
  clear hx hw hk
  go_wp2_with fail
  go_end0
  exact ⟨rfl, T3, by rw [EQ.out]; simpa only [List.append_assoc] using HX3.out, HW3.out, HK3.out⟩

set_option maxHeartbeats 4000000 in
theorem wexpr_lam {a : Int} {s : ByteArray} {n : Int} {t u : RT} (ht : ExprIs t) (hu : ExprIs u) (gt : goodB t false = true) (gu : goodB u false = true) (hs : s.size ≤ 65535) {lv lo hi : Nat} {A : Option Addr} {c b : Nat} {T : Tx} {w : World} (hlv : lv ≤ 0) (h : IsNode w lo hi (.node 4 a s n [t, u]) A c) (hhi : hi ≤ b) (hg : 2 < b) (hbr : Bare w) (hw : WrAt w b T) :
    Calls Tryz.prog 36 #[.pointer (some ⟨b, 0, none⟩), nodeV (.node 4 a s n [t, u]) A c, .int .i64 lv] w (PutIs b T ([92, 32] ++ (bindX (tx s) (exprX t 0) ++ ([32, 45, 62, 32] ++ exprX u 0))) w) := by
  have HW := Lib.hid hw
  have hbl := hw.lt
  have hgs : 2 < w.heap.size := hbr.lt
  have k0 : w.cell? ⟨2, 4, none⟩ = some (.int .i64 0) := hbr 4 (by omega)
  have hlt : decide ((0 : Nat) < lv) = false := decide_eq_false (by omega)
  obtain ⟨bs, o, F0, C0, F1, C1, rfl, hbs, x0, n0, x1, n1⟩ := h.two
  have hbsb : bs < b := by omega
  have hbsl : bs < w.heap.size := by omega
  have ht0 := fun V T1 (hV : Below b w V) (hw : WrAt V b T1) => binding_of ht s hs (n0.kept hV hhi) hhi hg (hbr.kept hV hg) hw gt
  have hu0 := fun V T1 (hV : Below b w V) (hw : WrAt V b T1) => hu 0 lo hi F1 C1 b T1 V (by decide) (n1.kept hV hhi) hhi hg (hbr.kept hV hg) hw gu
  obtain ⟨X0, hX0⟩ : ∃ X, bindX (tx s) (exprX t 0) = X := ⟨_, rfl⟩
  obtain ⟨X1, hX1⟩ : ∃ X, exprX u 0 = X := ⟨_, rfl⟩
  rw [hX0] at ht0
  rw [hX1] at hu0
  rw [hX0, hX1]
  obtain ⟨Y, hY⟩ : ∃ Y, [92, 32] ++ (X0 ++ ([32, 45, 62, 32] ++ X1)) = Y := ⟨_, rfl⟩
  have EQ : Hid (Y = tx ⟨#[92, 32]⟩ ++ (X0 ++ (tx ⟨#[32, 45, 62, 32]⟩ ++ X1))) := Lib.hid hY.symm
  rw [hY]
  have HT := Lib.hid ht0
  have HU := Lib.hid hu0
  unfold nodeV at HT HU
  have HC0 := Lib.hid x0
  have HC1 := Lib.hid x1
  obtain ⟨c00, c01, c02, c03, c04⟩ := x0.all
  have hgd := hg
  clear h hhi hg hbr hw hlv hY hX0 hX1 ht hu gt gu n0 n1 x0 x1 ht0 hu0
  show Calls Tryz.prog 36 #[.pointer (some ⟨b, 0, none⟩), .agg #[.int .i64 4, .int .i64 a, .string s, .int .i64 n, .slice (some ⟨bs, o, none⟩) 2 c], .int .i64 lv] w _
  go_enter Tryz.func36, Tryz.ntmps36
  go_wp2_with fail
  refine (put1 ((HW.out.alloc (.cells #[.int .i64 4, .int .i64 a, .string s, .int .i64 n, .slice (some ⟨bs, o, none⟩) 2 c] 36)).alloc (.cells #[.string ⟨#[92, 32]⟩] 9)) _ ⟨#[92, 32]⟩ (Bk.newAt (by first | rfl | simp) 9 #[.string ⟨#[92, 32]⟩]) (by first | omega | (simp; done) | (simp; omega)) (by decide)).mono ?_; rintro e w1 ⟨rfl, T1, hx, hw, hk⟩
  have hs1 := hk.size
  try simp at hs1
  have HW1 := Lib.hid hw
  have hbl1 := hw.lt
  have HK1 := Lib.hid ((((Wk.refl b w).alloc (by first | omega | (simp; done) | (simp; omega)) (.cells #[.int .i64 4, .int .i64 a, .string s, .int .i64 n, .slice (some ⟨bs, o, none⟩) 2 c] 36)).alloc (by first | omega | (simp; done) | (simp; omega)) (.cells #[.string ⟨#[92, 32]⟩] 9)).trans hk)
  have HX1 := Lib.hid hx
  have HBX1 : Hid (Bk w1 w.heap.size 36 #[.int .i64 4, .int .i64 a, .string s, .int .i64 n, .slice (some ⟨bs, o, none⟩) 2 c]) := Lib.hid (Bk.wk ((Bk.new w 36 #[.int .i64 4, .int .i64 a, .string s, .int .i64 n, .slice (some ⟨bs, o, none⟩) 2 c]).alloc _) hk (by first | omega | (simp; done) | (simp; omega)) (by decide))
  clear hx hw hk
  have HBXl1 := HBX1.out.lt
  obtain ⟨HBXc1_0, HBXc1_1, HBXc1_2, HBXc1_3, HBXc1_4⟩ := HBX1.out.w5
  obtain ⟨d0_1, d1_1, d2_1, d3_1, d4_1⟩ := (HC0.out.kept HK1.out.below hbsb).all
  have hbsl1 : bs < w1.heap.size := by omega
  go_wp2_with fail
  have HKc := Lib.hid (And.intro HBX1.out.w5 (HC0.out.kept HK1.out.below hbsb).all)
  have HWD := Lib.hid HW1.out.drew
  have HKD := Lib.hid HK1.out.drew
  go_region_held3 (fun w' => (w'.cell? ⟨w.heap.size, 0, none⟩ = some (.int .i64 4) ∧ w'.cell? ⟨w.heap.size, 1, none⟩ = some (.int .i64 a) ∧ w'.cell? ⟨w.heap.size, 2, none⟩ = some (.string s) ∧ w'.cell? ⟨w.heap.size, 3, none⟩ = some (.int .i64 n) ∧ w'.cell? ⟨w.heap.size, 4, none⟩ = some (.slice (some ⟨bs, o, none⟩) 2 c)) ∧ (w'.cell? ⟨bs, o, none⟩ = some (.int .i64 t.k) ∧ w'.cell? ⟨bs, o + 1, none⟩ = some (.int .i64 t.a) ∧ w'.cell? ⟨bs, o + 2, none⟩ = some (.string t.s) ∧ w'.cell? ⟨bs, o + 3, none⟩ = some (.int .i64 t.n) ∧ w'.cell? ⟨bs, o + 4, none⟩ = some (.slice F0 t.l.length C0)))
    (first | exact HKc.out | go_keep)
    (first
      | (go_at_call 63
         refine (HT.out _ _ HKD.out.below HWD.out).mono ?_
         rintro e w2 ⟨rfl, T2, hx, hw, hk⟩
         have hs2 := hk.size
         try simp at hs2
         have HW2 := Lib.hid hw
         have hbl2 := hw.lt
         have HK2 := Lib.hid (HKD.out.trans hk)
         have HX2 := Lib.hid (HX1.out.trans hx)
         have HBX2 : Hid (Bk w2 w.heap.size 36 #[.int .i64 4, .int .i64 a, .string s, .int .i64 n, .slice (some ⟨bs, o, none⟩) 2 c]) := Lib.hid (Bk.wk (show Bk w1.drew w.heap.size 36 #[.int .i64 4, .int .i64 a, .string s, .int .i64 n, .slice (some ⟨bs, o, none⟩) 2 c] from HBX1.out) hk (by first | omega | (simp; done) | (simp; omega)) (by decide))
         have HKc := Lib.hid (And.intro HBX2.out.w5 (HC0.out.kept HK2.out.below hbsb).all)
         clear hx hw hk))
  all_goals
    go_wp2_with fail
    refine (put1 (HW2.out.alloc (.cells #[.string ⟨#[32, 45, 62, 32]⟩] 9)) _ ⟨#[32, 45, 62, 32]⟩ (Bk.newAt (by first | rfl | simp) 9 #[.string ⟨#[32, 45, 62, 32]⟩]) (by first | omega | (simp; done) | (simp; omega)) (by decide)).mono ?_; rintro e w3 ⟨rfl, T3, hx, hw, hk⟩
    have hs3 := hk.size
    try simp at hs3
    have HW3 := Lib.hid hw
    have hbl3 := hw.lt
    have HK3 := Lib.hid ((HK2.out.alloc (by first | omega | (simp; done) | (simp; omega)) (.cells #[.string ⟨#[32, 45, 62, 32]⟩] 9)).trans hk)
    have HX3 := Lib.hid (HX2.out.trans hx)
    have HBX3 : Hid (Bk w3 w.heap.size 36 #[.int .i64 4, .int .i64 a, .string s, .int .i64 n, .slice (some ⟨bs, o, none⟩) 2 c]) := Lib.hid (Bk.wk (HBX2.out.alloc _) hk (by first | omega | (simp; done) | (simp; omega)) (by decide))
    clear hx hw hk
    have HBXl3 := HBX3.out.lt
    obtain ⟨HBXc3_0, HBXc3_1, HBXc3_2, HBXc3_3, HBXc3_4⟩ := HBX3.out.w5
    obtain ⟨c10_3, c11_3, c12_3, c13_3, c14_3⟩ := (HC1.out.kept HK3.out.below hbsb).all
    have hbsl3 : bs < w3.heap.size := by omega
    go_wp2_with fail
    refine (HU.out _ _ HK3.out.below HW3.out).mono ?_; rintro e w4 ⟨rfl, T4, hx, hw, hk⟩
    have hs4 := hk.size
    try simp at hs4
    have HW4 := Lib.hid hw
    have hbl4 := hw.lt
    have HK4 := Lib.hid (HK3.out.trans hk)
    have HX4 := Lib.hid (HX3.out.trans hx)
    have HBX4 : Hid (Bk w4 w.heap.size 36 #[.int .i64 4, .int .i64 a, .string s, .int .i64 n, .slice (some ⟨bs, o, none⟩) 2 c]) := Lib.hid (Bk.wk HBX3.out hk (by first | omega | (simp; done) | (simp; omega)) (by decide))
    clear hx hw hk
    go_wp2_with fail
    go_end0
    exact ⟨rfl, T4, by rw [EQ.out]; simpa only [List.append_assoc] using HX4.out, HW4.out, HK4.out⟩

set_option maxHeartbeats 4000000 in
theorem wexpr_pi {a : Int} {s : ByteArray} {n : Int} {t u : RT} (ht : ExprIs t) (hu : ExprIs u) (gt : goodB t false = true) (gu : goodB u false = true) (hs : s.size ≤ 65535) (hlow : lowB s = false) {lv lo hi : Nat} {A : Option Addr} {c b : Nat} {T : Tx} {w : World} (hlv : lv ≤ 0) (h : IsNode w lo hi (.node 3 a s n [t, u]) A c) (hhi : hi ≤ b) (hg : 2 < b) (hbr : Bare w) (hw : WrAt w b T) :
    Calls Tryz.prog 36 #[.pointer (some ⟨b, 0, none⟩), nodeV (.node 3 a s n [t, u]) A c, .int .i64 lv] w (PutIs b T (bindX (tx s) (exprX t 0) ++ ([32, 45, 62, 32] ++ exprX u 0)) w) := by
  have HW := Lib.hid hw
  have hbl := hw.lt
  have hgs : 2 < w.heap.size := hbr.lt
  unfold lowB at hlow
  have k0 : w.cell? ⟨2, 3, none⟩ = some (.int .i64 0) := hbr 3 (by omega)
  have hlt : decide ((0 : Nat) < lv) = false := decide_eq_false (by omega)
  obtain ⟨bs, o, F0, C0, F1, C1, rfl, hbs, x0, n0, x1, n1⟩ := h.two
  have hbsb : bs < b := by omega
  have hbsl : bs < w.heap.size := by omega
  have ht0 := fun V T1 (hV : Below b w V) (hw : WrAt V b T1) => binding_of ht s hs (n0.kept hV hhi) hhi hg (hbr.kept hV hg) hw gt
  have hu0 := fun V T1 (hV : Below b w V) (hw : WrAt V b T1) => hu 0 lo hi F1 C1 b T1 V (by decide) (n1.kept hV hhi) hhi hg (hbr.kept hV hg) hw gu
  obtain ⟨X0, hX0⟩ : ∃ X, bindX (tx s) (exprX t 0) = X := ⟨_, rfl⟩
  obtain ⟨X1, hX1⟩ : ∃ X, exprX u 0 = X := ⟨_, rfl⟩
  rw [hX0] at ht0
  rw [hX1] at hu0
  rw [hX0, hX1]
  obtain ⟨Y, hY⟩ : ∃ Y, X0 ++ ([32, 45, 62, 32] ++ X1) = Y := ⟨_, rfl⟩
  have EQ : Hid (Y = X0 ++ (tx ⟨#[32, 45, 62, 32]⟩ ++ X1)) := Lib.hid hY.symm
  rw [hY]
  have HT := Lib.hid ht0
  have HU := Lib.hid hu0
  unfold nodeV at HT HU
  have HC0 := Lib.hid x0
  have HC1 := Lib.hid x1
  obtain ⟨c00, c01, c02, c03, c04⟩ := x0.all
  have hgd := hg
  clear h hhi hg hbr hw hlv hY hX0 hX1 ht hu gt gu n0 n1 x0 x1 ht0 hu0
  show Calls Tryz.prog 36 #[.pointer (some ⟨b, 0, none⟩), .agg #[.int .i64 3, .int .i64 a, .string s, .int .i64 n, .slice (some ⟨bs, o, none⟩) 2 c], .int .i64 lv] w _
  go_enter Tryz.func36, Tryz.ntmps36
  have HBX0 := Lib.hid (Bk.new w 36 #[.int .i64 3, .int .i64 a, .string s, .int .i64 n, .slice (some ⟨bs, o, none⟩) 2 c])
  have HK0 := Lib.hid (((Wk.refl b w).alloc (by first | omega | (simp; done) | (simp; omega)) (.cells #[.int .i64 3, .int .i64 a, .string s, .int .i64 n, .slice (some ⟨bs, o, none⟩) 2 c] 36)))
  have HW0 := Lib.hid ((HW.out.alloc (.cells #[.int .i64 3, .int .i64 a, .string s, .int .i64 n, .slice (some ⟨bs, o, none⟩) 2 c] 36)))
  obtain ⟨W0, hW0⟩ : ∃ W, (w.alloc (.cells #[.int .i64 3, .int .i64 a, .string s, .int .i64 n, .slice (some ⟨bs, o, none⟩) 2 c] 36)) = W := ⟨_, rfl⟩
  have hWz : W0.heap.size = w.heap.size + 1 := by rw [← hW0]; simp
  rw [hW0] at HBX0 HK0 HW0
  have HWE := Lib.hid hW0
  clear hW0
  have HBXl0 := HBX0.out.lt
  obtain ⟨HBXc0_0, HBXc0_1, HBXc0_2, HBXc0_3, HBXc0_4⟩ := HBX0.out.w5
  obtain ⟨d0_0, d1_0, d2_0, d3_0, d4_0⟩ := (HC0.out.kept HK0.out.below hbsb).all
  have hbsl0 : bs < W0.heap.size := by omega
  go_wp2_with fail
  rw [HWE.out]
  have HKc := Lib.hid (And.intro HBX0.out.w5 (HC0.out.kept HK0.out.below hbsb).all)
  have HWD := Lib.hid HW0.out.drew
  have HKD := Lib.hid HK0.out.drew
  go_region_held3 (fun w' => (w'.cell? ⟨w.heap.size, 0, none⟩ = some (.int .i64 3) ∧ w'.cell? ⟨w.heap.size, 1, none⟩ = some (.int .i64 a) ∧ w'.cell? ⟨w.heap.size, 2, none⟩ = some (.string s) ∧ w'.cell? ⟨w.heap.size, 3, none⟩ = some (.int .i64 n) ∧ w'.cell? ⟨w.heap.size, 4, none⟩ = some (.slice (some ⟨bs, o, none⟩) 2 c)) ∧ (w'.cell? ⟨bs, o, none⟩ = some (.int .i64 t.k) ∧ w'.cell? ⟨bs, o + 1, none⟩ = some (.int .i64 t.a) ∧ w'.cell? ⟨bs, o + 2, none⟩ = some (.string t.s) ∧ w'.cell? ⟨bs, o + 3, none⟩ = some (.int .i64 t.n) ∧ w'.cell? ⟨bs, o + 4, none⟩ = some (.slice F0 t.l.length C0)))
    (first | exact HKc.out | go_keep)
    (first
      | (go_at_call 63
         refine (HT.out _ _ HKD.out.below HWD.out).mono ?_
         rintro e w1 ⟨rfl, T1, hx, hw, hk⟩
         have hs1 := hk.size
         try simp at hs1
         have HW1 := Lib.hid hw
         have hbl1 := hw.lt
         have HK1 := Lib.hid (HKD.out.trans hk)
         have HX1 := Lib.hid hx
         have HBX1 : Hid (Bk w1 w.heap.size 36 #[.int .i64 3, .int .i64 a, .string s, .int .i64 n, .slice (some ⟨bs, o, none⟩) 2 c]) := Lib.hid (Bk.wk (show Bk W0.drew w.heap.size 36 #[.int .i64 3, .int .i64 a, .string s, .int .i64 n, .slice (some ⟨bs, o, none⟩) 2 c] from HBX0.out) hk (by first | omega | (simp; done) | (simp; omega)) (by decide))
         have HKc := Lib.hid (And.intro HBX1.out.w5 (HC0.out.kept HK1.out.below hbsb).all)
         clear hx hw hk))
  all_goals
    go_wp2_with fail
    refine (put1 (HW1.out.alloc (.cells #[.string ⟨#[32, 45, 62, 32]⟩] 9)) _ ⟨#[32, 45, 62, 32]⟩ (Bk.newAt (by first | rfl | simp) 9 #[.string ⟨#[32, 45, 62, 32]⟩]) (by first | omega | (simp; done) | (simp; omega)) (by decide)).mono ?_; rintro e w2 ⟨rfl, T2, hx, hw, hk⟩
    have hs2 := hk.size
    try simp at hs2
    have HW2 := Lib.hid hw
    have hbl2 := hw.lt
    have HK2 := Lib.hid ((HK1.out.alloc (by first | omega | (simp; done) | (simp; omega)) (.cells #[.string ⟨#[32, 45, 62, 32]⟩] 9)).trans hk)
    have HX2 := Lib.hid (HX1.out.trans hx)
    have HBX2 : Hid (Bk w2 w.heap.size 36 #[.int .i64 3, .int .i64 a, .string s, .int .i64 n, .slice (some ⟨bs, o, none⟩) 2 c]) := Lib.hid (Bk.wk (HBX1.out.alloc _) hk (by first | omega | (simp; done) | (simp; omega)) (by decide))
    clear hx hw hk
    have HBXl2 := HBX2.out.lt
    obtain ⟨HBXc2_0, HBXc2_1, HBXc2_2, HBXc2_3, HBXc2_4⟩ := HBX2.out.w5
    obtain ⟨c10_2, c11_2, c12_2, c13_2, c14_2⟩ := (HC1.out.kept HK2.out.below hbsb).all
    have hbsl2 : bs < w2.heap.size := by omega
    go_wp2_with fail
    refine (HU.out _ _ HK2.out.below HW2.out).mono ?_; rintro e w3 ⟨rfl, T3, hx, hw, hk⟩
    have hs3 := hk.size
    try simp at hs3
    have HW3 := Lib.hid hw
    have hbl3 := hw.lt
    have HK3 := Lib.hid (HK2.out.trans hk)
    have HX3 := Lib.hid (HX2.out.trans hx)
    have HBX3 : Hid (Bk w3 w.heap.size 36 #[.int .i64 3, .int .i64 a, .string s, .int .i64 n, .slice (some ⟨bs, o, none⟩) 2 c]) := Lib.hid (Bk.wk HBX2.out hk (by first | omega | (simp; done) | (simp; omega)) (by decide))
    clear hx hw hk
    go_wp2_with fail
    go_end0
    exact ⟨rfl, T3, by rw [EQ.out]; simpa only [List.append_assoc] using HX3.out, HW3.out, HK3.out⟩

set_option maxHeartbeats 4000000 in
theorem expr_par {K : Nat} {a : Int} {s : ByteArray} {n : Int} {m : Nat} {X : Tx} {lv : Nat} {A : Option Addr} {c b : Nat} {T : Tx} {w : World} {B : Int} (hK : K < 6) (hB : w.cell? ⟨2, K, none⟩ = some (.int .i64 B)) (hlv : B < lv) (hg : 2 < b) (hw : WrAt w b T)
    (h0 : ∀ V T1, Below b w V → WrAt V b T1 → Calls Tryz.prog 36 #[.pointer (some ⟨b, 0, none⟩), .agg #[.int .i64 K, .int .i64 a, .string s, .int .i64 n, .slice A m c], .int .i64 0] V (PutIs b T1 X V)) :
    Calls Tryz.prog 36 #[.pointer (some ⟨b, 0, none⟩), .agg #[.int .i64 K, .int .i64 a, .string s, .int .i64 n, .slice A m c], .int .i64 lv] w (PutIs b T ([40] ++ (X ++ [41])) w) := by
  have HW := Lib.hid hw
  have hbl := hw.lt
  have hgs : 2 < w.heap.size := by omega
  have hlt : decide (B < (lv : Int)) = true := decide_eq_true hlv
  have H0 := Lib.hid h0
  obtain ⟨Y, hY⟩ : ∃ Y, [40] ++ (X ++ [41]) = Y := ⟨_, rfl⟩
  have EQ : Hid (Y = tx ⟨#[40]⟩ ++ (X ++ tx ⟨#[41]⟩)) := Lib.hid hY.symm
  rw [hY]
  have hKi : (K : Int) < 6 := by omega
  clear hw hY h0 hlv
  go_enter Tryz.func36, Tryz.ntmps36
  go_wp2_with fail
  refine (put1 ((HW.out.alloc (.cells #[.int .i64 K, .int .i64 a, .string s, .int .i64 n, .slice A m c] 36)).alloc (.cells #[.string ⟨#[40]⟩] 9)) _ ⟨#[40]⟩ (Bk.newAt (by first | rfl | simp) 9 #[.string ⟨#[40]⟩]) (by first | omega | (simp; done) | (simp; omega)) (by decide)).mono ?_; rintro e w1 ⟨rfl, T1, hx, hw, hk⟩
  have hs1 := hk.size
  try simp at hs1
  have HW1 := Lib.hid hw
  have hbl1 := hw.lt
  have HK1 := Lib.hid ((((Wk.refl b w).alloc (by first | omega | (simp; done) | (simp; omega)) (.cells #[.int .i64 K, .int .i64 a, .string s, .int .i64 n, .slice A m c] 36)).alloc (by first | omega | (simp; done) | (simp; omega)) (.cells #[.string ⟨#[40]⟩] 9)).trans hk)
  have HX1 := Lib.hid hx
  have HBX1 : Hid (Bk w1 w.heap.size 36 #[.int .i64 K, .int .i64 a, .string s, .int .i64 n, .slice A m c]) := Lib.hid (Bk.wk ((Bk.new w 36 #[.int .i64 K, .int .i64 a, .string s, .int .i64 n, .slice A m c]).alloc _) hk (by first | omega | (simp; done) | (simp; omega)) (by decide))
  clear hx hw hk
  have HBXl1 := HBX1.out.lt
  obtain ⟨HBXc1_0, HBXc1_1, HBXc1_2, HBXc1_3, HBXc1_4⟩ := HBX1.out.w5
  go_wp2_with fail
  refine (H0.out _ _ HK1.out.below HW1.out).mono ?_; rintro e w2 ⟨rfl, T2, hx, hw, hk⟩
  have hs2 := hk.size
  try simp at hs2
  have HW2 := Lib.hid hw
  have hbl2 := hw.lt
  have HK2 := Lib.hid (HK1.out.trans hk)
  have HX2 := Lib.hid (HX1.out.trans hx)
  have HBX2 : Hid (Bk w2 w.heap.size 36 #[.int .i64 K, .int .i64 a, .string s, .int .i64 n, .slice A m c]) := Lib.hid (Bk.wk HBX1.out hk (by first | omega | (simp; done) | (simp; omega)) (by decide))
  clear hx hw hk
  go_wp2_with fail
  refine (put1 (HW2.out.alloc (.cells #[.string ⟨#[41]⟩] 9)) _ ⟨#[41]⟩ (Bk.newAt (by first | rfl | simp) 9 #[.string ⟨#[41]⟩]) (by first | omega | (simp; done) | (simp; omega)) (by decide)).mono ?_; rintro e w3 ⟨rfl, T3, hx, hw, hk⟩
  have hs3 := hk.size
  try simp at hs3
  have HW3 := Lib.hid hw
  have hbl3 := hw.lt
  have HK3 := Lib.hid ((HK2.out.alloc (by first | omega | (simp; done) | (simp; omega)) (.cells #[.string ⟨#[41]⟩] 9)).trans hk)
  have HX3 := Lib.hid (HX2.out.trans hx)
  have HBX3 : Hid (Bk w3 w.heap.size 36 #[.int .i64 K, .int .i64 a, .string s, .int .i64 n, .slice A m c]) := Lib.hid (Bk.wk (HBX2.out.alloc _) hk (by first | omega | (simp; done) | (simp; omega)) (by decide))
  clear hx hw hk
  go_wp2_with fail
  go_end0
  exact ⟨rfl, T3, by rw [EQ.out]; simpa only [List.append_assoc] using HX3.out, HW3.out, HK3.out⟩

theorem goodL_mem {l : List RT} {p : Bool} (h : goodL l p = true) {t : RT} (ht : t ∈ l) : goodB t p = true := by
  rw [goodL_all, List.all_eq_true] at h
  exact h t ht
theorem wlen_two {l : List RT} (h : l.length = 2) : ∃ t u, l = [t, u] := by
  match l, h with
  | [t, u], _ => exact ⟨t, u, rfl⟩
/-- What the test says of an expression's kind. -/
theorem good_cases {k a : Int} {s : ByteArray} {n : Int} {l : List RT} (h : goodB (.node k a s n l) false = true) :
    (k = 1 ∧ l = [] ∧ nmB s = true) ∨ (k = 2 ∧ l = [] ∧ 0 ≤ n ∧ n ≤ 7) ∨ ((k = 3 ∨ k = 4) ∧ (lowB s || nmB s) = true ∧ ∃ t u, l = [t, u] ∧ goodB t false = true ∧ goodB u false = true) ∨ (k = 5 ∧ ∃ t u, l = [t, u] ∧ goodB t false = true ∧ goodB u false = true) := by
  rw [goodB_node] at h
  simp only [Bool.and_eq_true] at h
  obtain ⟨ht, hl⟩ := h
  unfold topB at ht
  simp only [Bool.and_eq_true, decide_eq_true_eq] at ht
  obtain ⟨h1, h2, h3, h4, h5, h6⟩ := ht
  have h5k : ¬ 5 < k := by
    intro h
    rw [decide_eq_true h] at h3
    cases h3
  have h8 : ¬ k = 8 := by omega
  rw [decide_eq_false h8] at hl
  rcases (show k = 1 ∨ k = 2 ∨ (k = 3 ∨ k = 4) ∨ k = 5 by omega) with rfl | rfl | hk | rfl
  · left
    refine ⟨rfl, List.eq_nil_of_length_eq_zero (by simpa [manyB] using h4), by simpa [namedB] using h5⟩
  · right; left
    refine ⟨rfl, List.eq_nil_of_length_eq_zero (by simpa [manyB] using h4), ?_⟩
    simpa [numB] using h6
  · right; right; left
    have hn : (lowB s || nmB s) = true := by rcases hk with rfl | rfl <;> simpa [namedB] using h5
    obtain ⟨t, u, rfl⟩ := wlen_two (by rcases hk with rfl | rfl <;> simpa [manyB] using h4)
    exact ⟨hk, hn, t, u, rfl, goodL_mem hl (by simp), goodL_mem hl (by simp)⟩
  · right; right; right
    obtain ⟨t, u, rfl⟩ := wlen_two (by simpa [manyB] using h4)
    exact ⟨rfl, t, u, rfl, goodL_mem hl (by simp), goodL_mem hl (by simp)⟩
theorem low_size {s : ByteArray} (h : (lowB s || nmB s) = true) : s.size ≤ 65535 := by
  cases hl : lowB s with
  | true =>
    have := congrArg List.length (show s.toList = [95] by unfold lowB at hl; simpa using hl)
    have e : s.toList.length = s.size := by rw [ByteArray.toList_eq]; rfl
    rw [e] at this
    rw [this]; decide
  | false => rw [hl] at h; exact nm_size h
theorem expr_is : ∀ t, ExprIs t := by
  intro t
  induction t using RT.ind with
  | h k a s n l ih =>
    -- without parentheses
    have H : ∀ (lv lo hi : Nat) (A : Option Addr) (c b : Nat) (T : Tx) (w : World), ¬ lowest k ≤ lv → lv ≤ 2 → IsNode w lo hi (.node k a s n l) A c → hi ≤ b → 2 < b → Bare w → WrAt w b T → goodB (.node k a s n l) false = true →
        Calls Tryz.prog 36 #[.pointer (some ⟨b, 0, none⟩), nodeV (.node k a s n l) A c, .int .i64 lv] w (PutIs b T (innerX k s n (exprXL l)) w) := by
      intro lv lo hi A c b T w hlo hlv h hhi hg hbr hw hgd
      rcases good_cases hgd with ⟨rfl, rfl, hn⟩ | ⟨rfl, rfl, h0, h7⟩ | ⟨hk, hn, t, u, rfl, gt, gu⟩ | ⟨rfl, t, u, rfl, gt, gu⟩
      · exact expr_name (nm_size hn) hlv h hhi hg hbr hw
      · exact expr_set h0 h7 hlv h hhi hg hbr hw
      · have ht := ih t (by simp)
        have hu := ih u (by simp)
        have e0 : ∀ lv, subT (exprXL [t, u]) 0 lv = exprX t lv := fun lv => exprXL_at [t, u] 0 (by simp) lv
        have e1 : ∀ lv, subT (exprXL [t, u]) 1 lv = exprX u lv := fun lv => exprXL_at [t, u] 1 (by simp) lv
        have hlv0 : lv ≤ 0 := by
          unfold lowest at hlo
          rw [if_pos hk] at hlo
          omega
        rcases hk with rfl | rfl
        · cases hl : lowB s with
          | true =>
            have e : innerX 3 s n (exprXL [t, u]) = exprX t 1 ++ ([32, 45, 62, 32] ++ exprX u 0) := by
              unfold innerX; rw [if_neg (by decide), if_neg (by decide), if_neg (by decide), if_pos ⟨rfl, hl⟩, e0, e1]
            rw [e]
            exact expr_arrow ht hu gt gu hl hlv0 h hhi hg hbr hw
          | false =>
            have e : innerX 3 s n (exprXL [t, u]) = bindX (tx s) (exprX t 0) ++ ([32, 45, 62, 32] ++ exprX u 0) := by
              unfold innerX; rw [if_neg (by decide), if_neg (by decide), if_neg (by decide), if_neg (fun h => by rw [hl] at h; cases h.2), if_neg (by decide), e0, e1]
            rw [e]
            exact wexpr_pi ht hu gt gu (low_size hn) hl hlv0 h hhi hg hbr hw
        · have e : innerX 4 s n (exprXL [t, u]) = [92, 32] ++ (bindX (tx s) (exprX t 0) ++ ([32, 45, 62, 32] ++ exprX u 0)) := by
            unfold innerX; rw [if_neg (by decide), if_neg (by decide), if_neg (by decide), if_neg (fun h => absurd h.1 (by decide)), if_pos rfl, e0, e1]
          rw [e]
          exact wexpr_lam ht hu gt gu (low_size hn) hlv0 h hhi hg hbr hw
      · have ht := ih t (by simp)
        have hu := ih u (by simp)
        have e0 : ∀ lv, subT (exprXL [t, u]) 0 lv = exprX t lv := fun lv => exprXL_at [t, u] 0 (by simp) lv
        have e1 : ∀ lv, subT (exprXL [t, u]) 1 lv = exprX u lv := fun lv => exprXL_at [t, u] 1 (by simp) lv
        have e : innerX 5 s n (exprXL [t, u]) = exprX t 1 ++ ([32] ++ exprX u 2) := by
          unfold innerX; rw [if_neg (by decide), if_neg (by decide), if_pos rfl, e0, e1]
        rw [e]
        exact wexpr_app ht hu gt gu (by unfold lowest at hlo; simp at hlo; omega) h hhi hg hbr hw
    intro lv lo hi A c b T w hlv h hhi hg hbr hw hgd
    by_cases hlo : lowest k ≤ lv
    · have hnz : ¬ lowest k ≤ 0 := by unfold lowest; split; · omega
                                      · split <;> omega
      have h0 := fun V T1 (hV : Below b w V) (hw : WrAt V b T1) => H 0 lo hi A c b T1 V hnz (by decide) (h.kept hV hhi) hhi hg (hbr.kept hV hg) hw hgd
      rw [exprX_node, if_pos hlo]
      have hB : ∃ K : Nat, k = K ∧ K < 6 ∧ bareT.getD K 0 < lv := by
        rcases good_cases hgd with ⟨rfl, rfl, hn⟩ | ⟨rfl, rfl, _, _⟩ | ⟨hk, hn, t, u, rfl, gt, gu⟩ | ⟨rfl, t, u, rfl, gt, gu⟩
        · unfold lowest at hlo; simp at hlo; omega
        · unfold lowest at hlo; simp at hlo; omega
        · rcases hk with rfl | rfl
          · exact ⟨3, rfl, by omega, by unfold lowest at hlo; simp at hlo; show (0 : Int) < _; omega⟩
          · exact ⟨4, rfl, by omega, by unfold lowest at hlo; simp at hlo; show (0 : Int) < _; omega⟩
        · exact ⟨5, rfl, by omega, by unfold lowest at hlo; simp at hlo; show (1 : Int) < _; omega⟩
      obtain ⟨K, rfl, hK, hlt⟩ := hB
      exact expr_par hK (hbr K hK) hlt hg hw h0
    · rw [exprX_node, if_neg hlo]
      exact H lv lo hi A c b T w hlo hlv h hhi hg hbr hw hgd

end Go.Proofs.YteaojmcfppbgiaaGreatDoor
