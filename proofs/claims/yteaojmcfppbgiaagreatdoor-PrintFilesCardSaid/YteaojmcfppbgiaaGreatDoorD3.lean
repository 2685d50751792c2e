/- print's writer: a pattern; print.Expr, print.Pattern: the document's texts, or why there are none. -/
import Derived.Test.YteaojmcfppbgiaaGreatDoorPrE
import Derived.Test.YteaojmcfppbgiaaGreatDoorC8
namespace Go.Proofs.YteaojmcfppbgiaaGreatDoor
open Go.RowKit
set_option linter.unusedVariables false
set_option maxRecDepth 100000

/-- What pattern does with a right pattern. -/
def PatIs (t : RT) : Prop := ∀ (lo hi : Nat) (A : Option Addr) (c b : Nat) (T : Tx) (w : World), IsNode w lo hi t A c → hi ≤ b → 2 < b → Bare w → WrAt w b T → goodB t true = true →
    Calls Tryz.prog 43 #[.pointer (some ⟨b, 0, none⟩), nodeV t A c] w (PutIs b T (patX t) w)

set_option maxHeartbeats 4000000 in
theorem wpat_name {a : Int} {s : ByteArray} {n : Int} (hs : s.size ≤ 65535) {lo hi : Nat} {A : Option Addr} {c b : Nat} {T : Tx} {w : World} (h : IsNode w lo hi (.node 6 a s n []) A c) (hhi : hi ≤ b) (hg : 2 < b) (hbr : Bare w) (hw : WrAt w b T) :
    Calls Tryz.prog 43 #[.pointer (some ⟨b, 0, none⟩), nodeV (.node 6 a s n []) A c] w (PutIs b T (tx s) w) := by
  have HW := Lib.hid hw
  have hbl := hw.lt
  have HSZ := Lib.hid hs
  obtain ⟨Y, hY⟩ : ∃ Y, tx s = Y := ⟨_, rfl⟩
  have EQ : Hid (Y = tx s) := Lib.hid hY.symm
  rw [hY]
  clear h hhi hg hbr hw hY
  show Calls Tryz.prog 43 #[.pointer (some ⟨b, 0, none⟩), .agg #[.int .i64 6, .int .i64 a, .string s, .int .i64 n, .slice A 0 c]] w _
  go_enter Tryz.func43, Tryz.ntmps43
  go_wp2_with fail
  refine (put1 ((HW.out.alloc (.cells #[.int .i64 6, .int .i64 a, .string s, .int .i64 n, .slice A 0 c] 36)).alloc (.cells #[.string s] 9)) _ s (Bk.newAt (by first | rfl | simp) 9 #[.string s]) (by first | omega | (simp; done) | (simp; omega)) HSZ.out).mono ?_; rintro e w1 ⟨rfl, T1, hx, hw, hk⟩
  have hs1 := hk.size
  try simp at hs1
  have HW1 := Lib.hid hw
  have hbl1 := hw.lt
  have HK1 := Lib.hid ((((Wk.refl b w).alloc (by first | omega | (simp; done) | (simp; omega)) (.cells #[.int .i64 6, .int .i64 a, .string s, .int .i64 n, .slice A 0 c] 36)).alloc (by first | omega | (simp; done) | (simp; omega)) (.cells #[.string s] 9)).trans hk)
  have HX1 := Lib.hid hx
  have HBX1 : Hid (Bk w1 w.heap.size 36 #[.int .i64 6, .int .i64 a, .string s, .int .i64 n, .slice A 0 c]) := Lib.hid (Bk.wk ((Bk.new w 36 #[.int .i64 6, .int .i64 a, .string s, .int .i64 n, .slice A 0 c]).alloc _) hk (by first | omega | (simp; done) | (simp; omega)) (by decide))
  clear hx hw hk
  go_wp2_with fail
  go_end0
  exact ⟨rfl, T1, by rw [EQ.out]; simpa only [List.append_assoc] using HX1.out, HW1.out, HK1.out⟩

set_option maxHeartbeats 4000000 in
theorem wpat_any {a : Int} {s : ByteArray} {n : Int}  {lo hi : Nat} {A : Option Addr} {c b : Nat} {T : Tx} {w : World} (h : IsNode w lo hi (.node 7 a s n []) A c) (hhi : hi ≤ b) (hg : 2 < b) (hbr : Bare w) (hw : WrAt w b T) :
    Calls Tryz.prog 43 #[.pointer (some ⟨b, 0, none⟩), nodeV (.node 7 a s n []) A c] w (PutIs b T (([95] : Tx)) w) := by
  have HW := Lib.hid hw
  have hbl := hw.lt
  skip
  obtain ⟨Y, hY⟩ : ∃ Y, ([95] : Tx) = Y := ⟨_, rfl⟩
  have EQ : Hid (Y = tx ⟨#[95]⟩) := Lib.hid hY.symm
  rw [hY]
  clear h hhi hg hbr hw hY
  show Calls Tryz.prog 43 #[.pointer (some ⟨b, 0, none⟩), .agg #[.int .i64 7, .int .i64 a, .string s, .int .i64 n, .slice A 0 c]] w _
  go_enter Tryz.func43, Tryz.ntmps43
  go_wp2_with fail
  refine (put1 ((HW.out.alloc (.cells #[.int .i64 7, .int .i64 a, .string s, .int .i64 n, .slice A 0 c] 36)).alloc (.cells #[.string ⟨#[95]⟩] 9)) _ ⟨#[95]⟩ (Bk.newAt (by first | rfl | simp) 9 #[.string ⟨#[95]⟩]) (by first | omega | (simp; done) | (simp; omega)) (by decide)).mono ?_; rintro e w1 ⟨rfl, T1, hx, hw, hk⟩
  have hs1 := hk.size
  try simp at hs1
  have HW1 := Lib.hid hw
  have hbl1 := hw.lt
  have HK1 := Lib.hid ((((Wk.refl b w).alloc (by first | omega | (simp; done) | (simp; omega)) (.cells #[.int .i64 7, .int .i64 a, .string s, .int .i64 n, .slice A 0 c] 36)).alloc (by first | omega | (simp; done) | (simp; omega)) (.cells #[.string ⟨#[95]⟩] 9)).trans hk)
  have HX1 := Lib.hid hx
  have HBX1 : Hid (Bk w1 w.heap.size 36 #[.int .i64 7, .int .i64 a, .string s, .int .i64 n, .slice A 0 c]) := Lib.hid (Bk.wk ((Bk.new w 36 #[.int .i64 7, .int .i64 a, .string s, .int .i64 n, .slice A 0 c]).alloc _) hk (by first | omega | (simp; done) | (simp; omega)) (by decide))
  clear hx hw hk
  go_wp2_with fail
  go_end0
  exact ⟨rfl, T1, by rw [EQ.out]; simpa only [List.append_assoc] using HX1.out, HW1.out, HK1.out⟩

set_option maxHeartbeats 4000000 in
theorem pat_none {a : Int} {s : ByteArray} {n : Int}  {lo hi : Nat} {A : Option Addr} {c b : Nat} {T : Tx} {w : World} (h : IsNode w lo hi (.node 9 a s n []) A c) (hhi : hi ≤ b) (hg : 2 < b) (hbr : Bare w) (hw : WrAt w b T) :
    Calls Tryz.prog 43 #[.pointer (some ⟨b, 0, none⟩), nodeV (.node 9 a s n []) A c] w (PutIs b T (([40, 41] : Tx)) w) := by
  have HW := Lib.hid hw
  have hbl := hw.lt
  skip
  obtain ⟨Y, hY⟩ : ∃ Y, ([40, 41] : Tx) = Y := ⟨_, rfl⟩
  have EQ : Hid (Y = tx ⟨#[40, 41]⟩) := Lib.hid hY.symm
  rw [hY]
  clear h hhi hg hbr hw hY
  show Calls Tryz.prog 43 #[.pointer (some ⟨b, 0, none⟩), .agg #[.int .i64 9, .int .i64 a, .string s, .int .i64 n, .slice A 0 c]] w _
  go_enter Tryz.func43, Tryz.ntmps43
  go_wp2_with fail
  refine (put1 ((HW.out.alloc (.cells #[.int .i64 9, .int .i64 a, .string s, .int .i64 n, .slice A 0 c] 36)).alloc (.cells #[.string ⟨#[40, 41]⟩] 9)) _ ⟨#[40, 41]⟩ (Bk.newAt (by first | rfl | simp) 9 #[.string ⟨#[40, 41]⟩]) (by first | omega | (simp; done) | (simp; omega)) (by decide)).mono ?_; rintro e w1 ⟨rfl, T1, hx, hw, hk⟩
  have hs1 := hk.size
  try simp at hs1
  have HW1 := Lib.hid hw
  have hbl1 := hw.lt
  have HK1 := Lib.hid ((((Wk.refl b w).alloc (by first | omega | (simp; done) | (simp; omega)) (.cells #[.int .i64 9, .int .i64 a, .string s, .int .i64 n, .slice A 0 c] 36)).alloc (by first | omega | (simp; done) | (simp; omega)) (.cells #[.string ⟨#[40, 41]⟩] 9)).trans hk)
  have HX1 := Lib.hid hx
  have HBX1 : Hid (Bk w1 w.heap.size 36 #[.int .i64 9, .int .i64 a, .string s, .int .i64 n, .slice A 0 c]) := Lib.hid (Bk.wk ((Bk.new w 36 #[.int .i64 9, .int .i64 a, .string s, .int .i64 n, .slice A 0 c]).alloc _) hk (by first | omega | (simp; done) | (simp; omega)) (by decide))
  clear hx hw hk
  go_wp2_with fail
  go_end0
  exact ⟨rfl, T1, by rw [EQ.out]; simpa only [List.append_assoc] using HX1.out, HW1.out, HK1.out⟩

set_option maxHeartbeats 4000000 in
theorem wpat_dot {a : Int} {s : ByteArray} {n : Int} {t : RT} (gt : goodB t false = true) {lo hi : Nat} {A : Option Addr} {c b : Nat} {T : Tx} {w : World} (h : IsNode w lo hi (.node 10 a s n [t]) A c) (hhi : hi ≤ b) (hg : 2 < b) (hbr : Bare w) (hw : WrAt w b T) :
    Calls Tryz.prog 43 #[.pointer (some ⟨b, 0, none⟩), nodeV (.node 10 a s n [t]) A c] w (PutIs b T ([46] ++ exprX t 2) w) := by
  have HW := Lib.hid hw
  have hbl := hw.lt
  obtain ⟨bs, o, F0, C0, hA, hb1, hbs, x0, n0⟩ := h.sub 0 (by simp)
  subst hA
  have x0 : Cells5 w bs o t F0 C0 := by simpa using x0
  have n0 : IsNode w lo hi t F0 C0 := n0
  have hbsb : bs < b := by omega
  have hbsl : bs < w.heap.size := by omega
  have ht0 := fun V T1 (hV : Below b w V) (hw : WrAt V b T1) => expr_is t 2 lo hi F0 C0 b T1 V (by decide) (n0.kept hV hhi) hhi hg (hbr.kept hV hg) hw gt
  obtain ⟨X0, hX0⟩ : ∃ X, exprX t 2 = X := ⟨_, rfl⟩
  rw [hX0] at ht0 ⊢
  obtain ⟨Y, hY⟩ : ∃ Y, [46] ++ X0 = Y := ⟨_, rfl⟩
  have EQ : Hid (Y = tx ⟨#[46]⟩ ++ X0) := Lib.hid hY.symm
  rw [hY]
  have HT := Lib.hid ht0
  unfold nodeV at HT
  have HC0 := Lib.hid x0
  clear h hhi hg hbr hw hY hX0 gt n0 x0 ht0
  show Calls Tryz.prog 43 #[.pointer (some ⟨b, 0, none⟩), .agg #[.int .i64 10, .int .i64 a, .string s, .int .i64 n, .slice (some ⟨bs, o, none⟩) 1 c]] w _
  go_enter Tryz.func43, Tryz.ntmps43
  go_wp2_with fail
  refine (put1 ((HW.out.alloc (.cells #[.int .i64 10, .int .i64 a, .string s, .int .i64 n, .slice (some ⟨bs, o, none⟩) 1 c] 36)).alloc (.cells #[.string ⟨#[46]⟩] 9)) _ ⟨#[46]⟩ (Bk.newAt (by first | rfl | simp) 9 #[.string ⟨#[46]⟩]) (by first | omega | (simp; done) | (simp; omega)) (by decide)).mono ?_; rintro e w1 ⟨rfl, T1, hx, hw, hk⟩
  have hs1 := hk.size
  try simp at hs1
  have HW1 := Lib.hid hw
  have hbl1 := hw.lt
  have HK1 := Lib.hid ((((Wk.refl b w).alloc (by first | omega | (simp; done) | (simp; omega)) (.cells #[.int .i64 10, .int .i64 a, .string s, .int .i64 n, .slice (some ⟨bs, o, none⟩) 1 c] 36)).alloc (by first | omega | (simp; done) | (simp; omega)) (.cells #[.string ⟨#[46]⟩] 9)).trans hk)
  have HX1 := Lib.hid hx
  have HBX1 : Hid (Bk w1 w.heap.size 36 #[.int .i64 10, .int .i64 a, .string s, .int .i64 n, .slice (some ⟨bs, o, none⟩) 1 c]) := Lib.hid (Bk.wk ((Bk.new w 36 #[.int .i64 10, .int .i64 a, .string s, .int .i64 n, .slice (some ⟨bs, o, none⟩) 1 c]).alloc _) hk (by first | omega | (simp; done) | (simp; omega)) (by decide))
  clear hx hw hk
  have HBXl1 := HBX1.out.lt
  obtain ⟨HBXc1_0, HBXc1_1, HBXc1_2, HBXc1_3, HBXc1_4⟩ := HBX1.out.w5
  obtain ⟨d0, d1, d2, d3, d4⟩ := (HC0.out.kept HK1.out.below hbsb).all
  have hbsl1 : bs < w1.heap.size := by omega
  go_wp2_with fail
  refine (HT.out _ _ HK1.out.below HW1.out).mono ?_; rintro e w2 ⟨rfl, T2, hx, hw, hk⟩
  have hs2 := hk.size
  try simp at hs2
  have HW2 := Lib.hid hw
  have hbl2 := hw.lt
  have HK2 := Lib.hid (HK1.out.trans hk)
  have HX2 := Lib.hid (HX1.out.trans hx)
  have HBX2 : Hid (Bk w2 w.heap.size 36 #[.int .i64 10, .int .i64 a, .string s, .int .i64 n, .slice (some ⟨bs, o, none⟩) 1 c]) := Lib.hid (Bk.wk HBX1.out hk (by first | omega | (simp; done) | (simp; omega)) (by decide))
  clear hx hw hk
  go_wp2_with fail
  go_end0
  exact ⟨rfl, T2, by rw [EQ.out]; simpa only [List.append_assoc] using HX2.out, HW2.out, HK2.out⟩

set_option maxHeartbeats 4000000 in
theorem pat_con {a : Int} {s : ByteArray} {n : Int} {l : List RT} (ih : ∀ t ∈ l, PatIs t) (hs : s.size ≤ 65535) (gl : goodL l true = true) {lo hi : Nat} {A : Option Addr} {c b : Nat} {T : Tx} {w : World} (h : IsNode w lo hi (.node 8 a s n l) A c) (hhi : hi ≤ b) (hg : 2 < b) (hbr : Bare w) (hw : WrAt w b T) :
    Calls Tryz.prog 43 #[.pointer (some ⟨b, 0, none⟩), nodeV (.node 8 a s n l) A c] w (PutIs b T (([40] ++ tx s) ++ (patXL l ++ [41])) w) := by
  have HW := Lib.hid hw
  have hbl := hw.lt
  have HSZ := Lib.hid hs
  have hlen : l.length ≤ maxLen := Nat.le_trans h.bounds.2.1 h.bounds.2.2
  have HSUB := Lib.hid (fun (i : Nat) (hi : i < l.length) => h.sub i hi)
  have HT := Lib.hid (fun (t : RT) (ht : t ∈ l) (F : Option Addr) (C : Nat) (hn : IsNode w lo hi t F C) V T1 (hV : Below b w V) (hw : WrAt V b T1) => ih t ht lo hi F C b T1 V (hn.kept hV hhi) hhi hg (hbr.kept hV hg) hw (goodL_mem gl ht))
  unfold nodeV at HT
  obtain ⟨Y, hY⟩ : ∃ Y, ([40] ++ tx s) ++ (patXL l ++ [41]) = Y := ⟨_, rfl⟩
  have EQ : Hid (Y = (tx ⟨#[40]⟩ ++ tx s) ++ (patXL l ++ tx ⟨#[41]⟩)) := Lib.hid hY.symm
  rw [hY]
  have HHB := Lib.hid hhi
  unfold maxLen at hlen
  have HLEN := Lib.hid hlen
  clear h hhi hg hbr hw hY gl ih hs hlen
  show Calls Tryz.prog 43 #[.pointer (some ⟨b, 0, none⟩), .agg #[.int .i64 8, .int .i64 a, .string s, .int .i64 n, .slice A l.length c]] w _
  go_enter Tryz.func43, Tryz.ntmps43
  go_wp2_with fail
  refine (put2 ((HW.out.alloc (.cells #[.int .i64 8, .int .i64 a, .string s, .int .i64 n, .slice A l.length c] 36)).alloc (.cells #[.string ⟨#[40]⟩, .string s] 9)) _ ⟨#[40]⟩ s (Bk.newAt (by first | rfl | simp) 9 #[.string ⟨#[40]⟩, .string s]) (by first | omega | (simp; done) | (simp; omega)) (by decide) HSZ.out).mono ?_; rintro e w1 ⟨rfl, T1, hx, hw, hk⟩
  have hs1 := hk.size
  try simp at hs1
  have HW1 := Lib.hid hw
  have hbl1 := hw.lt
  have HK1 := Lib.hid ((((Wk.refl b w).alloc (by first | omega | (simp; done) | (simp; omega)) (.cells #[.int .i64 8, .int .i64 a, .string s, .int .i64 n, .slice A l.length c] 36)).alloc (by first | omega | (simp; done) | (simp; omega)) (.cells #[.string ⟨#[40]⟩, .string s] 9)).trans hk)
  have HX1 := Lib.hid hx
  have HBX1 : Hid (Bk w1 w.heap.size 36 #[.int .i64 8, .int .i64 a, .string s, .int .i64 n, .slice A l.length c]) := Lib.hid (Bk.wk ((Bk.new w 36 #[.int .i64 8, .int .i64 a, .string s, .int .i64 n, .slice A l.length c]).alloc _) hk (by first | omega | (simp; done) | (simp; omega)) (by decide))
  clear hx hw hk
  have HBXl1 := HBX1.out.lt
  obtain ⟨HBXc1_0, HBXc1_1, HBXc1_2, HBXc1_3, HBXc1_4⟩ := HBX1.out.w5
  go_wp2_with fail
  go_loopw [46] (fun iv wr => ∃ (i : Nat) (T2 : Tx), i ≤ l.length ∧ iv = .int .i64 i ∧ w1.heap.size ≤ wr.heap.size ∧ Hid (Wrote T ((tx ⟨#[40]⟩ ++ tx s) ++ patXL (l.take i)) T2) ∧ Hid (WrAt wr b T2) ∧ Hid (Wk b w wr)) (fun iv _ => l.length - (intOf iv).toNat)
  case atStart => exact ⟨0, T1, Nat.zero_le _, rfl, Nat.le_refl _, Lib.hid (by rw [List.take_zero, patXL_nil, List.append_nil]; exact HX1.out), HW1, HK1⟩
  case round =>
    obtain ⟨i, T2, hi, rfl, hwz, HXR, HWR, HKR⟩ := hrel
    have hblr := HWR.out.lt
    by_cases hlt : i < l.length
    · obtain ⟨bs, o, F, C, hA, hb1, hbs, x0, n0⟩ := HSUB.out i hlt
      subst hA
      have hbsb : bs < b := by have := HHB.out; omega
      have hbsr : bs < wr.heap.size := by omega
      obtain ⟨c0, c1, c2, c3, c4⟩ := (x0.kept HKR.out.below hbsb).all
      obtain ⟨t, ht⟩ : ∃ t, l[i] = t := ⟨_, rfl⟩
      rw [ht] at c0 c1 c2 c3 c4 n0
      have HT := Lib.hid (HT.out t (by rw [← ht]; exact List.getElem_mem _) F C n0)
      have HXN : Hid (patXL (l.take (i + 1)) = patXL (l.take i) ++ (tx ⟨#[32]⟩ ++ patX t)) := Lib.hid (by
        rw [take_snoc hlt, patXL_append, patXL_cons, ht, patXL_nil, List.append_nil]; rfl)
      obtain ⟨X0, hX0⟩ : ∃ X, patX t = X := ⟨_, rfl⟩
      rw [hX0] at HT HXN
      have hi1 : i + 1 ≤ l.length := hlt
      have hiL : (i : Int) < 9223372036854775807 := by have := HLEN.out; omega
      clear x0 n0 ht hX0 HSUB
      go_wp2_with fail
      refine (put1 ((HWR.out.alloc (.cells #[.int .i64 t.k, .int .i64 t.a, .string t.s, .int .i64 t.n, .slice F t.l.length C] 36)).alloc (.cells #[.string ⟨#[32]⟩] 9)) _ ⟨#[32]⟩ (Bk.newAt (by first | rfl | simp) 9 #[.string ⟨#[32]⟩]) (by first | omega | (simp; done) | (simp; omega)) (by decide)).mono ?_; rintro e w11 ⟨rfl, T11, hx, hw, hk⟩
      have hs11 := hk.size
      try simp at hs11
      have HW11 := Lib.hid hw
      have hbl11 := hw.lt
      have HK11 := Lib.hid ((((Wk.refl b wr).alloc (by first | omega | (simp; done) | (simp; omega)) (.cells #[.int .i64 t.k, .int .i64 t.a, .string t.s, .int .i64 t.n, .slice F t.l.length C] 36)).alloc (by first | omega | (simp; done) | (simp; omega)) (.cells #[.string ⟨#[32]⟩] 9)).trans hk)
      have HX11 := Lib.hid hx
      have HBY11 : Hid (Bk w11 wr.heap.size 36 #[.int .i64 t.k, .int .i64 t.a, .string t.s, .int .i64 t.n, .slice F t.l.length C]) := Lib.hid (Bk.wk ((Bk.new wr 36 #[.int .i64 t.k, .int .i64 t.a, .string t.s, .int .i64 t.n, .slice F t.l.length C]).alloc _) hk (by first | omega | (simp; done) | (simp; omega)) (by decide))
      clear hx hw hk
      have HBYl11 := HBY11.out.lt
      obtain ⟨HBYc11_0, HBYc11_1, HBYc11_2, HBYc11_3, HBYc11_4⟩ := HBY11.out.w5
      go_wp2_with fail
      refine (HT.out _ _ (HKR.out.below.trans HK11.out.below) HW11.out).mono ?_; rintro e w12 ⟨rfl, T12, hx, hw, hk⟩
      have hs12 := hk.size
      try simp at hs12
      have HW12 := Lib.hid hw
      have hbl12 := hw.lt
      have HK12 := Lib.hid (HK11.out.trans hk)
      have HX12 := Lib.hid (HX11.out.trans hx)
      have HBY12 : Hid (Bk w12 wr.heap.size 36 #[.int .i64 t.k, .int .i64 t.a, .string t.s, .int .i64 t.n, .slice F t.l.length C]) := Lib.hid (Bk.wk HBY11.out hk (by first | omega | (simp; done) | (simp; omega)) (by decide))
      clear hx hw hk
      go_wp2_with fail
      go_roundw
      case rel => exact ⟨i + 1, T12, hi1, by go_num, by omega, Lib.hid (by rw [HXN.out]; have := HXR.out.trans HX12.out; simpa only [List.append_assoc] using this), HW12, Lib.hid (HKR.out.trans HK12.out)⟩
      case measure => simp [intOf]; omega
    · obtain rfl : i = l.length := by omega
      have HXE : Hid (Wrote T ((tx ⟨#[40]⟩ ++ tx s) ++ patXL l) T2) := Lib.hid (by have := HXR.out; rwa [List.take_length] at this)
      clear HSUB HT HXR
      go_wp2_with fail
      refine (put1 (HWR.out.alloc (.cells #[.string ⟨#[41]⟩] 9)) _ ⟨#[41]⟩ (Bk.newAt (by first | rfl | simp) 9 #[.string ⟨#[41]⟩]) (by first | omega | (simp; done) | (simp; omega)) (by decide)).mono ?_; rintro e w21 ⟨rfl, T21, hx, hw, hk⟩
      have hs21 := hk.size
      try simp at hs21
      have HW21 := Lib.hid hw
      have hbl21 := hw.lt
      have HK21 := Lib.hid (((Wk.refl b wr).alloc (by first | omega | (simp; done) | (simp; omega)) (.cells #[.string ⟨#[41]⟩] 9)).trans hk)
      have HX21 := Lib.hid hx
      clear hx hw hk
      go_wp2_with fail
      go_end0
      exact ⟨rfl, T21, by rw [EQ.out]; have := HXE.out.trans HX21.out; simpa only [List.append_assoc] using this, HW21.out, HKR.out.trans HK21.out⟩

/-- What the test says of a pattern's kind. -/
theorem good_pats {k a : Int} {s : ByteArray} {n : Int} {l : List RT} (h : goodB (.node k a s n l) true = true) :
    (k = 6 ∧ l = [] ∧ nmB s = true) ∨ (k = 7 ∧ l = []) ∨ (k = 9 ∧ l = []) ∨ (k = 10 ∧ ∃ t, l = [t] ∧ goodB t false = true) ∨ (k = 8 ∧ nmB s = true ∧ 0 < l.length ∧ goodL l true = true) := by
  rw [goodB_node] at h
  simp only [Bool.and_eq_true] at h
  obtain ⟨ht, hl⟩ := h
  unfold topB at ht
  simp only [Bool.and_eq_true, decide_eq_true_eq] at ht
  obtain ⟨h1, h2, h3, h4, h5, h6⟩ := ht
  have h5k : 5 < k := by
    rcases Int.lt_or_le 5 k with h | h
    · exact h
    · rw [decide_eq_false (by omega)] at h3
      cases h3
  rcases (show k = 6 ∨ k = 7 ∨ k = 8 ∨ k = 9 ∨ k = 10 by omega) with rfl | rfl | rfl | rfl | rfl
  · left
    refine ⟨rfl, List.eq_nil_of_length_eq_zero (by simpa [manyB] using h4), by simpa [namedB] using h5⟩
  · right; left
    exact ⟨rfl, List.eq_nil_of_length_eq_zero (by simpa [manyB] using h4)⟩
  · right; right; right; right
    exact ⟨rfl, by simpa [namedB] using h5, by simpa [manyB] using h4, hl⟩
  · right; right; left
    exact ⟨rfl, List.eq_nil_of_length_eq_zero (by simpa [manyB] using h4)⟩
  · right; right; right; left
    have h1 : l.length = 1 := by simpa [manyB] using h4
    match l, h1 with
    | [t], _ => exact ⟨rfl, t, rfl, goodL_mem hl (by simp)⟩
theorem pat_is : ∀ t, PatIs t := by
  intro t
  induction t using RT.ind with
  | h k a s n l ih =>
    intro lo hi A c b T w h hhi hg hbr hw hgd
    rw [patX_node]
    rcases good_pats hgd with ⟨rfl, rfl, hn⟩ | ⟨rfl, rfl⟩ | ⟨rfl, rfl⟩ | ⟨rfl, t, rfl, gt⟩ | ⟨rfl, hn, hl, gl⟩
    · rw [if_pos rfl]; exact wpat_name (nm_size hn) h hhi hg hbr hw
    · rw [if_neg (by decide), if_pos rfl]; exact wpat_any h hhi hg hbr hw
    · rw [if_neg (by decide), if_neg (by decide), if_pos rfl]; exact pat_none h hhi hg hbr hw
    · rw [if_neg (by decide), if_neg (by decide), if_neg (by decide), if_pos rfl, exprXL_at [t] 0 (by simp) 2]; exact wpat_dot gt h hhi hg hbr hw
    · rw [if_neg (by decide), if_neg (by decide), if_neg (by decide), if_neg (by decide)]; exact pat_con ih (nm_size hn) gl h hhi hg hbr hw

/-! ### print.Expr, print.Pattern -/
def textS (r : Bool) (X : Tx) : ByteArray := if r = true ∧ X.length ≤ 65535 then ⟨X.toArray⟩ else ⟨#[]⟩
def textE (r : Bool) (X : Tx) : Int := if r = true then (if X.length ≤ 65535 then 0 else 2) else 5
/-- A text, or why there is none. -/
def TextIs (r : Bool) (X : Tx) (w : World) (e : Ending) (w' : World) : Prop := e = .returned (.tuple #[.string (textS r X), .int .i64 (textE r X)]) ∧ Below w.heap.size w w'

set_option maxHeartbeats 2000000 in
theorem written_Expr (r : Bool) (X : Tx) (p : Value) (w : World) (h : r = true → ∀ V b, Below w.heap.size w V → w.heap.size ≤ b → WrAt V b [] → Calls Tryz.prog 35 #[.pointer (some ⟨b, 0, none⟩), p] V (PutIs b [] X V)) :
    Calls Tryz.prog 27 #[.bool r, .func (.func 35) #[] #[p]] w (TextIs r X w) := by
  cases r with
  | false =>
    obtain ⟨S, hS⟩ : ∃ S, textS false X = S := ⟨_, rfl⟩
    obtain ⟨E, hE⟩ : ∃ E, textE false X = E := ⟨_, rfl⟩
    have HS : Hid (S = ⟨#[]⟩) := Lib.hid (by rw [← hS]; rfl)
    have HE : Hid (E = 5) := Lib.hid (by rw [← hE]; rfl)
    unfold TextIs
    rw [hS, hE]
    clear h hS hE
    go_enter Tryz.func27, Tryz.ntmps27
    go_wp2_with fail
    go_ret2
    exact ⟨by rw [HS.out, HE.out]; rfl, Below.refl _ _⟩
  | true =>
    have H := Lib.hid (h rfl (w.alloc (.cells #[.pointer none, .slice none 0 0] 117)) w.heap.size ((Below.refl _ _).alloc (Nat.le_refl _) _) (Nat.le_refl _) (WrAt.new w))
    obtain ⟨S, hS⟩ : ∃ S, textS true X = S := ⟨_, rfl⟩
    obtain ⟨E, hE⟩ : ∃ E, textE true X = E := ⟨_, rfl⟩
    have HS := Lib.hid hS
    have HE := Lib.hid hE
    unfold TextIs
    rw [hS, hE]
    clear h hS hE
    go_enter Tryz.func27, Tryz.ntmps27
    go_wp2_with fail
    refine H.out.mono ?_; rintro e w1 ⟨rfl, T1, hx, hw, hk⟩
    have hs1 := hk.size
    try simp at hs1
    have HX := Lib.hid hx
    have HW := Lib.hid hw
    have HB := Lib.hid ((Wk.of ((Below.refl w.heap.size w).alloc (Nat.le_refl _) (.cells #[.pointer none, .slice none 0 0] 117)) (Nat.le_refl _)).trans hk).below
    have hbl := hw.lt
    have HF := Lib.hid (full_any hw)
    clear hx hw hk H
    by_cases hf : 65535 < T1.length
    · rw [decide_eq_true hf] at HF
      have hX := HX.out.long hf
      have HS2 : Hid (S = ⟨#[]⟩) := Lib.hid (by rw [← HS.out]; unfold textS; rw [if_neg (by omega)])
      have HE2 : Hid (E = 2) := Lib.hid (by rw [← HE.out]; unfold textE; rw [if_pos rfl, if_neg (by omega)])
      clear hf hX HX HS HE HW
      go_wp2_with fail
      refine HF.out.mono ?_; rintro e w2 ⟨rfl, rfl⟩
      go_wp2_with fail
      go_ret2
      exact ⟨by rw [HS2.out, HE2.out]; rfl, HB.out⟩
    · rw [decide_eq_false hf] at HF
      obtain ⟨hX1, hX2⟩ := HX.out.told hf
      have HS2 : Hid (S = ⟨T1.toArray⟩) := Lib.hid (by rw [← HS.out, hX1]; unfold textS; rw [if_pos ⟨rfl, hX2⟩])
      have HE2 : Hid (E = 0) := Lib.hid (by rw [← HE.out]; unfold textE; rw [if_pos rfl, if_pos hX2])
      have HST := Lib.hid (string_any HW.out (by omega))
      obtain ⟨R, hR⟩ : ∃ R : ByteArray, ⟨T1.toArray⟩ = R := ⟨_, rfl⟩
      rw [hR] at HST HS2
      clear hf hX1 hX2 HX HS HE HW hR
      go_wp2_with fail
      refine HF.out.mono ?_; rintro e w2 ⟨rfl, rfl⟩
      go_wp2_with fail
      refine HST.out.mono ?_; rintro e w3 ⟨rfl, hb3⟩
      go_wp2_with fail
      go_ret2
      exact ⟨by rw [HS2.out, HE2.out]; rfl, HB.out.trans (hb3.mono (by omega))⟩

set_option maxHeartbeats 2000000 in
theorem closure_Expr {t : RT} {lo hi : Nat} {A : Option Addr} {c : Nat} (g : Nat) {w : World} (h : IsNode w lo hi t A c) (hhi : hi ≤ w.heap.size) (hbr : Bare w) (hg : Bk w g 36 #[.int .i64 t.k, .int .i64 t.a, .string t.s, .int .i64 t.n, .slice A t.l.length c]) (hgd : goodB t false = true) :
    ∀ V b, Below w.heap.size w V → w.heap.size ≤ b → WrAt V b [] → Calls Tryz.prog 35 #[.pointer (some ⟨b, 0, none⟩), .pointer (some ⟨g, 0, none⟩)] V (PutIs b [] (exprX t 0) V) := by
  intro V b hV hb hw
  have HT := Lib.hid (expr_is t 0 lo hi A c b [] V (by decide) (h.kept hV hhi) (by omega) (by have := hbr.lt; omega) (hbr.kept hV hbr.lt) hw hgd)
  have HB := hg.below hV hg.lt
  obtain ⟨c0, c1, c2, c3, c4⟩ := HB.w5
  have hl := HB.lt
  obtain ⟨X, hX⟩ : ∃ X, exprX t 0 = X := ⟨_, rfl⟩
  rw [hX] at HT ⊢
  unfold nodeV at HT
  clear h hhi hbr hg hgd hX HB hw
  go_enter Tryz.func35, Tryz.ntmps35
  go_wp2_with fail
  refine HT.out.mono ?_; rintro e w1 ⟨rfl, T1, hx, hw, hk⟩
  have HX := Lib.hid hx
  have HW := Lib.hid hw
  have HK := Lib.hid hk
  clear hx hw hk
  go_wp2_with fail
  go_end0
  exact ⟨rfl, T1, HX.out, HW.out, HK.out⟩

set_option maxHeartbeats 2000000 in
theorem printExpr_any (t : RT) (lo hi : Nat) (A : Option Addr) (c : Nat) (w : World) (h : IsNode w lo hi t A c) (hhi : hi ≤ w.heap.size) (hS : Shapes w) (hbr : Bare w) :
    Calls Tryz.prog 12 #[nodeV t A c] w (TextIs (fitB t && goodB t false) (exprX t 0) w) := by
  have HE := Lib.hid (fun V (hV : Below w.heap.size w V) => expr_any t lo hi A c V (h.kept hV hhi) (Nat.le_trans hhi hV.size) (hS.below hV))
  have HC := Lib.hid (fun V (hV : Below w.heap.size w V) (hB : Bk V w.heap.size 36 #[.int .i64 t.k, .int .i64 t.a, .string t.s, .int .i64 t.n, .slice A t.l.length c]) (hr : (fitB t && goodB t false) = true) => closure_Expr w.heap.size (h.kept hV hhi) (Nat.le_trans hhi hV.size) (hbr.kept hV hbr.lt) hB (by simp only [Bool.and_eq_true] at hr; exact hr.2))
  obtain ⟨r, hr⟩ : ∃ r, (fitB t && goodB t false) = r := ⟨_, rfl⟩
  obtain ⟨X, hX⟩ : ∃ X, exprX t 0 = X := ⟨_, rfl⟩
  rw [hr] at HE HC ⊢
  rw [hX] at HC ⊢
  have HB := Lib.hid (Bk.new w 36 #[.int .i64 t.k, .int .i64 t.a, .string t.s, .int .i64 t.n, .slice A t.l.length c])
  unfold nodeV at HE ⊢
  obtain ⟨S, hS1⟩ : ∃ S, textS r X = S := ⟨_, rfl⟩
  obtain ⟨E, hE1⟩ : ∃ E, textE r X = E := ⟨_, rfl⟩
  have HSE := Lib.hid (And.intro hS1 hE1)
  unfold TextIs
  rw [hS1, hE1]
  clear h hhi hS hbr hr hX hS1 hE1
  go_enter Tryz.func12, Tryz.ntmps12
  go_wp2_with fail
  refine (HE.out _ ((Below.refl _ _).alloc (Nat.le_refl _) _)).mono ?_; rintro e w1 ⟨rfl, hb1⟩
  have hs1 := hb1.size
  try simp at hs1
  have HB1 := Lib.hid (HB.out.below hb1 (by simp))
  have HBL := Lib.hid (((Below.refl w.heap.size w).alloc (Nat.le_refl _) (.cells #[.int .i64 t.k, .int .i64 t.a, .string t.s, .int .i64 t.n, .slice A t.l.length c] 36)).trans (hb1.mono (by simp)))
  have HWR := Lib.hid (written_Expr r X (.pointer (some ⟨w.heap.size, 0, none⟩)) w1 (HC.out w1 HBL.out HB1.out))
  unfold TextIs at HWR
  rw [HSE.out.1, HSE.out.2] at HWR
  clear hb1 HE HC
  go_wp2_with fail
  refine HWR.out.mono ?_; rintro e w2 ⟨rfl, hb2⟩
  go_wp2_with fail
  go_ret2
  exact ⟨rfl, HBL.out.trans (hb2.mono (by omega))⟩

end Go.Proofs.YteaojmcfppbgiaaGreatDoor

/- How long a right tree's text is. No program. -/
namespace Go.Proofs.YteaojmcfppbgiaaGreatDoor
open Go.RowKit
set_option linter.unusedVariables false
set_option maxRecDepth 100000

theorem nm_40 {s : ByteArray} (h : nmB s = true) : s.size ≤ 40 := by
  unfold nmB at h
  obtain ⟨ns, hn⟩ := @of_decide_eq_true _ (Classical.propDecidable _) h
  exact hn.size
theorem low_40 {s : ByteArray} (h : (lowB s || nmB s) = true) : s.size ≤ 40 := by
  cases hl : lowB s with
  | true =>
    have := congrArg List.length (show s.toList = [95] by unfold lowB at hl; simpa using hl)
    have e : s.toList.length = s.size := by rw [ByteArray.toList_eq]; rfl
    rw [e] at this
    rw [this]; decide
  | false => rw [hl] at h; exact nm_40 h
theorem set_len {n : Int} (h0 : 0 ≤ n) (h7 : n ≤ 7) : (setX n).length ≤ 5 := by
  unfold setX
  split
  · decide
  · have h1 := digs_lt 0 n.toNat (by omega)
    rw [digs_length, ← Lib.decDigits_length] at h1
    simp; omega
theorem bind_len (s : ByteArray) (X : Tx) : (bindX (tx s) X).length = s.size + X.length + 5 := by
  unfold bindX typedX
  simp [tx_length]
  have := tx_length s
  omega
theorem exprX_len (t : RT) : goodB t false = true → ∀ lv, (exprX t lv).length ≤ 60 * t.size := by
  induction t using RT.ind with
  | h k a s n l ih =>
    intro hgd lv
    have hin : (innerX k s n (exprXL l)).length + 2 ≤ 60 * (RT.node k a s n l).size := by
      rw [size_node]
      rcases good_cases hgd with ⟨rfl, rfl, hn⟩ | ⟨rfl, rfl, h0, h7⟩ | ⟨hk, hn, t, u, rfl, gt, gu⟩ | ⟨rfl, t, u, rfl, gt, gu⟩
      · have := nm_40 hn
        unfold innerX
        rw [if_pos rfl, tx_length]; omega
      · have := set_len h0 h7
        unfold innerX
        rw [if_neg (by decide), if_pos rfl]; omega
      · have e0 : ∀ lv, subT (exprXL [t, u]) 0 lv = exprX t lv := fun lv => exprXL_at [t, u] 0 (by simp) lv
        have e1 : ∀ lv, subT (exprXL [t, u]) 1 lv = exprX u lv := fun lv => exprXL_at [t, u] 1 (by simp) lv
        have ht := fun lv => ih t (by simp) gt lv
        have hu := fun lv => ih u (by simp) gu lv
        have hs := low_40 hn
        have hz : sizeL [t, u] = t.size + u.size := by rw [sizeL_cons, sizeL_cons, sizeL_nil]; omega
        rw [hz]
        unfold innerX
        have a1 := ht 0
        have a2 := ht 1
        have a3 := hu 0
        rcases hk with rfl | rfl
        · rw [if_neg (by decide), if_neg (by decide), if_neg (by decide)]
          split
          · rw [e0, e1]; simp; omega
          · rw [if_neg (by decide), e0, e1, List.length_append, bind_len]; simp; omega
        · rw [if_neg (by decide), if_neg (by decide), if_neg (by decide), if_neg (fun h => absurd h.1 (by decide)), if_pos rfl, e0, e1, List.length_append, List.length_append, bind_len]; simp; omega
      · have e0 : ∀ lv, subT (exprXL [t, u]) 0 lv = exprX t lv := fun lv => exprXL_at [t, u] 0 (by simp) lv
        have e1 : ∀ lv, subT (exprXL [t, u]) 1 lv = exprX u lv := fun lv => exprXL_at [t, u] 1 (by simp) lv
        have a1 := ih t (by simp) gt 1
        have a2 := ih u (by simp) gu 2
        have hz : sizeL [t, u] = t.size + u.size := by rw [sizeL_cons, sizeL_cons, sizeL_nil]; omega
        rw [hz]
        unfold innerX
        rw [if_neg (by decide), if_neg (by decide), if_pos rfl, e0, e1]; simp; omega
    rw [exprX_node]
    split
    · simp; omega
    · omega
theorem patXL_len : ∀ (l : List RT), (∀ t ∈ l, goodB t true = true → (patX t).length + 1 ≤ 60 * t.size) → goodL l true = true → (patXL l).length ≤ 60 * sizeL l
  | [], _, _ => by rw [patXL_nil]; simp
  | t :: r, h, hg => by
    rw [goodL_all, List.all_cons, Bool.and_eq_true] at hg
    have h1 := h t (by simp) hg.1
    have h2 := patXL_len r (fun u hu => h u (List.mem_cons_of_mem _ hu)) (by rw [goodL_all]; exact hg.2)
    rw [patXL_cons, sizeL_cons]
    simp; omega
theorem patX_len (t : RT) : goodB t true = true → (patX t).length + 1 ≤ 60 * t.size := by
  induction t using RT.ind with
  | h k a s n l ih =>
    intro hgd
    rw [patX_node, size_node]
    rcases good_pats hgd with ⟨rfl, rfl, hn⟩ | ⟨rfl, rfl⟩ | ⟨rfl, rfl⟩ | ⟨rfl, t, rfl, gt⟩ | ⟨rfl, hn, hl, gl⟩
    · have := nm_40 hn
      rw [if_pos rfl, tx_length]; omega
    · rw [if_neg (by decide), if_pos rfl]; simp; omega
    · rw [if_neg (by decide), if_neg (by decide), if_pos rfl]; simp; omega
    · have h1 := exprX_len t gt 2
      have hz : sizeL [t] = t.size := by rw [sizeL_cons, sizeL_nil]; omega
      rw [if_neg (by decide), if_neg (by decide), if_neg (by decide), if_pos rfl, exprXL_at [t] 0 (by simp) 2, hz]
      simp; omega
    · have h1 := patXL_len l ih gl
      have h2 := nm_40 hn
      rw [if_neg (by decide), if_neg (by decide), if_neg (by decide), if_neg (by decide)]
      simp [tx_length]
      have := tx_length s
      omega

end Go.Proofs.YteaojmcfppbgiaaGreatDoor
