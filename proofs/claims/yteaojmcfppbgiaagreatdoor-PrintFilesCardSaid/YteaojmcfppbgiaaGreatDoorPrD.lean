/- print's writer: a row, a declaration: the document's texts. -/
import Derived.Test.YteaojmcfppbgiaaGreatDoorD3
import Derived.Test.YteaojmcfppbgiaaGreatDoorD1
import Derived.Test.YteaojmcfppbgiaaGreatDoorC4
import Derived.Deep.RegionHeld3
import Derived.Deep.Cut
import Derived.Deep.CutRange
namespace Go.Proofs.YteaojmcfppbgiaaGreatDoor
open Go.RowKit
set_option linter.unusedVariables false
set_option maxRecDepth 100000

theorem Bk.q5 {w : World} {g : Nat} {e : TypeId} {c0 c1 c2 c3 c4 : Value} (h : Bk w g e #[c0, c1, c2, c3, c4]) :
    w.cell? ⟨g, 0, none⟩ = some c0 ∧ w.cell? ⟨g, 1, none⟩ = some c1 ∧ w.cell? ⟨g, 2, none⟩ = some c2 ∧ w.cell? ⟨g, 3, none⟩ = some c3 ∧ w.cell? ⟨g, 4, none⟩ = some c4 := ⟨h.cell 0, h.cell 1, h.cell 2, h.cell 3, h.cell 4⟩
theorem Bk.q7 {w : World} {g : Nat} {e : TypeId} {c0 c1 c2 c3 c4 c5 c6 : Value} (h : Bk w g e #[c0, c1, c2, c3, c4, c5, c6]) :
    w.cell? ⟨g, 0, none⟩ = some c0 ∧ w.cell? ⟨g, 1, none⟩ = some c1 ∧ w.cell? ⟨g, 2, none⟩ = some c2 ∧ w.cell? ⟨g, 3, none⟩ = some c3 ∧ w.cell? ⟨g, 4, none⟩ = some c4 ∧ w.cell? ⟨g, 5, none⟩ = some c5 ∧ w.cell? ⟨g, 6, none⟩ = some c6 := ⟨h.cell 0, h.cell 1, h.cell 2, h.cell 3, h.cell 4, h.cell 5, h.cell 6⟩
theorem Bk.q8 {w : World} {g : Nat} {e : TypeId} {c0 c1 c2 c3 c4 c5 c6 c7 : Value} (h : Bk w g e #[c0, c1, c2, c3, c4, c5, c6, c7]) :
    w.cell? ⟨g, 0, none⟩ = some c0 ∧ w.cell? ⟨g, 1, none⟩ = some c1 ∧ w.cell? ⟨g, 2, none⟩ = some c2 ∧ w.cell? ⟨g, 3, none⟩ = some c3 ∧ w.cell? ⟨g, 4, none⟩ = some c4 ∧ w.cell? ⟨g, 5, none⟩ = some c5 ∧ w.cell? ⟨g, 6, none⟩ = some c6 ∧ w.cell? ⟨g, 7, none⟩ = some c7 := ⟨h.cell 0, h.cell 1, h.cell 2, h.cell 3, h.cell 4, h.cell 5, h.cell 6, h.cell 7⟩
theorem Bk.q11 {w : World} {g : Nat} {e : TypeId} {c0 c1 c2 c3 c4 c5 c6 c7 c8 c9 c10 : Value} (h : Bk w g e #[c0, c1, c2, c3, c4, c5, c6, c7, c8, c9, c10]) :
    w.cell? ⟨g, 0, none⟩ = some c0 ∧ w.cell? ⟨g, 1, none⟩ = some c1 ∧ w.cell? ⟨g, 2, none⟩ = some c2 ∧ w.cell? ⟨g, 3, none⟩ = some c3 ∧ w.cell? ⟨g, 4, none⟩ = some c4 ∧ w.cell? ⟨g, 5, none⟩ = some c5 ∧ w.cell? ⟨g, 6, none⟩ = some c6 ∧ w.cell? ⟨g, 7, none⟩ = some c7 ∧ w.cell? ⟨g, 8, none⟩ = some c8 ∧ w.cell? ⟨g, 9, none⟩ = some c9 ∧ w.cell? ⟨g, 10, none⟩ = some c10 := ⟨h.cell 0, h.cell 1, h.cell 2, h.cell 3, h.cell 4, h.cell 5, h.cell 6, h.cell 7, h.cell 8, h.cell 9, h.cell 10⟩
theorem take_snocG {α : Type} {l : List α} {i : Nat} (h : i < l.length) : l.take (i + 1) = l.take i ++ [l[i]] := by rw [List.take_succ_eq_append_getElem h]
theorem rowPX_append : ∀ (l r : List RT), rowPX (l ++ r) = rowPX l ++ rowPX r
  | [], r => rfl
  | t :: l, r => by rw [List.cons_append, rowPX, rowPX, rowPX_append l r]; simp only [List.append_assoc]
theorem bindsX_append : ∀ (l r : List BT), bindsX (l ++ r) = bindsX l ++ bindsX r
  | [], r => rfl
  | t :: l, r => by rw [List.cons_append, bindsX, bindsX, bindsX_append l r]; simp only [List.append_assoc]
theorem itemsX_append {α : Type} (f : α → Tx) : ∀ (l r : List α), itemsX f (l ++ r) = itemsX f l ++ itemsX f r
  | [], r => rfl
  | t :: l, r => by rw [List.cons_append, itemsX, itemsX, itemsX_append f l r]; simp only [List.append_assoc]
theorem rowPX_one (t : RT) : rowPX [t] = patX t ++ [32] := by rw [rowPX, rowPX, List.append_nil]
theorem bindsX_one (x : BT) : bindsX [x] = [32] ++ bindX (tx x.s) (exprX x.t 0) := by rw [bindsX, bindsX, List.append_nil]
theorem itemsX_one {α : Type} (f : α → Tx) (x : α) : itemsX f [x] = [32, 32] ++ (f x ++ [59, 10]) := by rw [itemsX, itemsX, List.append_nil]
def kwS (k : Nat) : ByteArray := if k = 1 then ⟨#[100, 97, 116, 97]⟩ else if k = 2 then ⟨#[114, 101, 99, 111, 114, 100]⟩ else ⟨#[100, 101, 102]⟩
theorem kwS_tx (k : Nat) : tx (kwS k) = kwX k := by
  unfold kwS kwX
  by_cases h1 : k = 1
  · subst h1; rfl
  · by_cases h2 : k = 2
    · subst h2; rfl
    · rw [if_neg h1, if_neg h2, if_neg (by omega), if_neg (by omega)]; rfl
theorem kwS_size (k : Nat) : (kwS k).size ≤ 65535 := by
  unfold kwS; split
  · decide
  · split <;> decide
/-- The table of words. -/
def Words (w : World) : Prop := ∀ k, 1 ≤ k → k ≤ 3 → w.cell? ⟨1, k, none⟩ = some (.string (kwS k))
theorem Words.lt {w : World} (h : Words w) : 1 < w.heap.size := World.block_lt_of_cell? w _ (h 1 (by omega) (by omega))
theorem Words.kept {w w' : World} {B : Nat} (h : Words w) (hb : Below B w w') (hB : 1 < B) : Words w' := fun i h1 h2 => (hb.cell (p := ⟨1, i, none⟩) hB).trans (h i h1 h2)

set_option maxHeartbeats 4000000 in
theorem row_is (xa : Int) (ps : List RT) (xh : Bool) (xt : RT) {lo hi : Nat} {A : Option Addr} {c : Nat} {F : Option Addr} {C b : Nat} {T : Tx} {w : World} (h : IsRow w lo hi ⟨xa, ps, xh, xt⟩ A c F C) (hhi : hi ≤ b) (hg : 2 < b) (hbr : Bare w) (hw : WrAt w b T)
    (gp : ∀ t ∈ ps, goodB t true = true) (gb : xh = true → goodB xt false = true) :
    Calls Tryz.prog 65 #[.pointer (some ⟨b, 0, none⟩), .agg #[.int .i64 xa, .slice A ps.length c, .bool xh, .int .i64 xt.k, .int .i64 xt.a, .string xt.s, .int .i64 xt.n, .slice F xt.l.length C]] w (PutIs b T (rowX ⟨xa, ps, xh, xt⟩) w) := by
  have HW := Lib.hid hw
  have hbl := hw.lt
  have hlen : ps.length ≤ maxLen := Nat.le_trans h.hl h.hc
  have HSUB : Hid (NodesAt w lo hi A ps) := Lib.hid h.hp
  have HT := Lib.hid (fun (t : RT) (ht : t ∈ ps) (F : Option Addr) (C : Nat) (hn : IsNode w lo hi t F C) V T1 (hV : Below b w V) (hw : WrAt V b T1) => pat_is t lo hi F C b T1 V (hn.kept hV hhi) hhi hg (hbr.kept hV hg) hw (gp t ht))
  have HE0 := Lib.hid (fun (hh : xh = true) V T1 (hV : Below b w V) (hw : WrAt V b T1) => expr_is xt 0 lo hi F C b T1 V (by decide) (h.hn.kept hV hhi) hhi hg (hbr.kept hV hg) hw (gb hh))
  unfold nodeV at HT HE0
  have HHB := Lib.hid hhi
  unfold maxLen at hlen
  have HLEN := Lib.hid hlen
  obtain ⟨Y, hY⟩ : ∃ Y, rowX ⟨xa, ps, xh, xt⟩ = Y := ⟨_, rfl⟩
  have EQ : Hid (Y = rowPX ps ++ (if xh then tx ⟨#[61, 32]⟩ ++ exprX xt 0 else [])) := Lib.hid hY.symm
  rw [hY]
  clear h hhi hg hbr hw hY gp gb hlen
  go_enter Tryz.func65, Tryz.ntmps65
  go_wp2_with fail
  have hb0 := Bk.new w 64 #[.int .i64 xa, .slice A ps.length c, .bool xh, .int .i64 xt.k, .int .i64 xt.a, .string xt.s, .int .i64 xt.n, .slice F xt.l.length C]
  have hsz0 : w.heap.size + 1 ≤ (w.alloc (.cells #[.int .i64 xa, .slice A ps.length c, .bool xh, .int .i64 xt.k, .int .i64 xt.a, .string xt.s, .int .i64 xt.n, .slice F xt.l.length C] 64)).heap.size := by simp
  go_loopw [9] (fun iv wr => ∃ (i : Nat) (T2 : Tx), i ≤ ps.length ∧ iv = .int .i64 i ∧ w.heap.size + 1 ≤ wr.heap.size ∧ Hid (Wrote T (rowPX (ps.take i)) T2) ∧ Hid (WrAt wr b T2) ∧ Hid (Wk b w wr) ∧ Hid (Bk wr w.heap.size 64 #[.int .i64 xa, .slice A ps.length c, .bool xh, .int .i64 xt.k, .int .i64 xt.a, .string xt.s, .int .i64 xt.n, .slice F xt.l.length C])) (fun iv _ => ps.length - (intOf iv).toNat)
  case atStart => exact ⟨0, T, Nat.zero_le _, rfl, hsz0, Lib.hid (Wrote.nil T), Lib.hid (HW.out.alloc _), Lib.hid ((Wk.refl b w).alloc (by omega) _), Lib.hid hb0⟩
  case round =>
    clear hb0 hsz0
    obtain ⟨i, T2, hi, rfl, hwz, HXR, HWR, HKR, HBR⟩ := hrel
    have hblr := HWR.out.lt
    by_cases hlt : i < ps.length
    · obtain ⟨bs, o, G, D, hA, hb1, hbs, x0, n0⟩ := HSUB.out i hlt
      subst hA
      have hbsb : bs < b := by have := HHB.out; omega
      have hbsr : bs < wr.heap.size := by omega
      obtain ⟨c0, c1, c2, c3, c4⟩ := (x0.kept HKR.out.below hbsb).all
      obtain ⟨t, ht⟩ : ∃ t, ps[i] = t := ⟨_, rfl⟩
      rw [ht] at c0 c1 c2 c3 c4 n0
      have HT := Lib.hid (HT.out t (by rw [← ht]; exact List.getElem_mem _) G D n0)
      have HXN : Hid (rowPX (ps.take (i + 1)) = rowPX (ps.take i) ++ (patX t ++ tx ⟨#[32]⟩)) := Lib.hid (by
        rw [take_snocG hlt, rowPX_append, ht, rowPX_one]; rfl)
      obtain ⟨X0, hX0⟩ : ∃ X, patX t = X := ⟨_, rfl⟩
      rw [hX0] at HT HXN
      have hi1 : i + 1 ≤ ps.length := hlt
      have hiL : (i : Int) < 9223372036854775807 := by have := HLEN.out; omega
      clear x0 n0 ht hX0 HSUB HE0
      go_wp2_with fail
      refine (HT.out _ _ (HKR.out.below.trans ((Wk.refl b wr).alloc (by first | omega | (simp; done) | (simp; omega)) (.cells #[.int .i64 t.k, .int .i64 t.a, .string t.s, .int .i64 t.n, .slice G t.l.length D] 36)).below) (HWR.out.alloc (.cells #[.int .i64 t.k, .int .i64 t.a, .string t.s, .int .i64 t.n, .slice G t.l.length D] 36))).mono ?_; rintro e w11 ⟨rfl, T11, hx, hw, hk⟩
      have hs11 := hk.size
      try simp at hs11
      have HW11 := Lib.hid hw
      have hbl11 := hw.lt
      have HK11 := Lib.hid (((Wk.refl b wr).alloc (by first | omega | (simp; done) | (simp; omega)) (.cells #[.int .i64 t.k, .int .i64 t.a, .string t.s, .int .i64 t.n, .slice G t.l.length D] 36)).trans hk)
      have HX11 := Lib.hid hx
      have HBX11 : Hid (Bk w11 w.heap.size 64 #[.int .i64 xa, .slice (some ⟨bs, o, none⟩) ps.length c, .bool xh, .int .i64 xt.k, .int .i64 xt.a, .string xt.s, .int .i64 xt.n, .slice F xt.l.length C]) := Lib.hid (Bk.wk (HBR.out.alloc _) hk (by first | omega | (simp; done) | (simp; omega)) (by decide))
      have HBY11 : Hid (Bk w11 wr.heap.size 36 #[.int .i64 t.k, .int .i64 t.a, .string t.s, .int .i64 t.n, .slice G t.l.length D]) := Lib.hid (Bk.wk (Bk.new wr 36 #[.int .i64 t.k, .int .i64 t.a, .string t.s, .int .i64 t.n, .slice G t.l.length D]) hk (by first | omega | (simp; done) | (simp; omega)) (by decide))
      clear hx hw hk
      go_wp2_with fail
      refine (put1 (HW11.out.alloc (.cells #[.string ⟨#[32]⟩] 9)) _ ⟨#[32]⟩ (Bk.newAt (by first | rfl | simp) 9 #[.string ⟨#[32]⟩]) (by first | omega | (simp; done) | (simp; omega)) (by decide)).mono ?_; rintro e w12 ⟨rfl, T12, hx, hw, hk⟩
      have hs12 := hk.size
      try simp at hs12
      have HW12 := Lib.hid hw
      have hbl12 := hw.lt
      have HK12 := Lib.hid ((HK11.out.alloc (by first | omega | (simp; done) | (simp; omega)) (.cells #[.string ⟨#[32]⟩] 9)).trans hk)
      have HX12 := Lib.hid (HX11.out.trans hx)
      have HBX12 : Hid (Bk w12 w.heap.size 64 #[.int .i64 xa, .slice (some ⟨bs, o, none⟩) ps.length c, .bool xh, .int .i64 xt.k, .int .i64 xt.a, .string xt.s, .int .i64 xt.n, .slice F xt.l.length C]) := Lib.hid (Bk.wk (HBX11.out.alloc _) hk (by first | omega | (simp; done) | (simp; omega)) (by decide))
      have HBY12 : Hid (Bk w12 wr.heap.size 36 #[.int .i64 t.k, .int .i64 t.a, .string t.s, .int .i64 t.n, .slice G t.l.length D]) := Lib.hid (Bk.wk (HBY11.out.alloc _) hk (by first | omega | (simp; done) | (simp; omega)) (by decide))
      clear hx hw hk
      go_wp2_with fail
      go_roundw
      case rel => exact ⟨i + 1, T12, hi1, by go_num, by omega, Lib.hid (by rw [HXN.out]; have := HXR.out.trans HX12.out; simpa only [List.append_assoc] using this), HW12, Lib.hid (HKR.out.trans HK12.out), HBX12⟩
      case measure => simp [intOf]; omega
    · obtain rfl : i = ps.length := by omega
      have HXE : Hid (Wrote T (rowPX ps) T2) := Lib.hid (by have := HXR.out; rwa [List.take_length] at this)
      have HBl := HBR.out.lt
      obtain ⟨HBc0, HBc1, HBc2, HBc3, HBc4, HBc5, HBc6, HBc7⟩ := HBR.out.q8
      clear HSUB HT HXR
      cases xh with
      | false =>
        go_wp2_with fail
        go_end0
        exact ⟨rfl, T2, by rw [EQ.out]; have := HXE.out; simpa using this, HWR.out, HKR.out⟩
      | true =>
        have HE := Lib.hid (HE0.out rfl)
        obtain ⟨X1, hX1⟩ : ∃ X, exprX xt 0 = X := ⟨_, rfl⟩
        rw [hX1] at HE EQ
        clear HE0 hX1
        go_wp2_with fail
        refine (put1 (HWR.out.alloc (.cells #[.string ⟨#[61, 32]⟩] 9)) _ ⟨#[61, 32]⟩ (Bk.newAt (by first | rfl | simp) 9 #[.string ⟨#[61, 32]⟩]) (by first | omega | (simp; done) | (simp; omega)) (by decide)).mono ?_; rintro e w21 ⟨rfl, T21, hx, hw, hk⟩
        have hs21 := hk.size
        try simp at hs21
        have HW21 := Lib.hid hw
        have hbl21 := hw.lt
        have HK21 := Lib.hid (((Wk.refl b wr).alloc (by first | omega | (simp; done) | (simp; omega)) (.cells #[.string ⟨#[61, 32]⟩] 9)).trans hk)
        have HX21 := Lib.hid hx
        have HBX21 : Hid (Bk w21 w.heap.size 64 #[.int .i64 xa, .slice A ps.length c, .bool true, .int .i64 xt.k, .int .i64 xt.a, .string xt.s, .int .i64 xt.n, .slice F xt.l.length C]) := Lib.hid (Bk.wk (HBR.out.alloc _) hk (by first | omega | (simp; done) | (simp; omega)) (by decide))
        clear hx hw hk
        have HBXl21 := HBX21.out.lt
        obtain ⟨HBXc21_0, HBXc21_1, HBXc21_2, HBXc21_3, HBXc21_4, HBXc21_5, HBXc21_6, HBXc21_7⟩ := HBX21.out.q8
        go_wp2_with fail
        refine (HE.out _ _ (HKR.out.below.trans HK21.out.below) HW21.out).mono ?_; rintro e w22 ⟨rfl, T22, hx, hw, hk⟩
        have hs22 := hk.size
        try simp at hs22
        have HW22 := Lib.hid hw
        have hbl22 := hw.lt
        have HK22 := Lib.hid (HK21.out.trans hk)
        have HX22 := Lib.hid (HX21.out.trans hx)
        have HBX22 : Hid (Bk w22 w.heap.size 64 #[.int .i64 xa, .slice A ps.length c, .bool true, .int .i64 xt.k, .int .i64 xt.a, .string xt.s, .int .i64 xt.n, .slice F xt.l.length C]) := Lib.hid (Bk.wk HBX21.out hk (by first | omega | (simp; done) | (simp; omega)) (by decide))
        clear hx hw hk
        go_wp2_with fail
        go_end0
        exact ⟨rfl, T22, by rw [EQ.out]; have := HXE.out.trans HX22.out; simpa using this, HW22.out, HKR.out.trans HK22.out⟩

set_option maxHeartbeats 16000000 in
theorem decl_is (K : Nat) (hK1 : 1 ≤ K) (hK3 : K ≤ 3) (xa : Int) (xs : ByteArray) (te : List BT) (xt : RT) (co : List BT) (ro : List CT) (AA : Option Addr) (na : Nat) (AF : Option Addr) (nF : Nat) (AB : Option Addr) (nb : Nat) (AD : Option Addr) (nd : Nat) {lo hi b : Nat} {T : Tx} {w : World}
    (h : IsDecl w lo hi ⟨K, xa, xs, te, xt, co, ro⟩ ⟨AA, na, AF, nF, AB, nb, AD, nd⟩) (hhi : hi ≤ b) (hg : 2 < b) (hgw : 1 < b) (hbr : Bare w) (hwd : Words w) (hw : WrAt w b T)
    (hs : xs.size ≤ 65535) (gte : ∀ y ∈ te, y.s.size ≤ 65535 ∧ goodB y.t false = true) (gt : goodB xt false = true) (gco : ∀ y ∈ co, y.s.size ≤ 65535 ∧ goodB y.t false = true) (gro : ∀ y ∈ ro, (∀ t ∈ y.ps, goodB t true = true) ∧ (y.h = true → goodB y.t false = true)) :
    Calls Tryz.prog 29 #[.pointer (some ⟨b, 0, none⟩), .agg #[.int .i64 K, .int .i64 xa, .string xs, .slice AA te.length na, .int .i64 xt.k, .int .i64 xt.a, .string xt.s, .int .i64 xt.n, .slice AF xt.l.length nF, .slice AB co.length nb, .slice AD ro.length nd]] w (PutIs b T (declX ⟨K, xa, xs, te, xt, co, ro⟩) w) := by
  have HW := Lib.hid hw
  have hbl := hw.lt
  have HS := Lib.hid hs
  have HX0 := Lib.hid h
  have HLEN : Hid (te.length ≤ 9223372036854775807 ∧ co.length ≤ 9223372036854775807 ∧ ro.length ≤ 9223372036854775807) := Lib.hid (by
    have h1 := h.la; have h2 := h.ma; have h3 := h.lb; have h4 := h.mb; have h5 := h.ld; have h6 := h.md
    unfold maxLen at h2 h4 h6
    simp only at h1 h2 h3 h4 h5 h6
    omega)
  have HTT := Lib.hid (fun (y : BT) (hy : y ∈ te) (F : Option Addr) (C : Nat) (hn : IsBind w lo hi y F C) V T1 (hV : Below b w V) (hw : WrAt V b T1) => binding_of (expr_is y.t) y.s (gte y hy).1 (hn.hn.kept hV hhi) hhi hg (hbr.kept hV hg) hw (gte y hy).2)
  have HTC := Lib.hid (fun (y : BT) (hy : y ∈ co) (F : Option Addr) (C : Nat) (hn : IsBind w lo hi y F C) V T1 (hV : Below b w V) (hw : WrAt V b T1) => show Calls Tryz.prog 64 #[.pointer (some ⟨b, 0, none⟩), .string y.s, nodeV y.t F C] V (PutIs b T1 (conX y) V) from typed_of (expr_is y.t) y.s (gco y hy).1 (hn.hn.kept hV hhi) hhi hg (hbr.kept hV hg) hw (gco y hy).2)
  have HTR := Lib.hid (fun (y : CT) (hy : y ∈ ro) (A : Option Addr) (c : Nat) (F : Option Addr) (C : Nat) (hn : IsRow w lo hi y A c F C) V T1 (hV : Below b w V) (hw : WrAt V b T1) => row_is y.a y.ps y.h y.t (hn.kept hV hhi) hhi hg (hbr.kept hV hg) hw (gro y hy).1 (gro y hy).2)
  have HEX := Lib.hid (fun V T1 (hV : Below b w V) (hw : WrAt V b T1) => expr_is xt 0 lo hi AF nF b T1 V (by decide) (h.t.kept hV hhi) hhi hg (hbr.kept hV hg) hw gt)
  unfold nodeV at HTT HTC HEX
  have HHB := Lib.hid hhi
  obtain ⟨X9, hX9⟩ : ∃ X, exprX xt 0 = X := ⟨_, rfl⟩
  obtain ⟨u, hu⟩ : ∃ u, kwS K = u := ⟨_, rfl⟩
  have hkw := hwd K hK1 hK3
  have hus := kwS_size K
  obtain ⟨XA, hXA⟩ : ∃ X, (tx u ++ (tx ⟨#[32]⟩ ++ tx xs)) ++ (bindsX te ++ (tx ⟨#[32, 58, 32]⟩ ++ (X9 ++ tx ⟨#[32, 123, 10]⟩))) = X := ⟨_, rfl⟩
  have HXAE := Lib.hid hXA.symm
  obtain ⟨Y, hY⟩ : ∃ Y, declX ⟨K, xa, xs, te, xt, co, ro⟩ = Y := ⟨_, rfl⟩
  have EQ : Hid (Y = XA ++ (itemsX conX co ++ (itemsX rowX ro ++ tx ⟨#[125, 10]⟩))) := Lib.hid (by
    rw [← hY, ← hXA, ← hX9, ← hu, kwS_tx]
    unfold declX
    simp only [List.append_assoc]
    rfl)
  rw [hY]
  rw [hu] at hkw hus
  rw [hX9] at HEX
  have HUS := Lib.hid hus
  have hgl : 1 < w.heap.size := hwd.lt
  have hk0 : (0 : Int) ≤ (K : Int) ∧ (K : Int) < 4 := ⟨by omega, by omega⟩
  have hk2 : (K : Int) < 4 := hk0.2
  have hk1 : (0 : Int) ≤ (K : Int) := hk0.1
  have hkw2 : w.cell? ⟨1, 0 + K, none⟩ = some (.string u) := by rw [Nat.zero_add]; exact hkw
  have HKW := Lib.hid hkw
  have HGL := Lib.hid hgl
  have HGB := Lib.hid hgw
  have hgb : 1 ≠ w.heap.size := by omega
  clear h hhi hg hgw hbr hwd hw hs gte gt gco gro hX9 hu hXA hY hus hK1 hK3
  obtain ⟨W0, hW0⟩ : ∃ W, w.alloc (.cells #[.int .i64 K, .int .i64 xa, .string xs, .slice AA te.length na, .int .i64 xt.k, .int .i64 xt.a, .string xt.s, .int .i64 xt.n, .slice AF xt.l.length nF, .slice AB co.length nb, .slice AD ro.length nd] 39) = W := ⟨_, rfl⟩
  have BX0 : Bk W0 w.heap.size 39 #[.int .i64 K, .int .i64 xa, .string xs, .slice AA te.length na, .int .i64 xt.k, .int .i64 xt.a, .string xt.s, .int .i64 xt.n, .slice AF xt.l.length nF, .slice AB co.length nb, .slice AD ro.length nd] := by rw [← hW0]; exact Bk.new w _ _
  have HWR0 : Hid (WrAt W0 b T) := Lib.hid (by rw [← hW0]; exact HW.out.alloc _)
  have HKR0 : Hid (Wk b w W0) := Lib.hid (by rw [← hW0]; exact (Wk.refl b w).alloc (by omega) _)
  have hsz0 : w.heap.size + 1 ≤ W0.heap.size := by rw [← hW0]; simp
  have hkw : W0.cell? ⟨1, K, none⟩ = some (.string u) := by rw [← hW0]; exact (((Below.refl w.heap.size w).alloc (Nat.le_refl _) _).cell (p := ⟨1, K, none⟩) HGL.out).trans HKW.out
  have hkw2 : W0.cell? ⟨1, 0 + K, none⟩ = some (.string u) := by rw [Nat.zero_add]; exact hkw
  obtain ⟨x0, x1, x2, x3, x4, x5, x6, x7, x8, x9, x10⟩ := BX0.q11
  have hgl0 : 1 < W0.heap.size := by omega
  have hbl0 : b < W0.heap.size := by omega
  have HBX0 := Lib.hid BX0
  have HWW := Lib.hid hW0
  have hbk := Lib.hid ((Below.refl W0.heap.size W0).drew)
  have HK3 : Hid (∀ V, Below W0.heap.size W0 V → V.cell? ⟨w.heap.size, 0, none⟩ = some (.int .i64 K) ∧ V.cell? ⟨w.heap.size, 2, none⟩ = some (.string xs) ∧ V.cell? ⟨1, K, none⟩ = some (.string u) ∧ V.cell? ⟨1, 0 + K, none⟩ = some (.string u)) :=
    Lib.hid (fun V hV => ⟨(hV.cell (p := ⟨w.heap.size, 0, none⟩) (by show w.heap.size < _; omega)).trans x0, (hV.cell (p := ⟨w.heap.size, 2, none⟩) (by show w.heap.size < _; omega)).trans x2, (hV.cell (p := ⟨1, K, none⟩) hgl0).trans hkw, (hV.cell (p := ⟨1, 0 + K, none⟩) hgl0).trans hkw2⟩)
  clear hW0 BX0
  go_enter Tryz.func29, Tryz.ntmps29
  go_upto_region 1 with fail
  rw [HWW.out]
  go_region_held3 (fun V => V.cell? ⟨w.heap.size, 0, none⟩ = some (.int .i64 K) ∧ V.cell? ⟨w.heap.size, 2, none⟩ = some (.string xs) ∧ V.cell? ⟨1, K, none⟩ = some (.string u))
    (first | exact ⟨(HK3.out _ hbk.out).1, (HK3.out _ hbk.out).2.1, (HK3.out _ hbk.out).2.2.1⟩ | exact ⟨(HK3.out _ (hbk.out.alloc hbk.out.size _)).1, (HK3.out _ (hbk.out.alloc hbk.out.size _)).2.1, (HK3.out _ (hbk.out.alloc hbk.out.size _)).2.2.1⟩ | exact hS1.out)
    (first
      | (go_at_call 62
         refine (put3 (((HWR0.out.below hbk.out)).alloc (.cells #[.string u, .string ⟨#[32]⟩, .string xs] 9)) _ u ⟨#[32]⟩ xs (Bk.newAt (by first | rfl | simp) 9 #[.string u, .string ⟨#[32]⟩, .string xs]) (by first | omega | (simp; done) | (simp; omega)) HUS.out (by decide) HS.out).mono ?_
         rintro e w1 ⟨rfl, T1, hx, hw, hk⟩
         have HX1 := Lib.hid hx
         have HW1 := Lib.hid hw
         have hsz1 := hk.size
         have HKB := Lib.hid ((((HKR0.out.trans (Wk.of hbk.out (by omega))).alloc (by have := hbk.out.size; omega) (.cells #[.string u, .string ⟨#[32]⟩, .string xs] 9)).trans hk))
         have HBX1 : Hid (Bk w1 w.heap.size 39 #[.int .i64 K, .int .i64 xa, .string xs, .slice AA te.length na, .int .i64 xt.k, .int .i64 xt.a, .string xt.s, .int .i64 xt.n, .slice AF xt.l.length nF, .slice AB co.length nb, .slice AD ro.length nd]) := Lib.hid (Bk.wk ((HBX0.out.below hbk.out HBX0.out.lt).alloc _) hk (by omega) (by decide))
         have hS1 := Lib.hid (show w1.cell? ⟨w.heap.size, 0, none⟩ = some (.int .i64 K) ∧ w1.cell? ⟨w.heap.size, 2, none⟩ = some (.string xs) ∧ w1.cell? ⟨1, K, none⟩ = some (.string u) from ⟨HBX1.out.cell 0, HBX1.out.cell 2, (HKB.out.below.cell (p := ⟨1, K, none⟩) HGB.out).trans HKW.out⟩)
         clear hx hw hk))
  have HK1 := HKB
  have hsw1 : w.heap.size + 1 ≤ w1.heap.size := by have := hbk.out.size; simp at hsz1; omega
  have HBXl1 := HBX1.out.lt
  obtain ⟨HBXc1_0, HBXc1_1, HBXc1_2, HBXc1_3, HBXc1_4, HBXc1_5, HBXc1_6, HBXc1_7, HBXc1_8, HBXc1_9, HBXc1_10⟩ := HBX1.out.q11
  have hbl1 := HW1.out.lt
  clear hsz1 hbk HK3 HKB hS1 hkw hkw2 x0 x1 x2 x3 x4 x5 x6 x7 x8 x9 x10 hgl0 hbl0 HBX0 HWW HWR0 HKR0 hsz0 hgl hk0 hk1 hk2 hgb
  go_wp2_with fail
  clear HBXl1 HBXc1_0 HBXc1_1 HBXc1_2 HBXc1_3 HBXc1_4 HBXc1_5 HBXc1_6 HBXc1_7 HBXc1_8 HBXc1_9 HBXc1_10
  go_loopw [22] (fun iv wr => ∃ (i : Nat) (T2 : Tx), i ≤ te.length ∧ iv = .int .i64 i ∧ w.heap.size + 1 ≤ wr.heap.size ∧ Hid (Wrote T1 (bindsX (te.take i)) T2) ∧ Hid (WrAt wr b T2) ∧ Hid (Wk b w wr) ∧ Hid (Bk wr w.heap.size 39 #[.int .i64 K, .int .i64 xa, .string xs, .slice AA te.length na, .int .i64 xt.k, .int .i64 xt.a, .string xt.s, .int .i64 xt.n, .slice AF xt.l.length nF, .slice AB co.length nb, .slice AD ro.length nd])) (fun iv _ => te.length - (intOf iv).toNat)
  case atStart => exact ⟨0, T1, Nat.zero_le _, rfl, by omega, Lib.hid (Wrote.nil T1), HW1, HK1, HBX1⟩
  case round =>
    rename World => wr
    obtain ⟨i, T2, hi, rfl, hwz, HXR, HWR, HKR, HBR⟩ := hrel
    have hblr := HWR.out.lt
    by_cases hlt : i < te.length
    · obtain ⟨bs, o, G, D, hA, hb1, hbs, x0, n0⟩ := HX0.out.te i hlt
      have hA : AA = some ⟨bs, o, none⟩ := hA
      subst hA
      have hbsb : bs < b := by have := HHB.out; omega
      have hbsr : bs < wr.heap.size := by omega
      obtain ⟨y, hy⟩ : ∃ y, te[i] = y := ⟨_, rfl⟩
      rw [hy] at x0 n0
      obtain ⟨c0, c1, c2, c3, c4, c5, c6⟩ := x0.kept HKR.out.below hbsb
      have hmem : y ∈ te := by rw [← hy]; exact List.getElem_mem _
      have HT := Lib.hid (HTT.out y hmem G D n0)
      have HXN : Hid (bindsX (te.take (i + 1)) = bindsX (te.take i) ++ (tx ⟨#[32]⟩ ++ bindX (tx y.s) (exprX y.t 0))) := Lib.hid (by
        rw [take_snocG hlt, bindsX_append, hy, bindsX_one]; rfl)
      obtain ⟨X0, hX0⟩ : ∃ X, bindX (tx y.s) (exprX y.t 0) = X := ⟨_, rfl⟩
      rw [hX0] at HT HXN
      clear hX0
      have hi1 : i + 1 ≤ te.length := hlt
      have hiL : (i : Int) < 9223372036854775807 := by have := HLEN.out; omega
      clear x0 n0 hy hmem HX0 HTC HTR HEX
      go_wp2_with fail
      refine (put1 ((HWR.out.alloc (.cells #[.string y.s, .int .i64 y.a, .int .i64 y.t.k, .int .i64 y.t.a, .string y.t.s, .int .i64 y.t.n, .slice G y.t.l.length D] 98)).alloc (.cells #[.string ⟨#[32]⟩] 9)) _ ⟨#[32]⟩ (Bk.newAt (by first | rfl | simp) 9 #[.string ⟨#[32]⟩]) (by first | omega | (simp; done) | (simp; omega)) (by decide)).mono ?_; rintro e w11 ⟨rfl, T11, hx, hw, hk⟩
      have hs11 := hk.size
      try simp at hs11
      have HW11 := Lib.hid hw
      have hbl11 := hw.lt
      have HK11 := Lib.hid ((((Wk.refl b wr).alloc (by first | omega | (simp; done) | (simp; omega)) (.cells #[.string y.s, .int .i64 y.a, .int .i64 y.t.k, .int .i64 y.t.a, .string y.t.s, .int .i64 y.t.n, .slice G y.t.l.length D] 98)).alloc (by first | omega | (simp; done) | (simp; omega)) (.cells #[.string ⟨#[32]⟩] 9)).trans hk)
      have HX11 := Lib.hid hx
      have HBX11 : Hid (Bk w11 w.heap.size 39 #[.int .i64 K, .int .i64 xa, .string xs, .slice (some ⟨bs, o, none⟩) te.length na, .int .i64 xt.k, .int .i64 xt.a, .string xt.s, .int .i64 xt.n, .slice AF xt.l.length nF, .slice AB co.length nb, .slice AD ro.length nd]) := Lib.hid (Bk.wk ((HBR.out.alloc _).alloc _) hk (by first | omega | (simp; done) | (simp; omega)) (by decide))
      have HBY11 : Hid (Bk w11 wr.heap.size 98 #[.string y.s, .int .i64 y.a, .int .i64 y.t.k, .int .i64 y.t.a, .string y.t.s, .int .i64 y.t.n, .slice G y.t.l.length D]) := Lib.hid (Bk.wk ((Bk.new wr 98 #[.string y.s, .int .i64 y.a, .int .i64 y.t.k, .int .i64 y.t.a, .string y.t.s, .int .i64 y.t.n, .slice G y.t.l.length D]).alloc _) hk (by first | omega | (simp; done) | (simp; omega)) (by decide))
      clear hx hw hk
      have HBYl11 := HBY11.out.lt
      obtain ⟨HBYc11_0, HBYc11_1, HBYc11_2, HBYc11_3, HBYc11_4, HBYc11_5, HBYc11_6⟩ := HBY11.out.q7
      go_wp2_with fail
      refine (HT.out _ _ (HKR.out.below.trans HK11.out.below) HW11.out).mono ?_; rintro e w12 ⟨rfl, T12, hx, hw, hk⟩
      have hs12 := hk.size
      try simp at hs12
      have HW12 := Lib.hid hw
      have hbl12 := hw.lt
      have HK12 := Lib.hid (HK11.out.trans hk)
      have HX12 := Lib.hid (HX11.out.trans hx)
      have HBX12 : Hid (Bk w12 w.heap.size 39 #[.int .i64 K, .int .i64 xa, .string xs, .slice (some ⟨bs, o, none⟩) te.length na, .int .i64 xt.k, .int .i64 xt.a, .string xt.s, .int .i64 xt.n, .slice AF xt.l.length nF, .slice AB co.length nb, .slice AD ro.length nd]) := Lib.hid (Bk.wk HBX11.out hk (by first | omega | (simp; done) | (simp; omega)) (by decide))
      have HBY12 : Hid (Bk w12 wr.heap.size 98 #[.string y.s, .int .i64 y.a, .int .i64 y.t.k, .int .i64 y.t.a, .string y.t.s, .int .i64 y.t.n, .slice G y.t.l.length D]) := Lib.hid (Bk.wk HBY11.out hk (by first | omega | (simp; done) | (simp; omega)) (by decide))
      clear hx hw hk
      go_wp2_with fail
      go_roundw
      case rel => exact ⟨i + 1, T12, hi1, by go_num, by omega, Lib.hid (by rw [HXN.out]; have := HXR.out.trans HX12.out; simpa only [List.append_assoc] using this), HW12, Lib.hid (HKR.out.trans HK12.out), HBX12⟩
      case measure => simp [intOf]; omega
    · obtain rfl : i = te.length := by omega
      have HXE1 : Hid (Wrote T1 (bindsX te) T2) := Lib.hid (by have := HXR.out; rwa [List.take_length] at this)
      clear HXR HTT
      go_wp2_with fail
      refine (put1 (HWR.out.alloc (.cells #[.string ⟨#[32, 58, 32]⟩] 9)) _ ⟨#[32, 58, 32]⟩ (Bk.newAt (by first | rfl | simp) 9 #[.string ⟨#[32, 58, 32]⟩]) (by first | omega | (simp; done) | (simp; omega)) (by decide)).mono ?_; rintro e w31 ⟨rfl, T31, hx, hw, hk⟩
      have hs31 := hk.size
      try simp at hs31
      have HW31 := Lib.hid hw
      have hbl31 := hw.lt
      have HK31 := Lib.hid (((Wk.refl b wr).alloc (by first | omega | (simp; done) | (simp; omega)) (.cells #[.string ⟨#[32, 58, 32]⟩] 9)).trans hk)
      have HX31 := Lib.hid hx
      have HBX31 : Hid (Bk w31 w.heap.size 39 #[.int .i64 K, .int .i64 xa, .string xs, .slice AA te.length na, .int .i64 xt.k, .int .i64 xt.a, .string xt.s, .int .i64 xt.n, .slice AF xt.l.length nF, .slice AB co.length nb, .slice AD ro.length nd]) := Lib.hid (Bk.wk (HBR.out.alloc _) hk (by first | omega | (simp; done) | (simp; omega)) (by decide))
      clear hx hw hk
      have HBXl31 := HBX31.out.lt
      obtain ⟨HBXc31_0, HBXc31_1, HBXc31_2, HBXc31_3, HBXc31_4, HBXc31_5, HBXc31_6, HBXc31_7, HBXc31_8, HBXc31_9, HBXc31_10⟩ := HBX31.out.q11
      go_wp2_with fail
      refine (HEX.out _ _ (HKR.out.below.trans HK31.out.below) HW31.out).mono ?_; rintro e w32 ⟨rfl, T32, hx, hw, hk⟩
      have hs32 := hk.size
      try simp at hs32
      have HW32 := Lib.hid hw
      have hbl32 := hw.lt
      have HK32 := Lib.hid (HK31.out.trans hk)
      have HX32 := Lib.hid (HX31.out.trans hx)
      have HBX32 : Hid (Bk w32 w.heap.size 39 #[.int .i64 K, .int .i64 xa, .string xs, .slice AA te.length na, .int .i64 xt.k, .int .i64 xt.a, .string xt.s, .int .i64 xt.n, .slice AF xt.l.length nF, .slice AB co.length nb, .slice AD ro.length nd]) := Lib.hid (Bk.wk HBX31.out hk (by first | omega | (simp; done) | (simp; omega)) (by decide))
      clear hx hw hk
      go_wp2_with fail
      refine (put1 (HW32.out.alloc (.cells #[.string ⟨#[32, 123, 10]⟩] 9)) _ ⟨#[32, 123, 10]⟩ (Bk.newAt (by first | rfl | simp) 9 #[.string ⟨#[32, 123, 10]⟩]) (by first | omega | (simp; done) | (simp; omega)) (by decide)).mono ?_; rintro e w33 ⟨rfl, T33, hx, hw, hk⟩
      have hs33 := hk.size
      try simp at hs33
      have HW33 := Lib.hid hw
      have hbl33 := hw.lt
      have HK33 := Lib.hid ((HK32.out.alloc (by first | omega | (simp; done) | (simp; omega)) (.cells #[.string ⟨#[32, 123, 10]⟩] 9)).trans hk)
      have HX33 := Lib.hid (HX32.out.trans hx)
      have HBX33 : Hid (Bk w33 w.heap.size 39 #[.int .i64 K, .int .i64 xa, .string xs, .slice AA te.length na, .int .i64 xt.k, .int .i64 xt.a, .string xt.s, .int .i64 xt.n, .slice AF xt.l.length nF, .slice AB co.length nb, .slice AD ro.length nd]) := Lib.hid (Bk.wk (HBX32.out.alloc _) hk (by first | omega | (simp; done) | (simp; omega)) (by decide))
      clear hx hw hk
      have HBXl33 := HBX33.out.lt
      obtain ⟨HBXc33_0, HBXc33_1, HBXc33_2, HBXc33_3, HBXc33_4, HBXc33_5, HBXc33_6, HBXc33_7, HBXc33_8, HBXc33_9, HBXc33_10⟩ := HBX33.out.q11
      have HXA : Hid (Wrote T XA T33) := Lib.hid (by rw [HXAE.out]; have := HX1.out.trans (HXE1.out.trans HX33.out); simpa only [List.append_assoc] using this)
      obtain ⟨T34, hT34⟩ : ∃ T34, T33 = T34 := ⟨_, rfl⟩
      have HW34 : Hid (WrAt w33 b T34) := by rw [← hT34]; exact HW33
      have HK34 : Hid (Wk b w w33) := Lib.hid (HKR.out.trans HK33.out)
      have HBX34 := HBX33
      rw [hT34] at HXA
      clear hT34 HXE1 HX31 HX32 HX33 HW31 HW32 HW33 HK31 HK32 HK33 HBX31 HBX32 HWR HKR HBR HEX HX1
      go_wp2_with fail
      clear HBXl33 HBXc33_0 HBXc33_1 HBXc33_2 HBXc33_3 HBXc33_4 HBXc33_5 HBXc33_6 HBXc33_7 HBXc33_8 HBXc33_9 HBXc33_10 HBX33
      rename World => wp
      go_loopw [49] (fun iv wr => ∃ (i : Nat) (T2 : Tx), i ≤ co.length ∧ iv = .int .i64 i ∧ w.heap.size + 1 ≤ wr.heap.size ∧ Hid (Wrote T34 (itemsX conX (co.take i)) T2) ∧ Hid (WrAt wr b T2) ∧ Hid (Wk b w wr) ∧ Hid (Bk wr w.heap.size 39 #[.int .i64 K, .int .i64 xa, .string xs, .slice AA te.length na, .int .i64 xt.k, .int .i64 xt.a, .string xt.s, .int .i64 xt.n, .slice AF xt.l.length nF, .slice AB co.length nb, .slice AD ro.length nd])) (fun iv _ => co.length - (intOf iv).toNat)
      case atStart => exact ⟨0, T34, Nat.zero_le _, rfl, by omega, Lib.hid (Wrote.nil T34), HW34, HK34, HBX34⟩
      case round =>
        rename World => wr
        obtain ⟨i, T2, hi, rfl, hwz, HXR, HWR, HKR, HBR⟩ := hrel
        have hblr := HWR.out.lt
        by_cases hlt : i < co.length
        · obtain ⟨bs, o, G, D, hA, hb1, hbs, x0, n0⟩ := HX0.out.co i hlt
          have hA : AB = some ⟨bs, o, none⟩ := hA
          subst hA
          have hbsb : bs < b := by have := HHB.out; omega
          have hbsr : bs < wr.heap.size := by omega
          obtain ⟨y, hy⟩ : ∃ y, co[i] = y := ⟨_, rfl⟩
          rw [hy] at x0 n0
          obtain ⟨c0, c1, c2, c3, c4, c5, c6⟩ := x0.kept HKR.out.below hbsb
          have hmem : y ∈ co := by rw [← hy]; exact List.getElem_mem _
          have HT := Lib.hid (HTC.out y hmem G D n0)
          have HXN : Hid (itemsX conX (co.take (i + 1)) = itemsX conX (co.take i) ++ (tx ⟨#[32, 32]⟩ ++ (conX y ++ tx ⟨#[59, 10]⟩))) := Lib.hid (by
            rw [take_snocG hlt, itemsX_append, hy, itemsX_one]; rfl)
          obtain ⟨X0, hX0⟩ : ∃ X, conX y = X := ⟨_, rfl⟩
          rw [hX0] at HT HXN
          clear hX0
          have hi1 : i + 1 ≤ co.length := hlt
          have hiL : (i : Int) < 9223372036854775807 := by have := HLEN.out; omega
          clear x0 n0 hy hmem HX0 HTR
          go_wp2_with fail
          refine (put1 ((HWR.out.alloc (.cells #[.string y.s, .int .i64 y.a, .int .i64 y.t.k, .int .i64 y.t.a, .string y.t.s, .int .i64 y.t.n, .slice G y.t.l.length D] 98)).alloc (.cells #[.string ⟨#[32, 32]⟩] 9)) _ ⟨#[32, 32]⟩ (Bk.newAt (by first | rfl | simp) 9 #[.string ⟨#[32, 32]⟩]) (by first | omega | (simp; done) | (simp; omega)) (by decide)).mono ?_; rintro e w11 ⟨rfl, T11, hx, hw, hk⟩
          have hs11 := hk.size
          try simp at hs11
          have HW11 := Lib.hid hw
          have hbl11 := hw.lt
          have HK11 := Lib.hid ((((Wk.refl b wr).alloc (by first | omega | (simp; done) | (simp; omega)) (.cells #[.string y.s, .int .i64 y.a, .int .i64 y.t.k, .int .i64 y.t.a, .string y.t.s, .int .i64 y.t.n, .slice G y.t.l.length D] 98)).alloc (by first | omega | (simp; done) | (simp; omega)) (.cells #[.string ⟨#[32, 32]⟩] 9)).trans hk)
          have HX11 := Lib.hid hx
          have HBX11 : Hid (Bk w11 w.heap.size 39 #[.int .i64 K, .int .i64 xa, .string xs, .slice AA te.length na, .int .i64 xt.k, .int .i64 xt.a, .string xt.s, .int .i64 xt.n, .slice AF xt.l.length nF, .slice (some ⟨bs, o, none⟩) co.length nb, .slice AD ro.length nd]) := Lib.hid (Bk.wk ((HBR.out.alloc _).alloc _) hk (by first | omega | (simp; done) | (simp; omega)) (by decide))
          have HBY11 : Hid (Bk w11 wr.heap.size 98 #[.string y.s, .int .i64 y.a, .int .i64 y.t.k, .int .i64 y.t.a, .string y.t.s, .int .i64 y.t.n, .slice G y.t.l.length D]) := Lib.hid (Bk.wk ((Bk.new wr 98 #[.string y.s, .int .i64 y.a, .int .i64 y.t.k, .int .i64 y.t.a, .string y.t.s, .int .i64 y.t.n, .slice G y.t.l.length D]).alloc _) hk (by first | omega | (simp; done) | (simp; omega)) (by decide))
          clear hx hw hk
          have HBYl11 := HBY11.out.lt
          obtain ⟨HBYc11_0, HBYc11_1, HBYc11_2, HBYc11_3, HBYc11_4, HBYc11_5, HBYc11_6⟩ := HBY11.out.q7
          go_wp2_with fail
          refine (HT.out _ _ (HKR.out.below.trans HK11.out.below) HW11.out).mono ?_; rintro e w12 ⟨rfl, T12, hx, hw, hk⟩
          have hs12 := hk.size
          try simp at hs12
          have HW12 := Lib.hid hw
          have hbl12 := hw.lt
          have HK12 := Lib.hid (HK11.out.trans hk)
          have HX12 := Lib.hid (HX11.out.trans hx)
          have HBX12 : Hid (Bk w12 w.heap.size 39 #[.int .i64 K, .int .i64 xa, .string xs, .slice AA te.length na, .int .i64 xt.k, .int .i64 xt.a, .string xt.s, .int .i64 xt.n, .slice AF xt.l.length nF, .slice (some ⟨bs, o, none⟩) co.length nb, .slice AD ro.length nd]) := Lib.hid (Bk.wk HBX11.out hk (by first | omega | (simp; done) | (simp; omega)) (by decide))
          have HBY12 : Hid (Bk w12 wr.heap.size 98 #[.string y.s, .int .i64 y.a, .int .i64 y.t.k, .int .i64 y.t.a, .string y.t.s, .int .i64 y.t.n, .slice G y.t.l.length D]) := Lib.hid (Bk.wk HBY11.out hk (by first | omega | (simp; done) | (simp; omega)) (by decide))
          clear hx hw hk
          go_wp2_with fail
          refine (put1 (HW12.out.alloc (.cells #[.string ⟨#[59, 10]⟩] 9)) _ ⟨#[59, 10]⟩ (Bk.newAt (by first | rfl | simp) 9 #[.string ⟨#[59, 10]⟩]) (by first | omega | (simp; done) | (simp; omega)) (by decide)).mono ?_; rintro e w13 ⟨rfl, T13, hx, hw, hk⟩
          have hs13 := hk.size
          try simp at hs13
          have HW13 := Lib.hid hw
          have hbl13 := hw.lt
          have HK13 := Lib.hid ((HK12.out.alloc (by first | omega | (simp; done) | (simp; omega)) (.cells #[.string ⟨#[59, 10]⟩] 9)).trans hk)
          have HX13 := Lib.hid (HX12.out.trans hx)
          have HBX13 : Hid (Bk w13 w.heap.size 39 #[.int .i64 K, .int .i64 xa, .string xs, .slice AA te.length na, .int .i64 xt.k, .int .i64 xt.a, .string xt.s, .int .i64 xt.n, .slice AF xt.l.length nF, .slice (some ⟨bs, o, none⟩) co.length nb, .slice AD ro.length nd]) := Lib.hid (Bk.wk (HBX12.out.alloc _) hk (by first | omega | (simp; done) | (simp; omega)) (by decide))
          have HBY13 : Hid (Bk w13 wr.heap.size 98 #[.string y.s, .int .i64 y.a, .int .i64 y.t.k, .int .i64 y.t.a, .string y.t.s, .int .i64 y.t.n, .slice G y.t.l.length D]) := Lib.hid (Bk.wk (HBY12.out.alloc _) hk (by first | omega | (simp; done) | (simp; omega)) (by decide))
          clear hx hw hk
          go_wp2_with fail
          go_roundw
          case rel => exact ⟨i + 1, T13, hi1, by go_num, by omega, Lib.hid (by rw [HXN.out]; have := HXR.out.trans HX13.out; simpa only [List.append_assoc] using this), HW13, Lib.hid (HKR.out.trans HK13.out), HBX13⟩
          case measure => simp [intOf]; omega
        · obtain rfl : i = co.length := by omega
          have HXE2 : Hid (Wrote T34 (itemsX conX co) T2) := Lib.hid (by have := HXR.out; rwa [List.take_length] at this)
          clear HXR HTC
          have HXA2 : Hid (Wrote T (XA ++ itemsX conX co) T2) := Lib.hid (HXA.out.trans HXE2.out)
          have HBXl44 := HBR.out.lt
          obtain ⟨HBXc44_0, HBXc44_1, HBXc44_2, HBXc44_3, HBXc44_4, HBXc44_5, HBXc44_6, HBXc44_7, HBXc44_8, HBXc44_9, HBXc44_10⟩ := HBR.out.q11
          obtain ⟨T44, hT44⟩ : ∃ T44, T2 = T44 := ⟨_, rfl⟩
          rw [hT44] at HXA2 HWR
          clear HXE2 hT44
          have HW44 := HWR
          have HK44 := HKR
          have HBX44 := HBR
          have hsz44 : w.heap.size + 1 ≤ wr.heap.size := hwz
          go_wp2_with fail
          clear HWR HKR HBR hwz hblr HBXl44 HBXc44_0 HBXc44_1 HBXc44_2 HBXc44_3 HBXc44_4 HBXc44_5 HBXc44_6 HBXc44_7 HBXc44_8 HBXc44_9 HBXc44_10
          rename World => wq
          go_loopw [69] (fun iv wr => ∃ (i : Nat) (T2 : Tx), i ≤ ro.length ∧ iv = .int .i64 i ∧ w.heap.size + 1 ≤ wr.heap.size ∧ Hid (Wrote T44 (itemsX rowX (ro.take i)) T2) ∧ Hid (WrAt wr b T2) ∧ Hid (Wk b w wr) ∧ Hid (Bk wr w.heap.size 39 #[.int .i64 K, .int .i64 xa, .string xs, .slice AA te.length na, .int .i64 xt.k, .int .i64 xt.a, .string xt.s, .int .i64 xt.n, .slice AF xt.l.length nF, .slice AB co.length nb, .slice AD ro.length nd])) (fun iv _ => ro.length - (intOf iv).toNat)
          case atStart => exact ⟨0, T44, Nat.zero_le _, rfl, by omega, Lib.hid (Wrote.nil T44), HW44, HK44, HBX44⟩
          case round =>
            rename World => wr
            obtain ⟨i, T2, hi, rfl, hwz, HXR, HWR, HKR, HBR⟩ := hrel
            have hblr := HWR.out.lt
            by_cases hlt : i < ro.length
            · obtain ⟨bs, o, G1, D1, G, D, hA, hb1, hbs, x0, n0⟩ := HX0.out.ro i hlt
              have hA : AD = some ⟨bs, o, none⟩ := hA
              subst hA
              have hbsb : bs < b := by have := HHB.out; omega
              have hbsr : bs < wr.heap.size := by omega
              obtain ⟨y, hy⟩ : ∃ y, ro[i] = y := ⟨_, rfl⟩
              rw [hy] at x0 n0
              obtain ⟨c0, c1, c2, c3, c4, c5, c6, c7⟩ := x0.kept HKR.out.below hbsb
              have hmem : y ∈ ro := by rw [← hy]; exact List.getElem_mem _
              have HT := Lib.hid (HTR.out y hmem G1 D1 G D n0)
              have HXN : Hid (itemsX rowX (ro.take (i + 1)) = itemsX rowX (ro.take i) ++ (tx ⟨#[32, 32]⟩ ++ (rowX y ++ tx ⟨#[59, 10]⟩))) := Lib.hid (by
                rw [take_snocG hlt, itemsX_append, hy, itemsX_one]; rfl)
              obtain ⟨X0, hX0⟩ : ∃ X, rowX y = X := ⟨_, rfl⟩
              rw [hX0] at HT HXN
              clear hX0
              have hi1 : i + 1 ≤ ro.length := hlt
              have hiL : (i : Int) < 9223372036854775807 := by have := HLEN.out; omega
              clear x0 n0 hy hmem HX0
              go_wp2_with fail
              refine (put1 ((HWR.out.alloc (.cells #[.int .i64 y.a, .slice G1 y.ps.length D1, .bool y.h, .int .i64 y.t.k, .int .i64 y.t.a, .string y.t.s, .int .i64 y.t.n, .slice G y.t.l.length D] 64)).alloc (.cells #[.string ⟨#[32, 32]⟩] 9)) _ ⟨#[32, 32]⟩ (Bk.newAt (by first | rfl | simp) 9 #[.string ⟨#[32, 32]⟩]) (by first | omega | (simp; done) | (simp; omega)) (by decide)).mono ?_; rintro e w11 ⟨rfl, T11, hx, hw, hk⟩
              have hs11 := hk.size
              try simp at hs11
              have HW11 := Lib.hid hw
              have hbl11 := hw.lt
              have HK11 := Lib.hid ((((Wk.refl b wr).alloc (by first | omega | (simp; done) | (simp; omega)) (.cells #[.int .i64 y.a, .slice G1 y.ps.length D1, .bool y.h, .int .i64 y.t.k, .int .i64 y.t.a, .string y.t.s, .int .i64 y.t.n, .slice G y.t.l.length D] 64)).alloc (by first | omega | (simp; done) | (simp; omega)) (.cells #[.string ⟨#[32, 32]⟩] 9)).trans hk)
              have HX11 := Lib.hid hx
              have HBX11 : Hid (Bk w11 w.heap.size 39 #[.int .i64 K, .int .i64 xa, .string xs, .slice AA te.length na, .int .i64 xt.k, .int .i64 xt.a, .string xt.s, .int .i64 xt.n, .slice AF xt.l.length nF, .slice AB co.length nb, .slice (some ⟨bs, o, none⟩) ro.length nd]) := Lib.hid (Bk.wk ((HBR.out.alloc _).alloc _) hk (by first | omega | (simp; done) | (simp; omega)) (by decide))
              have HBY11 : Hid (Bk w11 wr.heap.size 64 #[.int .i64 y.a, .slice G1 y.ps.length D1, .bool y.h, .int .i64 y.t.k, .int .i64 y.t.a, .string y.t.s, .int .i64 y.t.n, .slice G y.t.l.length D]) := Lib.hid (Bk.wk ((Bk.new wr 64 #[.int .i64 y.a, .slice G1 y.ps.length D1, .bool y.h, .int .i64 y.t.k, .int .i64 y.t.a, .string y.t.s, .int .i64 y.t.n, .slice G y.t.l.length D]).alloc _) hk (by first | omega | (simp; done) | (simp; omega)) (by decide))
              clear hx hw hk
              have HBYl11 := HBY11.out.lt
              obtain ⟨HBYc11_0, HBYc11_1, HBYc11_2, HBYc11_3, HBYc11_4, HBYc11_5, HBYc11_6, HBYc11_7⟩ := HBY11.out.q8
              go_wp2_with fail
              refine (HT.out _ _ (HKR.out.below.trans HK11.out.below) HW11.out).mono ?_; rintro e w12 ⟨rfl, T12, hx, hw, hk⟩
              have hs12 := hk.size
              try simp at hs12
              have HW12 := Lib.hid hw
              have hbl12 := hw.lt
              have HK12 := Lib.hid (HK11.out.trans hk)
              have HX12 := Lib.hid (HX11.out.trans hx)
              have HBX12 : Hid (Bk w12 w.heap.size 39 #[.int .i64 K, .int .i64 xa, .string xs, .slice AA te.length na, .int .i64 xt.k, .int .i64 xt.a, .string xt.s, .int .i64 xt.n, .slice AF xt.l.length nF, .slice AB co.length nb, .slice (some ⟨bs, o, none⟩) ro.length nd]) := Lib.hid (Bk.wk HBX11.out hk (by first | omega | (simp; done) | (simp; omega)) (by decide))
              have HBY12 : Hid (Bk w12 wr.heap.size 64 #[.int .i64 y.a, .slice G1 y.ps.length D1, .bool y.h, .int .i64 y.t.k, .int .i64 y.t.a, .string y.t.s, .int .i64 y.t.n, .slice G y.t.l.length D]) := Lib.hid (Bk.wk HBY11.out hk (by first | omega | (simp; done) | (simp; omega)) (by decide))
              clear hx hw hk
              go_wp2_with fail
              refine (put1 (HW12.out.alloc (.cells #[.string ⟨#[59, 10]⟩] 9)) _ ⟨#[59, 10]⟩ (Bk.newAt (by first | rfl | simp) 9 #[.string ⟨#[59, 10]⟩]) (by first | omega | (simp; done) | (simp; omega)) (by decide)).mono ?_; rintro e w13 ⟨rfl, T13, hx, hw, hk⟩
              have hs13 := hk.size
              try simp at hs13
              have HW13 := Lib.hid hw
              have hbl13 := hw.lt
              have HK13 := Lib.hid ((HK12.out.alloc (by first | omega | (simp; done) | (simp; omega)) (.cells #[.string ⟨#[59, 10]⟩] 9)).trans hk)
              have HX13 := Lib.hid (HX12.out.trans hx)
              have HBX13 : Hid (Bk w13 w.heap.size 39 #[.int .i64 K, .int .i64 xa, .string xs, .slice AA te.length na, .int .i64 xt.k, .int .i64 xt.a, .string xt.s, .int .i64 xt.n, .slice AF xt.l.length nF, .slice AB co.length nb, .slice (some ⟨bs, o, none⟩) ro.length nd]) := Lib.hid (Bk.wk (HBX12.out.alloc _) hk (by first | omega | (simp; done) | (simp; omega)) (by decide))
              have HBY13 : Hid (Bk w13 wr.heap.size 64 #[.int .i64 y.a, .slice G1 y.ps.length D1, .bool y.h, .int .i64 y.t.k, .int .i64 y.t.a, .string y.t.s, .int .i64 y.t.n, .slice G y.t.l.length D]) := Lib.hid (Bk.wk (HBY12.out.alloc _) hk (by first | omega | (simp; done) | (simp; omega)) (by decide))
              clear hx hw hk
              go_wp2_with fail
              go_roundw
              case rel => exact ⟨i + 1, T13, hi1, by go_num, by omega, Lib.hid (by rw [HXN.out]; have := HXR.out.trans HX13.out; simpa only [List.append_assoc] using this), HW13, Lib.hid (HKR.out.trans HK13.out), HBX13⟩
              case measure => simp [intOf]; omega
            · obtain rfl : i = ro.length := by omega
              have HXE3 : Hid (Wrote T44 (itemsX rowX ro) T2) := Lib.hid (by have := HXR.out; rwa [List.take_length] at this)
              clear HXR HTR HX0
              go_wp2_with fail
              refine (put1 (HWR.out.alloc (.cells #[.string ⟨#[125, 10]⟩] 9)) _ ⟨#[125, 10]⟩ (Bk.newAt (by first | rfl | simp) 9 #[.string ⟨#[125, 10]⟩]) (by first | omega | (simp; done) | (simp; omega)) (by decide)).mono ?_; rintro e w61 ⟨rfl, T61, hx, hw, hk⟩
              have hs61 := hk.size
              try simp at hs61
              have HW61 := Lib.hid hw
              have hbl61 := hw.lt
              have HK61 := Lib.hid (((Wk.refl b wr).alloc (by first | omega | (simp; done) | (simp; omega)) (.cells #[.string ⟨#[125, 10]⟩] 9)).trans hk)
              have HX61 := Lib.hid hx
              have HBX61 : Hid (Bk w61 w.heap.size 39 #[.int .i64 K, .int .i64 xa, .string xs, .slice AA te.length na, .int .i64 xt.k, .int .i64 xt.a, .string xt.s, .int .i64 xt.n, .slice AF xt.l.length nF, .slice AB co.length nb, .slice AD ro.length nd]) := Lib.hid (Bk.wk (HBR.out.alloc _) hk (by first | omega | (simp; done) | (simp; omega)) (by decide))
              clear hx hw hk
              go_wp2_with fail
              go_end0
              exact ⟨rfl, T61, by rw [EQ.out]; have := HXA2.out.trans (HXE3.out.trans HX61.out); simpa only [List.append_assoc] using this, HW61.out, HKR.out.trans HK61.out⟩

end Go.Proofs.YteaojmcfppbgiaaGreatDoor
