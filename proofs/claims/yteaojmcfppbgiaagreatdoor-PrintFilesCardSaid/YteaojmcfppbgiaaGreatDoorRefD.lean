/- The document's text of a declaration: scholiumref06.Decl. -/
import Derived.Test.YteaojmcfppbgiaaGreatDoorE2
import Derived.Test.YteaojmcfppbgiaaGreatDoorD1
import Derived.Test.YteaojmcfppbgiaaGreatDoorC4
import Derived.Test.YteaojmcfppbgiaaGreatDoorPrF
namespace Go.Proofs.YteaojmcfppbgiaaGreatDoor
open Go.RowKit
set_option linter.unusedVariables false
set_option maxRecDepth 100000

theorem Bk.drewn {w : World} {g : Nat} {e : TypeId} {cs : Array Value} (h : Bk w g e cs) : Bk w.drew g e cs := h.below ((Below.refl w.heap.size w).drew) h.lt
/-- All trees of a declaration are small. -/
def FitsD (x : DT) : Prop := (∀ y ∈ x.te, y.t.size ≤ 8192) ∧ x.t.size ≤ 8192 ∧ (∀ y ∈ x.co, y.t.size ≤ 8192) ∧ ∀ y ∈ x.ro, (∀ t ∈ y.ps, t.size ≤ 8192) ∧ y.t.size ≤ 8192
set_option maxHeartbeats 16000000 in
theorem refDecl_1 (xa : Int) (xs : ByteArray) (te : List BT) (xt : RT) (co : List BT) (ro : List CT) (AA : Option Addr) (na : Nat) (AF : Option Addr) (nF : Nat) (AB : Option Addr) (nb : Nat) (AD : Option Addr) (nd : Nat) {lo hi : Nat} {w : World}
    (h : IsDecl w lo hi ⟨1, xa, xs, te, xt, co, ro⟩ ⟨AA, na, AF, nF, AB, nb, AD, nd⟩) (hhi : hi ≤ w.heap.size) (hL : (declX ⟨1, xa, xs, te, xt, co, ro⟩).length ≤ 1000000000000)
    (gte : ∀ y ∈ te, goodB y.t false = true ∧ y.t.size ≤ 8192) (gt : goodB xt false = true ∧ xt.size ≤ 8192) (gco : ∀ y ∈ co, goodB y.t false = true ∧ y.t.size ≤ 8192) (gro : ∀ y ∈ ro, (∀ t ∈ y.ps, goodB t true = true ∧ t.size ≤ 8192) ∧ (y.h = true → goodB y.t false = true ∧ y.t.size ≤ 8192)) :
    Calls Tryz.prog 31 #[.agg #[.int .i64 1, .int .i64 xa, .string xs, .slice AA te.length na, .int .i64 xt.k, .int .i64 xt.a, .string xt.s, .int .i64 xt.n, .slice AF xt.l.length nF, .slice AB co.length nb, .slice AD ro.length nd]] w (StrIs (baX (declX ⟨1, xa, xs, te, xt, co, ro⟩)) w) := by
  have HX0 := Lib.hid h
  have HLEN : Hid (te.length ≤ maxLen ∧ co.length ≤ maxLen ∧ ro.length ≤ maxLen) := Lib.hid ⟨Nat.le_trans h.la h.ma, Nat.le_trans h.lb h.mb, Nat.le_trans h.ld h.md⟩
  have HHI := Lib.hid hhi
  have HTT := Lib.hid (fun (y : BT) (hy : y ∈ te) (F : Option Addr) (C : Nat) (hn : IsBind w lo hi y F C) V (hV : Below w.heap.size w V) => show Calls Tryz.prog 70 #[nodeV y.t F C, .int .i64 0] V (StrIs (baX (exprX y.t 0)) V) from refX_any y.t 0 lo hi F C V (by decide) (hn.hn.kept hV hhi) (Nat.le_trans hhi hV.size) (gte y hy).1 (gte y hy).2)
  have HTC := Lib.hid (fun (y : BT) (hy : y ∈ co) (F : Option Addr) (C : Nat) (hn : IsBind w lo hi y F C) V (hV : Below w.heap.size w V) => show Calls Tryz.prog 70 #[nodeV y.t F C, .int .i64 0] V (StrIs (baX (exprX y.t 0)) V) from refX_any y.t 0 lo hi F C V (by decide) (hn.hn.kept hV hhi) (Nat.le_trans hhi hV.size) (gco y hy).1 (gco y hy).2)
  have HTB := Lib.hid (fun (y : CT) (hy : y ∈ ro) (hh : y.h = true) (A : Option Addr) (c : Nat) (F : Option Addr) (C : Nat) (hn : IsRow w lo hi y A c F C) V (hV : Below w.heap.size w V) => show Calls Tryz.prog 70 #[nodeV y.t F C, .int .i64 0] V (StrIs (baX (exprX y.t 0)) V) from refX_any y.t 0 lo hi F C V (by decide) (hn.hn.kept hV hhi) (Nat.le_trans hhi hV.size) ((gro y hy).2 hh).1 ((gro y hy).2 hh).2)
  have HTP := Lib.hid (fun (y : CT) (hy : y ∈ ro) (u : RT) (hu : u ∈ y.ps) (F : Option Addr) (C : Nat) (hn : IsNode w lo hi u F C) V (hV : Below w.heap.size w V) => refPat_any u lo hi F C V (hn.kept hV hhi) (Nat.le_trans hhi hV.size) ((gro y hy).1 u hu).1 ((gro y hy).1 u hu).2)
  have HEX := Lib.hid (fun V (hV : Below w.heap.size w V) => show Calls Tryz.prog 70 #[nodeV xt AF nF, .int .i64 0] V (StrIs (baX (exprX xt 0)) V) from refX_any xt 0 lo hi AF nF V (by decide) (h.t.kept hV hhi) (Nat.le_trans hhi hV.size) gt.1 gt.2)
  unfold StrIs nodeV at HTT HTC HTB HTP HEX
  obtain ⟨X9, hX9⟩ : ∃ X, exprX xt 0 = X := ⟨_, rfl⟩
  rw [hX9] at HEX
  obtain ⟨A1, hA1⟩ : ∃ X : Tx, ([100, 97, 116, 97, 32] : Tx) ++ tx xs = X := ⟨_, rfl⟩
  obtain ⟨A2, hA2⟩ : ∃ X : Tx, A1 ++ bindsX te ++ [32, 58, 32] ++ X9 ++ [32, 123, 10] = X := ⟨_, rfl⟩
  obtain ⟨A3, hA3⟩ : ∃ X : Tx, A2 ++ itemsX conX co = X := ⟨_, rfl⟩
  obtain ⟨Z, hZ⟩ : ∃ Z, declX ⟨1, xa, xs, te, xt, co, ro⟩ = Z := ⟨_, rfl⟩
  have hZ3 : Z = A3 ++ itemsX rowX ro ++ [125, 10] := by
    rw [← hZ, ← hA3, ← hA2, ← hA1, ← hX9]
    unfold declX kwX
    simp only [List.append_assoc, List.cons_append, List.nil_append]
    rfl
  rw [hZ] at hL ⊢
  have hz3 : (baX (A3 ++ itemsX rowX ro)).size + 2 ≤ 1000000000000 := by rw [baX_size]; rw [hZ3, List.length_append] at hL; simpa using hL
  have hz2 : (baX (A2 ++ itemsX conX co)).size + 2 ≤ 1000000000000 := by
    rw [← hA3] at hz3
    simp only [baX_size, List.length_append] at hz3 ⊢
    omega
  have hz1 : (baX (A1 ++ bindsX te)).size + 3 + (baX X9).size + 3 ≤ 1000000000000 := by
    rw [← hA3, ← hA2] at hz3
    simp only [baX_size, List.length_append, List.length_cons, List.length_nil] at hz3 ⊢
    omega
  have hz0 : 5 + xs.size + 2 ≤ 1000000000000 := by
    rw [← hA1] at hz1
    simp only [baX_size, List.length_append, List.length_cons, List.length_nil, tx_length] at hz1
    omega
  obtain ⟨P1, hP1⟩ : ∃ P : Nat → ByteArray, (fun i => baX (A1 ++ bindsX (te.take i))) = P := ⟨_, rfl⟩
  have HP1 := Lib.hid (fun i => congrFun hP1 i)
  have HPE1 : Hid (P1 te.length = baX (A1 ++ bindsX te)) := Lib.hid (by rw [← HP1.out, List.take_length])
  have HPZ1 : Hid (P1 0 = baX A1) := Lib.hid (by rw [← HP1.out, List.take_zero]; show baX (A1 ++ []) = _; rw [List.append_nil])
  have HPS1 : Hid (∀ i, (P1 i).size ≤ 1000000000000) := Lib.hid (fun i => by
    rw [← HP1.out]
    refine Nat.le_trans ?_ (show (baX (A1 ++ bindsX te)).size ≤ _ by omega)
    rw [baX_size, baX_size, List.length_append, List.length_append]
    refine Nat.add_le_add_left ?_ _
    conv => rhs; rw [← List.take_append_drop i te]
    rw [bindsX_append, List.length_append]
    exact Nat.le_add_right _ _)
  clear hP1
  obtain ⟨P2, hP2⟩ : ∃ P : Nat → ByteArray, (fun i => baX (A2 ++ itemsX conX (co.take i))) = P := ⟨_, rfl⟩
  have HP2 := Lib.hid (fun i => congrFun hP2 i)
  have HPE2 : Hid (P2 co.length = baX (A2 ++ itemsX conX co)) := Lib.hid (by rw [← HP2.out, List.take_length])
  have HPZ2 : Hid (P2 0 = baX A2) := Lib.hid (by rw [← HP2.out, List.take_zero]; show baX (A2 ++ []) = _; rw [List.append_nil])
  have HPS2 : Hid (∀ i, (P2 i).size ≤ 1000000000000) := Lib.hid (fun i => by
    rw [← HP2.out]
    refine Nat.le_trans ?_ (show (baX (A2 ++ itemsX conX co)).size ≤ _ by omega)
    rw [baX_size, baX_size, List.length_append, List.length_append]
    refine Nat.add_le_add_left ?_ _
    conv => rhs; rw [← List.take_append_drop i co]
    rw [itemsX_append, List.length_append]
    exact Nat.le_add_right _ _)
  clear hP2
  obtain ⟨P3, hP3⟩ : ∃ P : Nat → ByteArray, (fun i => baX (A3 ++ itemsX rowX (ro.take i))) = P := ⟨_, rfl⟩
  have HP3 := Lib.hid (fun i => congrFun hP3 i)
  have HPE3 : Hid (P3 ro.length = baX (A3 ++ itemsX rowX ro)) := Lib.hid (by rw [← HP3.out, List.take_length])
  have HPZ3 : Hid (P3 0 = baX A3) := Lib.hid (by rw [← HP3.out, List.take_zero]; show baX (A3 ++ []) = _; rw [List.append_nil])
  have HPS3 : Hid (∀ i, (P3 i).size ≤ 1000000000000) := Lib.hid (fun i => by
    rw [← HP3.out]
    refine Nat.le_trans ?_ (show (baX (A3 ++ itemsX rowX ro)).size ≤ _ by omega)
    rw [baX_size, baX_size, List.length_append, List.length_append]
    refine Nat.add_le_add_left ?_ _
    conv => rhs; rw [← List.take_append_drop i ro]
    rw [itemsX_append, List.length_append]
    exact Nat.le_add_right _ _)
  clear hP3
  have HA2e := Lib.hid hA2
  have HA3e := Lib.hid hA3
  have HZ1 := Lib.hid hz1
  have HZE : Hid (baX Z = baX (A3 ++ itemsX rowX ro) ++ ⟨#[125, 10]⟩) := Lib.hid (by rw [hZ3, ← baX_cat]; rfl)
  have HA1 : Hid (baX A1 = ⟨#[100, 97, 116, 97, 32]⟩ ++ xs) := Lib.hid (by
    rw [← hA1, ← baX_cat, baX_tx]; rfl)
  obtain ⟨R, hR⟩ : ∃ R, baX Z = R := ⟨_, rfl⟩
  rw [hR] at HZE ⊢
  unfold StrIs
  have hlitk : (⟨#[100, 97, 116, 97, 32]⟩ : ByteArray).size = 5 := rfl
  have haddk : ∀ V : World, (Op.stringOp .add ⟨#[100, 97, 116, 97, 32]⟩ xs).run Tryz.prog V = .ok (.string (⟨#[100, 97, 116, 97, 32]⟩ ++ xs)) V := fun V => run_string_add_sum V _ _ (by omega)
  clear h hhi hL gte gt gco gro hX9 hlitk hA1 hA2 hA3 hZ hZ3 hz3 hz2 hz1 hz0 hR
  go_enter Tryz.func31, Tryz.ntmps31
  go_upto_region 1 with fail
  go_cut [3] from 8 to 15 (fun s3 wx => s3 = .string (⟨#[100, 97, 116, 97, 32]⟩ ++ xs) ∧ Hid (Below w.heap.size w wx) ∧ Hid (Bk wx w.heap.size 30 #[.int .i64 1, .int .i64 xa, .string xs, .slice AA te.length na, .int .i64 xt.k, .int .i64 xt.a, .string xt.s, .int .i64 xt.n, .slice AF xt.l.length nF, .slice AB co.length nb, .slice AD ro.length nd]))
  case first =>
    clear HX0 HLEN HHI HTT HTC HTB HTP HEX HP1 HP2 HP3 HPE1 HPE2 HPE3 HPZ1 HPZ2 HPZ3 HPS1 HPS2 HPS3 HZE HA1
    go_region_law (fail)
    all_goals
      go_wp2_with fail
      go_meet
      case rel =>
        first
        | exact ⟨rfl, Lib.hid ((((Below.refl w.heap.size w).alloc (Nat.le_refl _) _).alloc (by simp) _).drew), Lib.hid (((Bk.new w _ _).alloc _).drewn)⟩
  case rest =>
    rename World => w5
    obtain ⟨rfl, HBA1, HBX1⟩ := hcut
    obtain ⟨x0, x1, x2, x3, x4, x5, x6, x7, x8, x9, x10⟩ := HBX1.out.q11
    have hkl := HBX1.out.lt
    clear haddk
    go_wp2_with fail
    clear x0 x1 x2 x3 x4 x5 x6 x7 x8 x9 x10
    go_loopw [3, 4] (fun sv iv wr => ∃ i : Nat, i ≤ te.length ∧ iv = .int .i64 i ∧ sv = .string (P1 i) ∧ Hid (Below w.heap.size w wr) ∧ Hid (Bk wr w.heap.size 30 #[.int .i64 1, .int .i64 xa, .string xs, .slice AA te.length na, .int .i64 xt.k, .int .i64 xt.a, .string xt.s, .int .i64 xt.n, .slice AF xt.l.length nF, .slice AB co.length nb, .slice AD ro.length nd])) (fun _ iv _ => te.length - (intOf iv).toNat)
    case atStart => exact ⟨0, Nat.zero_le _, rfl, by rw [HPZ1.out, HA1.out], HBA1, HBX1⟩
    case round =>
      rename World => wr
      obtain ⟨i, hi, rfl, rfl, HBL, HBK⟩ := hrel
      obtain ⟨x0, x1, x2, x3, x4, x5, x6, x7, x8, x9, x10⟩ := HBK.out.q11
      have hkl := HBK.out.lt
      have hwz := HBL.out.size
      obtain ⟨Q, hQ⟩ : ∃ Q, P1 i = Q := ⟨_, rfl⟩
      by_cases hlt : i < te.length
      · obtain ⟨bs, o, G, D, hA, hb1, hbs, xc, n0⟩ := HX0.out.te i hlt
        have hA : AA = some ⟨bs, o, none⟩ := hA
        subst hA
        have hbsw : bs < w.heap.size := by have := HHI.out; omega
        have hbsr : bs < wr.heap.size := by omega
        have hmem : te[i] ∈ te := List.getElem_mem _
        have hPN : P1 (i + 1) = Q ++ ⟨#[32, 40]⟩ ++ (te[i]).s ++ ⟨#[32, 58, 32]⟩ ++ baX (exprX (te[i]).t 0) ++ ⟨#[41]⟩ := by
          rw [← hQ, ← HP1.out, ← HP1.out, take_snocG hlt, bindsX_append, bindsX_one]
          unfold bindX typedX
          conv => rhs; rw [← baX_tx (te[i]).s]
          rw [show ⟨#[32, 40]⟩ = baX [32, 40] from rfl, show ⟨#[32, 58, 32]⟩ = baX [32, 58, 32] from rfl, show ⟨#[41]⟩ = baX [41] from rfl]
          simp only [baX_cat, List.append_assoc, List.cons_append, List.nil_append]
        have hsz := HPS1.out (i + 1)
        obtain ⟨y, hy⟩ : ∃ y, te[i] = y := ⟨_, rfl⟩
        rw [hy] at xc n0 hmem hPN
        have hT := HTT.out y hmem G D n0
        obtain ⟨R0, hR0⟩ : ∃ R, baX (exprX y.t 0) = R := ⟨_, rfl⟩
        rw [hR0] at hT hPN
        rw [hPN] at hsz
        simp only [ByteArray.size_append] at hsz
        have HT := Lib.hid hT
        have HPN := Lib.hid hPN
        have KEEP := Lib.hid (fun V (hV : Below wr.heap.size wr V) => show V.cell? ⟨w.heap.size, 3, none⟩ = some (.slice (some ⟨bs, o, none⟩) te.length na) ∧ V.cell? ⟨bs, o + i * 7, none⟩ = some (.string y.s) ∧ V.cell? ⟨bs, o + i * 7 + 2, none⟩ = some (.int .i64 y.t.k) ∧ V.cell? ⟨bs, o + i * 7 + 3, none⟩ = some (.int .i64 y.t.a) ∧ V.cell? ⟨bs, o + i * 7 + 4, none⟩ = some (.string y.t.s) ∧ V.cell? ⟨bs, o + i * 7 + 5, none⟩ = some (.int .i64 y.t.n) ∧ V.cell? ⟨bs, o + i * 7 + 6, none⟩ = some (.slice G y.t.l.length D) ∧ V.cell? ⟨bs, o + i * 7 + 2 + 1, none⟩ = some (.int .i64 y.t.a) ∧ V.cell? ⟨bs, o + i * 7 + 2 + 2, none⟩ = some (.string y.t.s) ∧ V.cell? ⟨bs, o + i * 7 + 2 + 3, none⟩ = some (.int .i64 y.t.n) ∧ V.cell? ⟨bs, o + i * 7 + 2 + 4, none⟩ = some (.slice G y.t.l.length D) from (by
          have k := xc.kept (HBL.out.trans (hV.mono hwz)) hbsw
          have kb := (HBK.out.below hV hkl).q11
          exact ⟨kb.2.2.2.1, k.c0, k.c2, k.c3, k.c4, k.c5, k.c6, k.c3, k.c4, k.c5, k.c6⟩))
        obtain ⟨kx, c0, c2, c3, c4, c5, c6, d3, d4, d5, d6⟩ := KEEP.out wr (Below.refl _ _)
        have hbk := Lib.hid ((Below.refl wr.heap.size wr).drew)
        have hlitl0 : (⟨#[32, 40]⟩ : ByteArray).size = 2 := rfl
        have hlitl2 : (⟨#[32, 58, 32]⟩ : ByteArray).size = 3 := rfl
        have hlitl4 : (⟨#[41]⟩ : ByteArray).size = 1 := rfl
        have haddl0 : ∀ V : World, (Op.stringOp .add Q ⟨#[32, 40]⟩).run Tryz.prog V = .ok (.string (Q ++ ⟨#[32, 40]⟩)) V := fun V => run_string_add_sum V _ _ (by (repeat rw [ByteArray.size_append]); omega)
        have haddl1 : ∀ V : World, (Op.stringOp .add (Q ++ ⟨#[32, 40]⟩) y.s).run Tryz.prog V = .ok (.string ((Q ++ ⟨#[32, 40]⟩) ++ y.s)) V := fun V => run_string_add_sum V _ _ (by (repeat rw [ByteArray.size_append]); omega)
        have haddl2 : ∀ V : World, (Op.stringOp .add ((Q ++ ⟨#[32, 40]⟩) ++ y.s) ⟨#[32, 58, 32]⟩).run Tryz.prog V = .ok (.string (((Q ++ ⟨#[32, 40]⟩) ++ y.s) ++ ⟨#[32, 58, 32]⟩)) V := fun V => run_string_add_sum V _ _ (by (repeat rw [ByteArray.size_append]); omega)
        have haddl3 : ∀ V : World, (Op.stringOp .add (((Q ++ ⟨#[32, 40]⟩) ++ y.s) ++ ⟨#[32, 58, 32]⟩) R0).run Tryz.prog V = .ok (.string ((((Q ++ ⟨#[32, 40]⟩) ++ y.s) ++ ⟨#[32, 58, 32]⟩) ++ R0)) V := fun V => run_string_add_sum V _ _ (by (repeat rw [ByteArray.size_append]); omega)
        have haddl4 : ∀ V : World, (Op.stringOp .add ((((Q ++ ⟨#[32, 40]⟩) ++ y.s) ++ ⟨#[32, 58, 32]⟩) ++ R0) ⟨#[41]⟩).run Tryz.prog V = .ok (.string (((((Q ++ ⟨#[32, 40]⟩) ++ y.s) ++ ⟨#[32, 58, 32]⟩) ++ R0) ++ ⟨#[41]⟩)) V := fun V => run_string_add_sum V _ _ (by (repeat rw [ByteArray.size_append]); omega)
        clear hlitl0 hlitl2 hlitl4
        have hi1 : i + 1 ≤ te.length := hlt
        have hiL : (i : Int) < 9223372036854775807 := by have := HLEN.out; unfold maxLen at this; omega
        rw [hQ]
        clear xc n0 hy hmem hPN hsz hT hR0 hQ
        go_upto_region 5 with fail
        go_region_held3 (fun w' => Below wr.heap.size wr w' ∧ w'.cell? ⟨w.heap.size, 3, none⟩ = some (.slice (some ⟨bs, o, none⟩) te.length na) ∧ w'.cell? ⟨bs, o + i * 7, none⟩ = some (.string y.s) ∧ w'.cell? ⟨bs, o + i * 7 + 2, none⟩ = some (.int .i64 y.t.k) ∧ w'.cell? ⟨bs, o + i * 7 + 3, none⟩ = some (.int .i64 y.t.a) ∧ w'.cell? ⟨bs, o + i * 7 + 4, none⟩ = some (.string y.t.s) ∧ w'.cell? ⟨bs, o + i * 7 + 5, none⟩ = some (.int .i64 y.t.n) ∧ w'.cell? ⟨bs, o + i * 7 + 6, none⟩ = some (.slice G y.t.l.length D) ∧ w'.cell? ⟨bs, o + i * 7 + 2 + 1, none⟩ = some (.int .i64 y.t.a) ∧ w'.cell? ⟨bs, o + i * 7 + 2 + 2, none⟩ = some (.string y.t.s) ∧ w'.cell? ⟨bs, o + i * 7 + 2 + 3, none⟩ = some (.int .i64 y.t.n) ∧ w'.cell? ⟨bs, o + i * 7 + 2 + 4, none⟩ = some (.slice G y.t.l.length D))
          (first | exact ⟨hbk.out, KEEP.out _ hbk.out⟩)
          (first
            | (go_at_call 70; with_reducible refine (HT.out _ (HBL.out.trans (hbk.out.mono hwz))).mono ?_; rintro e w3 ⟨rfl, hb3⟩; have hbk := Lib.hid (hbk.out.trans (hb3.mono hbk.out.size)); clear hb3))
        all_goals
          have HB1 := Lib.hid (HBL.out.trans (hbk.out.mono hwz))
          have HK1 := Lib.hid (HBK.out.below hbk.out hkl)
          clear KEEP HT
          go_wp2_with fail
          go_roundw
          case rel => exact ⟨i + 1, hi1, by go_num, by rw [HPN.out], HB1, HK1⟩
          case measure => simp [intOf]; omega
      · obtain rfl : i = te.length := by omega
        rw [hQ]
        have HQE : Hid (Q = baX (A1 ++ bindsX te)) := Lib.hid (by rw [← hQ, HPE1.out])
        have hQs : Q.size ≤ 1000000000000 := by have := HPS1.out te.length; rwa [hQ] at this
        clear hQ
        have HA2 : Hid (baX A2 = Q ++ ⟨#[32, 58, 32]⟩ ++ baX X9 ++ ⟨#[32, 123, 10]⟩) := Lib.hid (by
          rw [HQE.out, ← HA2e.out]
          rw [show ⟨#[32, 58, 32]⟩ = baX [32,58,32] from rfl, show ⟨#[32, 123, 10]⟩ = baX [32,123,10] from rfl]
          simp only [baX_cat, List.append_assoc])
        have hz9 : Q.size + 3 + (baX X9).size + 3 ≤ 1000000000000 := by have := HZ1.out; rw [HQE.out]; exact this
        obtain ⟨R9, hR9⟩ : ∃ R, baX X9 = R := ⟨_, rfl⟩
        rw [hR9] at HEX HA2 hz9
        have hlite0 : (⟨#[32, 58, 32]⟩ : ByteArray).size = 3 := rfl
        have hlite2 : (⟨#[32, 123, 10]⟩ : ByteArray).size = 3 := rfl
        have hadde0 : ∀ V : World, (Op.stringOp .add Q ⟨#[32, 58, 32]⟩).run Tryz.prog V = .ok (.string (Q ++ ⟨#[32, 58, 32]⟩)) V := fun V => run_string_add_sum V _ _ (by (repeat rw [ByteArray.size_append]); omega)
        have hadde1 : ∀ V : World, (Op.stringOp .add (Q ++ ⟨#[32, 58, 32]⟩) R9).run Tryz.prog V = .ok (.string ((Q ++ ⟨#[32, 58, 32]⟩) ++ R9)) V := fun V => run_string_add_sum V _ _ (by (repeat rw [ByteArray.size_append]); omega)
        have hadde2 : ∀ V : World, (Op.stringOp .add ((Q ++ ⟨#[32, 58, 32]⟩) ++ R9) ⟨#[32, 123, 10]⟩).run Tryz.prog V = .ok (.string (((Q ++ ⟨#[32, 58, 32]⟩) ++ R9) ++ ⟨#[32, 123, 10]⟩)) V := fun V => run_string_add_sum V _ _ (by (repeat rw [ByteArray.size_append]); omega)
        clear hlite0 hlite2
        clear hR9 hQs hz9
        go_wp2_with fail
        refine (HEX.out _ HBL.out).mono ?_; rintro e w1 ⟨rfl, hb⟩
        have HBA2 := Lib.hid (HBL.out.trans (hb.mono hwz))
        have HBX2 := Lib.hid (HBK.out.below hb hkl)
        obtain ⟨x0, x1, x2, x3, x4, x5, x6, x7, x8, x9, x10⟩ := HBX2.out.q11
        have hkl2 := HBX2.out.lt
        clear hb HQE HEX
        go_wp2_with fail
        clear HBL HBK x0 x1 x2 x3 x4 x5 x6 x7 x8 x9 x10 hwz hkl
        rename World => wp
        go_loopw [3, 5] (fun sv iv wr => ∃ i : Nat, i ≤ co.length ∧ iv = .int .i64 i ∧ sv = .string (P2 i) ∧ Hid (Below w.heap.size w wr) ∧ Hid (Bk wr w.heap.size 30 #[.int .i64 1, .int .i64 xa, .string xs, .slice AA te.length na, .int .i64 xt.k, .int .i64 xt.a, .string xt.s, .int .i64 xt.n, .slice AF xt.l.length nF, .slice AB co.length nb, .slice AD ro.length nd])) (fun _ iv _ => co.length - (intOf iv).toNat)
        case atStart => exact ⟨0, Nat.zero_le _, rfl, by rw [HPZ2.out, HA2.out], HBA2, HBX2⟩
        case round =>
          rename World => wr
          obtain ⟨i, hi, rfl, rfl, HBL, HBK⟩ := hrel
          obtain ⟨x0, x1, x2, x3, x4, x5, x6, x7, x8, x9, x10⟩ := HBK.out.q11
          have hkl := HBK.out.lt
          have hwz := HBL.out.size
          obtain ⟨Q, hQ⟩ : ∃ Q, P2 i = Q := ⟨_, rfl⟩
          by_cases hlt : i < co.length
          · obtain ⟨bs, o, G, D, hA, hb1, hbs, xc, n0⟩ := HX0.out.co i hlt
            have hA : AB = some ⟨bs, o, none⟩ := hA
            subst hA
            have hbsw : bs < w.heap.size := by have := HHI.out; omega
            have hbsr : bs < wr.heap.size := by omega
            have hmem : co[i] ∈ co := List.getElem_mem _
            have hPN : P2 (i + 1) = Q ++ ⟨#[32, 32]⟩ ++ (co[i]).s ++ ⟨#[32, 58, 32]⟩ ++ baX (exprX (co[i]).t 0) ++ ⟨#[59, 10]⟩ := by
              rw [← hQ, ← HP2.out, ← HP2.out, take_snocG hlt, itemsX_append, itemsX_one]
              unfold conX typedX
              conv => rhs; rw [← baX_tx (co[i]).s]
              rw [show ⟨#[32, 32]⟩ = baX [32, 32] from rfl, show ⟨#[32, 58, 32]⟩ = baX [32, 58, 32] from rfl, show ⟨#[59, 10]⟩ = baX [59, 10] from rfl]
              simp only [baX_cat, List.append_assoc, List.cons_append, List.nil_append]
            have hsz := HPS2.out (i + 1)
            obtain ⟨y, hy⟩ : ∃ y, co[i] = y := ⟨_, rfl⟩
            rw [hy] at xc n0 hmem hPN
            have hT := HTC.out y hmem G D n0
            obtain ⟨R0, hR0⟩ : ∃ R, baX (exprX y.t 0) = R := ⟨_, rfl⟩
            rw [hR0] at hT hPN
            rw [hPN] at hsz
            simp only [ByteArray.size_append] at hsz
            have HT := Lib.hid hT
            have HPN := Lib.hid hPN
            have KEEP := Lib.hid (fun V (hV : Below wr.heap.size wr V) => show V.cell? ⟨w.heap.size, 9, none⟩ = some (.slice (some ⟨bs, o, none⟩) co.length nb) ∧ V.cell? ⟨bs, o + i * 7, none⟩ = some (.string y.s) ∧ V.cell? ⟨bs, o + i * 7 + 2, none⟩ = some (.int .i64 y.t.k) ∧ V.cell? ⟨bs, o + i * 7 + 3, none⟩ = some (.int .i64 y.t.a) ∧ V.cell? ⟨bs, o + i * 7 + 4, none⟩ = some (.string y.t.s) ∧ V.cell? ⟨bs, o + i * 7 + 5, none⟩ = some (.int .i64 y.t.n) ∧ V.cell? ⟨bs, o + i * 7 + 6, none⟩ = some (.slice G y.t.l.length D) ∧ V.cell? ⟨bs, o + i * 7 + 2 + 1, none⟩ = some (.int .i64 y.t.a) ∧ V.cell? ⟨bs, o + i * 7 + 2 + 2, none⟩ = some (.string y.t.s) ∧ V.cell? ⟨bs, o + i * 7 + 2 + 3, none⟩ = some (.int .i64 y.t.n) ∧ V.cell? ⟨bs, o + i * 7 + 2 + 4, none⟩ = some (.slice G y.t.l.length D) from (by
              have k := xc.kept (HBL.out.trans (hV.mono hwz)) hbsw
              have kb := (HBK.out.below hV hkl).q11
              exact ⟨kb.2.2.2.2.2.2.2.2.2.1, k.c0, k.c2, k.c3, k.c4, k.c5, k.c6, k.c3, k.c4, k.c5, k.c6⟩))
            obtain ⟨kx, c0, c2, c3, c4, c5, c6, d3, d4, d5, d6⟩ := KEEP.out wr (Below.refl _ _)
            have hbk := Lib.hid ((Below.refl wr.heap.size wr).drew)
            have hlitl0 : (⟨#[32, 32]⟩ : ByteArray).size = 2 := rfl
            have hlitl2 : (⟨#[32, 58, 32]⟩ : ByteArray).size = 3 := rfl
            have hlitl4 : (⟨#[59, 10]⟩ : ByteArray).size = 2 := rfl
            have haddl0 : ∀ V : World, (Op.stringOp .add Q ⟨#[32, 32]⟩).run Tryz.prog V = .ok (.string (Q ++ ⟨#[32, 32]⟩)) V := fun V => run_string_add_sum V _ _ (by (repeat rw [ByteArray.size_append]); omega)
            have haddl1 : ∀ V : World, (Op.stringOp .add (Q ++ ⟨#[32, 32]⟩) y.s).run Tryz.prog V = .ok (.string ((Q ++ ⟨#[32, 32]⟩) ++ y.s)) V := fun V => run_string_add_sum V _ _ (by (repeat rw [ByteArray.size_append]); omega)
            have haddl2 : ∀ V : World, (Op.stringOp .add ((Q ++ ⟨#[32, 32]⟩) ++ y.s) ⟨#[32, 58, 32]⟩).run Tryz.prog V = .ok (.string (((Q ++ ⟨#[32, 32]⟩) ++ y.s) ++ ⟨#[32, 58, 32]⟩)) V := fun V => run_string_add_sum V _ _ (by (repeat rw [ByteArray.size_append]); omega)
            have haddl3 : ∀ V : World, (Op.stringOp .add (((Q ++ ⟨#[32, 32]⟩) ++ y.s) ++ ⟨#[32, 58, 32]⟩) R0).run Tryz.prog V = .ok (.string ((((Q ++ ⟨#[32, 32]⟩) ++ y.s) ++ ⟨#[32, 58, 32]⟩) ++ R0)) V := fun V => run_string_add_sum V _ _ (by (repeat rw [ByteArray.size_append]); omega)
            have haddl4 : ∀ V : World, (Op.stringOp .add ((((Q ++ ⟨#[32, 32]⟩) ++ y.s) ++ ⟨#[32, 58, 32]⟩) ++ R0) ⟨#[59, 10]⟩).run Tryz.prog V = .ok (.string (((((Q ++ ⟨#[32, 32]⟩) ++ y.s) ++ ⟨#[32, 58, 32]⟩) ++ R0) ++ ⟨#[59, 10]⟩)) V := fun V => run_string_add_sum V _ _ (by (repeat rw [ByteArray.size_append]); omega)
            clear hlitl0 hlitl2 hlitl4
            have hi1 : i + 1 ≤ co.length := hlt
            have hiL : (i : Int) < 9223372036854775807 := by have := HLEN.out; unfold maxLen at this; omega
            rw [hQ]
            clear xc n0 hy hmem hPN hsz hT hR0 hQ
            go_upto_region 10 with fail
            go_region_held3 (fun w' => Below wr.heap.size wr w' ∧ w'.cell? ⟨w.heap.size, 9, none⟩ = some (.slice (some ⟨bs, o, none⟩) co.length nb) ∧ w'.cell? ⟨bs, o + i * 7, none⟩ = some (.string y.s) ∧ w'.cell? ⟨bs, o + i * 7 + 2, none⟩ = some (.int .i64 y.t.k) ∧ w'.cell? ⟨bs, o + i * 7 + 3, none⟩ = some (.int .i64 y.t.a) ∧ w'.cell? ⟨bs, o + i * 7 + 4, none⟩ = some (.string y.t.s) ∧ w'.cell? ⟨bs, o + i * 7 + 5, none⟩ = some (.int .i64 y.t.n) ∧ w'.cell? ⟨bs, o + i * 7 + 6, none⟩ = some (.slice G y.t.l.length D) ∧ w'.cell? ⟨bs, o + i * 7 + 2 + 1, none⟩ = some (.int .i64 y.t.a) ∧ w'.cell? ⟨bs, o + i * 7 + 2 + 2, none⟩ = some (.string y.t.s) ∧ w'.cell? ⟨bs, o + i * 7 + 2 + 3, none⟩ = some (.int .i64 y.t.n) ∧ w'.cell? ⟨bs, o + i * 7 + 2 + 4, none⟩ = some (.slice G y.t.l.length D))
              (first | exact ⟨hbk.out, KEEP.out _ hbk.out⟩)
              (first
                | (go_at_call 70; with_reducible refine (HT.out _ (HBL.out.trans (hbk.out.mono hwz))).mono ?_; rintro e w3 ⟨rfl, hb3⟩; have hbk := Lib.hid (hbk.out.trans (hb3.mono hbk.out.size)); clear hb3))
            all_goals
              have HB1 := Lib.hid (HBL.out.trans (hbk.out.mono hwz))
              have HK1 := Lib.hid (HBK.out.below hbk.out hkl)
              clear KEEP HT
              go_wp2_with fail
              go_roundw
              case rel => exact ⟨i + 1, hi1, by go_num, by rw [HPN.out], HB1, HK1⟩
              case measure => simp [intOf]; omega
          · obtain rfl : i = co.length := by omega
            rw [hQ]
            have HQE : Hid (Q = baX (A2 ++ itemsX conX co)) := Lib.hid (by rw [← hQ, HPE2.out])
            have hQs : Q.size ≤ 1000000000000 := by have := HPS2.out co.length; rwa [hQ] at this
            clear hQ
            have HA3 : Hid (baX A3 = Q) := Lib.hid (by rw [HQE.out, ← HA3e.out])
            have HBA3 := HBL
            have HBX3 := HBK
            clear hQs
            go_wp2_with fail
            clear HQE HBL HBK x0 x1 x2 x3 x4 x5 x6 x7 x8 x9 x10 hwz hkl
            rename World => wp
            go_loopw [3, 6] (fun sv iv wr => ∃ i : Nat, i ≤ ro.length ∧ iv = .int .i64 i ∧ sv = .string (P3 i) ∧ Hid (Below w.heap.size w wr) ∧ Hid (Bk wr w.heap.size 30 #[.int .i64 1, .int .i64 xa, .string xs, .slice AA te.length na, .int .i64 xt.k, .int .i64 xt.a, .string xt.s, .int .i64 xt.n, .slice AF xt.l.length nF, .slice AB co.length nb, .slice AD ro.length nd])) (fun _ iv _ => ro.length - (intOf iv).toNat)
            case atStart => exact ⟨0, Nat.zero_le _, rfl, by rw [HPZ3.out, HA3.out], HBA3, HBX3⟩
            case round =>
              rename World => wr
              obtain ⟨i, hi, rfl, rfl, HBL, HBK⟩ := hrel
              obtain ⟨x0, x1, x2, x3, x4, x5, x6, x7, x8, x9, x10⟩ := HBK.out.q11
              have hkl := HBK.out.lt
              have hwz := HBL.out.size
              obtain ⟨Q, hQ⟩ : ∃ Q, P3 i = Q := ⟨_, rfl⟩
              by_cases hlt : i < ro.length
              · obtain ⟨bs, o, G1, D1, G, D, hA, hb1, hbs, xc, n0⟩ := HX0.out.ro i hlt
                have hA : AD = some ⟨bs, o, none⟩ := hA
                subst hA
                have hbsw : bs < w.heap.size := by have := HHI.out; omega
                have hbsr : bs < wr.heap.size := by omega
                have hmem : ro[i] ∈ ro := List.getElem_mem _
                have hPF : (ro[i]).h = false → P3 (i + 1) = Q ++ ⟨#[32, 32]⟩ ++ baX (rowPX (ro[i]).ps) ++ ⟨#[59, 10]⟩ := fun hh => by
                  rw [← hQ, ← HP3.out, ← HP3.out, take_snocG hlt, itemsX_append, itemsX_one]
                  unfold rowX
                  rw [hh, show ⟨#[32, 32]⟩ = baX [32, 32] from rfl, show ⟨#[59, 10]⟩ = baX [59, 10] from rfl]
                  simp only [baX_cat, List.append_assoc, List.cons_append, List.nil_append, List.append_nil, Bool.false_eq_true, if_false]
                have hPT : (ro[i]).h = true → P3 (i + 1) = Q ++ ⟨#[32, 32]⟩ ++ baX (rowPX (ro[i]).ps) ++ ⟨#[61, 32]⟩ ++ baX (exprX (ro[i]).t 0) ++ ⟨#[59, 10]⟩ := fun hh => by
                  rw [← hQ, ← HP3.out, ← HP3.out, take_snocG hlt, itemsX_append, itemsX_one]
                  unfold rowX
                  rw [hh, show ⟨#[32, 32]⟩ = baX [32, 32] from rfl, show ⟨#[59, 10]⟩ = baX [59, 10] from rfl, show ⟨#[61, 32]⟩ = baX [61, 32] from rfl]
                  simp only [baX_cat, List.append_assoc, List.cons_append, List.nil_append, if_true]
                have hsz := HPS3.out (i + 1)
                obtain ⟨y, hy⟩ : ∃ y, ro[i] = y := ⟨_, rfl⟩
                rw [hy] at xc n0 hmem hPF hPT
                have hzr : Q.size + 2 + (baX (rowPX y.ps)).size + 2 ≤ 1000000000000 := by
                  cases hh : y.h with
                  | false => rw [hPF hh] at hsz; simp only [ByteArray.size_append] at hsz; exact hsz
                  | true => rw [hPT hh] at hsz; simp only [ByteArray.size_append] at hsz; have e1 : (⟨#[61, 32]⟩ : ByteArray).size = 2 := rfl; have e2 : (⟨#[32, 32]⟩ : ByteArray).size = 2 := rfl; have e3 : (⟨#[59, 10]⟩ : ByteArray).size = 2 := rfl; omega
                have HZR := Lib.hid hzr
                have HPF := Lib.hid hPF
                have HPT := Lib.hid hPT
                have HSZ := Lib.hid hsz
                have HROW := Lib.hid n0
                have HXC := Lib.hid xc
                have HTPY := Lib.hid (fun u hu F C hn V hV => HTP.out y hmem u hu F C hn V hV)
                have HTBY := Lib.hid (fun hh V hV => HTB.out y hmem hh G1 D1 G D n0 V hV)
                have hi1 : i + 1 ≤ ro.length := hlt
                have hiL : (i : Int) < 9223372036854775807 := by have := HLEN.out; unfold maxLen at this; omega
                have hlit0 : (⟨#[32, 32]⟩ : ByteArray).size = 2 := rfl
                have hadd0 : ∀ V : World, (Op.stringOp .add Q ⟨#[32, 32]⟩).run Tryz.prog V = .ok (.string (Q ++ ⟨#[32, 32]⟩)) V := fun V => run_string_add_sum V _ _ (by omega)
                obtain ⟨Q4, hQ4⟩ : ∃ q, Q ++ ⟨#[32, 32]⟩ = q := ⟨_, rfl⟩
                have hQ4s : Q4.size = Q.size + 2 := by rw [← hQ4, ByteArray.size_append]; rfl
                have HQ4 := Lib.hid hQ4
                rw [hQ4] at hadd0
                obtain ⟨P4, hP4⟩ : ∃ P : Nat → ByteArray, (fun k => Q4 ++ baX (rowPX (y.ps.take k))) = P := ⟨_, rfl⟩
                have HP4 := Lib.hid (fun k => congrFun hP4 k)
                have HPE4 : Hid (P4 y.ps.length = Q4 ++ baX (rowPX y.ps)) := Lib.hid (by rw [← HP4.out, List.take_length])
                have HPZ4 : Hid (P4 0 = Q4) := Lib.hid (by rw [← HP4.out, List.take_zero]; show Q4 ++ baX [] = _; rw [show baX [] = ByteArray.empty from rfl, ByteArray.append_empty])
                have HPN4 : Hid (∀ k (hk : k < y.ps.length), P4 (k + 1) = P4 k ++ baX (patX y.ps[k]) ++ ⟨#[32]⟩) := Lib.hid (fun k hk => by
                  rw [← HP4.out, ← HP4.out, take_snocG hk, rowPX_append, rowPX_one, show ⟨#[32]⟩ = baX [32] from rfl, ← baX_cat, ← baX_cat]
                  simp only [ByteArray.append_assoc])
                have HPS4 : Hid (∀ k, (P4 k).size + 2 ≤ 1000000000000) := Lib.hid (fun k => by
                  rw [← HP4.out, ByteArray.size_append, hQ4s]
                  have h1 : (baX (rowPX (y.ps.take k))).size ≤ (baX (rowPX y.ps)).size := by
                    rw [baX_size, baX_size]
                    conv => rhs; rw [← List.take_append_drop k y.ps]
                    rw [rowPX_append, List.length_append]
                    exact Nat.le_add_right _ _
                  omega)
                rw [hQ]
                clear xc n0 hy hmem hPF hPT hsz hzr hQ hlit0 hQ4 hQ4s hP4
                go_wp2_with fail
                clear x0 x1 x2 x3 x4 x5 x6 x7 x8 x9 x10
                rename World => wq
                go_loopw [3, 7] (fun sv kv wx => ∃ k : Nat, k ≤ y.ps.length ∧ kv = .int .i64 k ∧ sv = .string (P4 k) ∧ Hid (Below w.heap.size w wx) ∧ Hid (Bk wx w.heap.size 30 #[.int .i64 1, .int .i64 xa, .string xs, .slice AA te.length na, .int .i64 xt.k, .int .i64 xt.a, .string xt.s, .int .i64 xt.n, .slice AF xt.l.length nF, .slice AB co.length nb, .slice (some ⟨bs, o, none⟩) ro.length nd])) (fun _ kv _ => y.ps.length - (intOf kv).toNat)
                case atStart => exact ⟨0, Nat.zero_le _, rfl, by rw [HPZ4.out], HBL, HBK⟩
                case round =>
                  rename World => wx
                  obtain ⟨k, hk, rfl, rfl, HBL4, HBK4⟩ := hrel
                  obtain ⟨x0, x1, x2, x3, x4, x5, x6, x7, x8, x9, x10⟩ := HBK4.out.q11
                  have hkl4 := HBK4.out.lt
                  have hwz4 := HBL4.out.size
                  have hbsx : bs < wx.heap.size := by omega
                  obtain ⟨U, hU⟩ : ∃ U, P4 k = U := ⟨_, rfl⟩
                  have hUs : U.size + 2 ≤ 1000000000000 := by rw [← hU]; exact HPS4.out k
                  by_cases hkt : k < y.ps.length
                  · obtain ⟨b5, o5, G5, D5, hA5, hb51, hb5, x5c, n5⟩ := HROW.out.hp k hkt
                    subst hA5
                    have hb5x : b5 < wx.heap.size := by have := HHI.out; omega
                    obtain ⟨c0, c1, c2, c3, c4, c5, c6, c7⟩ := HXC.out.kept HBL4.out hbsw
                    obtain ⟨d0, d1, d2, d3, d4⟩ := (x5c.kept HBL4.out (by have := HHI.out; omega)).all
                    have hmem : y.ps[k] ∈ y.ps := List.getElem_mem _
                    have hPN := HPN4.out k hkt
                    have hsz := HPS4.out (k + 1)
                    obtain ⟨u, hu⟩ : ∃ u, y.ps[k] = u := ⟨_, rfl⟩
                    rw [hu] at d0 d1 d2 d3 d4 n5 hmem hPN
                    have hT := HTPY.out u hmem G5 D5 n5 wx HBL4.out
                    obtain ⟨R0, hR0⟩ : ∃ R, baX (patX u) = R := ⟨_, rfl⟩
                    rw [hR0] at hT hPN
                    rw [hPN, hU] at hsz
                    rw [hU] at hPN ⊢
                    simp only [ByteArray.size_append] at hsz
                    have HT := Lib.hid hT
                    have HPN := Lib.hid hPN
                    have hlitp1 : (⟨#[32]⟩ : ByteArray).size = 1 := rfl
                    have haddp0 : ∀ V : World, (Op.stringOp .add U R0).run Tryz.prog V = .ok (.string (U ++ R0)) V := fun V => run_string_add_sum V _ _ (by (repeat rw [ByteArray.size_append]); omega)
                    have haddp1 : ∀ V : World, (Op.stringOp .add (U ++ R0) ⟨#[32]⟩).run Tryz.prog V = .ok (.string ((U ++ R0) ++ ⟨#[32]⟩)) V := fun V => run_string_add_sum V _ _ (by (repeat rw [ByteArray.size_append]); omega)
                    clear hlitp1
                    have hk1 : k + 1 ≤ y.ps.length := hkt
                    have hkL : (k : Int) < 9223372036854775807 := by have := HROW.out.hl; have := HROW.out.hc; unfold maxLen at this; omega
                    clear x5c n5 hu hmem hPN hsz hT hR0 hU hUs
                    go_wp2_with fail
                    refine HT.out.mono ?_; rintro e w1 ⟨rfl, hb⟩
                    have hs1 := hb.size
                    have HB1 := Lib.hid (HBL4.out.trans (hb.mono hwz4))
                    have HK1 := Lib.hid (HBK4.out.below hb hkl4)
                    clear hb
                    go_wp2_with fail
                    go_roundw
                    case rel => exact ⟨k + 1, hk1, by go_num, by rw [HPN.out], HB1, HK1⟩
                    case measure => simp [intOf]; omega
                  · obtain rfl : k = y.ps.length := by omega
                    have HUE : Hid (U = Q4 ++ baX (rowPX y.ps)) := Lib.hid (by rw [← hU, HPE4.out])
                    obtain ⟨c0, c1, c2, c3, c4, c5, c6, c7⟩ := HXC.out.kept HBL4.out hbsw
                    rw [hU]
                    clear hU
                    cases hh : y.h with
                    | false =>
                      rw [hh] at c2
                      have hPN : P3 (i + 1) = U ++ ⟨#[59, 10]⟩ := by rw [HPF.out hh, HUE.out, HQ4.out]
                      have HPN := Lib.hid hPN
                      have hlitf0 : (⟨#[59, 10]⟩ : ByteArray).size = 2 := rfl
                      have haddf0 : ∀ V : World, (Op.stringOp .add U ⟨#[59, 10]⟩).run Tryz.prog V = .ok (.string (U ++ ⟨#[59, 10]⟩)) V := fun V => run_string_add_sum V _ _ (by (repeat rw [ByteArray.size_append]); omega)
                      clear hlitf0
                      clear hPN hUs hh
                      go_wp2_with fail
                      go_roundw
                      case rel => exact ⟨i + 1, hi1, by go_num, by rw [HPN.out], HBL4, HBK4⟩
                      case measure => simp [intOf]; omega
                    | true =>
                      rw [hh] at c2
                      have hPN : P3 (i + 1) = U ++ ⟨#[61, 32]⟩ ++ baX (exprX y.t 0) ++ ⟨#[59, 10]⟩ := by rw [HPT.out hh, HUE.out, HQ4.out]
                      have hsz := HSZ.out
                      have hT := HTBY.out hh wx HBL4.out
                      obtain ⟨R0, hR0⟩ : ∃ R, baX (exprX y.t 0) = R := ⟨_, rfl⟩
                      rw [hR0] at hT hPN
                      rw [hPN] at hsz
                      simp only [ByteArray.size_append] at hsz
                      have HT := Lib.hid hT
                      have HPN := Lib.hid hPN
                      have hlitt0 : (⟨#[61, 32]⟩ : ByteArray).size = 2 := rfl
                      have hlitt2 : (⟨#[59, 10]⟩ : ByteArray).size = 2 := rfl
                      have haddt0 : ∀ V : World, (Op.stringOp .add U ⟨#[61, 32]⟩).run Tryz.prog V = .ok (.string (U ++ ⟨#[61, 32]⟩)) V := fun V => run_string_add_sum V _ _ (by (repeat rw [ByteArray.size_append]); omega)
                      have haddt1 : ∀ V : World, (Op.stringOp .add (U ++ ⟨#[61, 32]⟩) R0).run Tryz.prog V = .ok (.string ((U ++ ⟨#[61, 32]⟩) ++ R0)) V := fun V => run_string_add_sum V _ _ (by (repeat rw [ByteArray.size_append]); omega)
                      have haddt2 : ∀ V : World, (Op.stringOp .add ((U ++ ⟨#[61, 32]⟩) ++ R0) ⟨#[59, 10]⟩).run Tryz.prog V = .ok (.string (((U ++ ⟨#[61, 32]⟩) ++ R0) ++ ⟨#[59, 10]⟩)) V := fun V => run_string_add_sum V _ _ (by (repeat rw [ByteArray.size_append]); omega)
                      clear hlitt0 hlitt2
                      clear hPN hUs hh hsz hT hR0
                      go_wp2_with fail
                      refine HT.out.mono ?_; rintro e w1 ⟨rfl, hb⟩
                      have hs1 := hb.size
                      have HB1 := Lib.hid (HBL4.out.trans (hb.mono hwz4))
                      have HK1 := Lib.hid (HBK4.out.below hb hkl4)
                      clear hb
                      go_wp2_with fail
                      go_roundw
                      case rel => exact ⟨i + 1, hi1, by go_num, by rw [HPN.out], HB1, HK1⟩
                      case measure => simp [intOf]; omega
              · obtain rfl : i = ro.length := by omega
                rw [hQ]
                have HQE : Hid (Q = baX (A3 ++ itemsX rowX ro)) := Lib.hid (by rw [← hQ, HPE3.out])
                have hQs : Q.size ≤ 1000000000000 := by have := HPS3.out ro.length; rwa [hQ] at this
                clear hQ
                have HRE : Hid (Q ++ ⟨#[125, 10]⟩ = R) := Lib.hid (by rw [HZE.out, HQE.out])
                have hlitz0 : (⟨#[125, 10]⟩ : ByteArray).size = 2 := rfl
                have haddz0 : ∀ V : World, (Op.stringOp .add Q ⟨#[125, 10]⟩).run Tryz.prog V = .ok (.string (Q ++ ⟨#[125, 10]⟩)) V := fun V => run_string_add_sum V _ _ (by (repeat rw [ByteArray.size_append]); omega)
                clear hlitz0
                clear hQs
                go_wp2_with fail
                go_ret
                exact ⟨congrArg (fun z => Ending.returned (Value.string z)) HRE.out, HBL.out⟩

set_option maxHeartbeats 16000000 in
theorem refDecl_2 (xa : Int) (xs : ByteArray) (te : List BT) (xt : RT) (co : List BT) (ro : List CT) (AA : Option Addr) (na : Nat) (AF : Option Addr) (nF : Nat) (AB : Option Addr) (nb : Nat) (AD : Option Addr) (nd : Nat) {lo hi : Nat} {w : World}
    (h : IsDecl w lo hi ⟨2, xa, xs, te, xt, co, ro⟩ ⟨AA, na, AF, nF, AB, nb, AD, nd⟩) (hhi : hi ≤ w.heap.size) (hL : (declX ⟨2, xa, xs, te, xt, co, ro⟩).length ≤ 1000000000000)
    (gte : ∀ y ∈ te, goodB y.t false = true ∧ y.t.size ≤ 8192) (gt : goodB xt false = true ∧ xt.size ≤ 8192) (gco : ∀ y ∈ co, goodB y.t false = true ∧ y.t.size ≤ 8192) (gro : ∀ y ∈ ro, (∀ t ∈ y.ps, goodB t true = true ∧ t.size ≤ 8192) ∧ (y.h = true → goodB y.t false = true ∧ y.t.size ≤ 8192)) :
    Calls Tryz.prog 31 #[.agg #[.int .i64 2, .int .i64 xa, .string xs, .slice AA te.length na, .int .i64 xt.k, .int .i64 xt.a, .string xt.s, .int .i64 xt.n, .slice AF xt.l.length nF, .slice AB co.length nb, .slice AD ro.length nd]] w (StrIs (baX (declX ⟨2, xa, xs, te, xt, co, ro⟩)) w) := by
  have HX0 := Lib.hid h
  have HLEN : Hid (te.length ≤ maxLen ∧ co.length ≤ maxLen ∧ ro.length ≤ maxLen) := Lib.hid ⟨Nat.le_trans h.la h.ma, Nat.le_trans h.lb h.mb, Nat.le_trans h.ld h.md⟩
  have HHI := Lib.hid hhi
  have HTT := Lib.hid (fun (y : BT) (hy : y ∈ te) (F : Option Addr) (C : Nat) (hn : IsBind w lo hi y F C) V (hV : Below w.heap.size w V) => show Calls Tryz.prog 70 #[nodeV y.t F C, .int .i64 0] V (StrIs (baX (exprX y.t 0)) V) from refX_any y.t 0 lo hi F C V (by decide) (hn.hn.kept hV hhi) (Nat.le_trans hhi hV.size) (gte y hy).1 (gte y hy).2)
  have HTC := Lib.hid (fun (y : BT) (hy : y ∈ co) (F : Option Addr) (C : Nat) (hn : IsBind w lo hi y F C) V (hV : Below w.heap.size w V) => show Calls Tryz.prog 70 #[nodeV y.t F C, .int .i64 0] V (StrIs (baX (exprX y.t 0)) V) from refX_any y.t 0 lo hi F C V (by decide) (hn.hn.kept hV hhi) (Nat.le_trans hhi hV.size) (gco y hy).1 (gco y hy).2)
  have HTB := Lib.hid (fun (y : CT) (hy : y ∈ ro) (hh : y.h = true) (A : Option Addr) (c : Nat) (F : Option Addr) (C : Nat) (hn : IsRow w lo hi y A c F C) V (hV : Below w.heap.size w V) => show Calls Tryz.prog 70 #[nodeV y.t F C, .int .i64 0] V (StrIs (baX (exprX y.t 0)) V) from refX_any y.t 0 lo hi F C V (by decide) (hn.hn.kept hV hhi) (Nat.le_trans hhi hV.size) ((gro y hy).2 hh).1 ((gro y hy).2 hh).2)
  have HTP := Lib.hid (fun (y : CT) (hy : y ∈ ro) (u : RT) (hu : u ∈ y.ps) (F : Option Addr) (C : Nat) (hn : IsNode w lo hi u F C) V (hV : Below w.heap.size w V) => refPat_any u lo hi F C V (hn.kept hV hhi) (Nat.le_trans hhi hV.size) ((gro y hy).1 u hu).1 ((gro y hy).1 u hu).2)
  have HEX := Lib.hid (fun V (hV : Below w.heap.size w V) => show Calls Tryz.prog 70 #[nodeV xt AF nF, .int .i64 0] V (StrIs (baX (exprX xt 0)) V) from refX_any xt 0 lo hi AF nF V (by decide) (h.t.kept hV hhi) (Nat.le_trans hhi hV.size) gt.1 gt.2)
  unfold StrIs nodeV at HTT HTC HTB HTP HEX
  obtain ⟨X9, hX9⟩ : ∃ X, exprX xt 0 = X := ⟨_, rfl⟩
  rw [hX9] at HEX
  obtain ⟨A1, hA1⟩ : ∃ X : Tx, ([114, 101, 99, 111, 114, 100, 32] : Tx) ++ tx xs = X := ⟨_, rfl⟩
  obtain ⟨A2, hA2⟩ : ∃ X : Tx, A1 ++ bindsX te ++ [32, 58, 32] ++ X9 ++ [32, 123, 10] = X := ⟨_, rfl⟩
  obtain ⟨A3, hA3⟩ : ∃ X : Tx, A2 ++ itemsX conX co = X := ⟨_, rfl⟩
  obtain ⟨Z, hZ⟩ : ∃ Z, declX ⟨2, xa, xs, te, xt, co, ro⟩ = Z := ⟨_, rfl⟩
  have hZ3 : Z = A3 ++ itemsX rowX ro ++ [125, 10] := by
    rw [← hZ, ← hA3, ← hA2, ← hA1, ← hX9]
    unfold declX kwX
    simp only [List.append_assoc, List.cons_append, List.nil_append]
    rfl
  rw [hZ] at hL ⊢
  have hz3 : (baX (A3 ++ itemsX rowX ro)).size + 2 ≤ 1000000000000 := by rw [baX_size]; rw [hZ3, List.length_append] at hL; simpa using hL
  have hz2 : (baX (A2 ++ itemsX conX co)).size + 2 ≤ 1000000000000 := by
    rw [← hA3] at hz3
    simp only [baX_size, List.length_append] at hz3 ⊢
    omega
  have hz1 : (baX (A1 ++ bindsX te)).size + 3 + (baX X9).size + 3 ≤ 1000000000000 := by
    rw [← hA3, ← hA2] at hz3
    simp only [baX_size, List.length_append, List.length_cons, List.length_nil] at hz3 ⊢
    omega
  have hz0 : 5 + xs.size + 2 ≤ 1000000000000 := by
    rw [← hA1] at hz1
    simp only [baX_size, List.length_append, List.length_cons, List.length_nil, tx_length] at hz1
    omega
  obtain ⟨P1, hP1⟩ : ∃ P : Nat → ByteArray, (fun i => baX (A1 ++ bindsX (te.take i))) = P := ⟨_, rfl⟩
  have HP1 := Lib.hid (fun i => congrFun hP1 i)
  have HPE1 : Hid (P1 te.length = baX (A1 ++ bindsX te)) := Lib.hid (by rw [← HP1.out, List.take_length])
  have HPZ1 : Hid (P1 0 = baX A1) := Lib.hid (by rw [← HP1.out, List.take_zero]; show baX (A1 ++ []) = _; rw [List.append_nil])
  have HPS1 : Hid (∀ i, (P1 i).size ≤ 1000000000000) := Lib.hid (fun i => by
    rw [← HP1.out]
    refine Nat.le_trans ?_ (show (baX (A1 ++ bindsX te)).size ≤ _ by omega)
    rw [baX_size, baX_size, List.length_append, List.length_append]
    refine Nat.add_le_add_left ?_ _
    conv => rhs; rw [← List.take_append_drop i te]
    rw [bindsX_append, List.length_append]
    exact Nat.le_add_right _ _)
  clear hP1
  obtain ⟨P2, hP2⟩ : ∃ P : Nat → ByteArray, (fun i => baX (A2 ++ itemsX conX (co.take i))) = P := ⟨_, rfl⟩
  have HP2 := Lib.hid (fun i => congrFun hP2 i)
  have HPE2 : Hid (P2 co.length = baX (A2 ++ itemsX conX co)) := Lib.hid (by rw [← HP2.out, List.take_length])
  have HPZ2 : Hid (P2 0 = baX A2) := Lib.hid (by rw [← HP2.out, List.take_zero]; show baX (A2 ++ []) = _; rw [List.append_nil])
  have HPS2 : Hid (∀ i, (P2 i).size ≤ 1000000000000) := Lib.hid (fun i => by
    rw [← HP2.out]
    refine Nat.le_trans ?_ (show (baX (A2 ++ itemsX conX co)).size ≤ _ by omega)
    rw [baX_size, baX_size, List.length_append, List.length_append]
    refine Nat.add_le_add_left ?_ _
    conv => rhs; rw [← List.take_append_drop i co]
    rw [itemsX_append, List.length_append]
    exact Nat.le_add_right _ _)
  clear hP2
  obtain ⟨P3, hP3⟩ : ∃ P : Nat → ByteArray, (fun i => baX (A3 ++ itemsX rowX (ro.take i))) = P := ⟨_, rfl⟩
  have HP3 := Lib.hid (fun i => congrFun hP3 i)
  have HPE3 : Hid (P3 ro.length = baX (A3 ++ itemsX rowX ro)) := Lib.hid (by rw [← HP3.out, List.take_length])
  have HPZ3 : Hid (P3 0 = baX A3) := Lib.hid (by rw [← HP3.out, List.take_zero]; show baX (A3 ++ []) = _; rw [List.append_nil])
  have HPS3 : Hid (∀ i, (P3 i).size ≤ 1000000000000) := Lib.hid (fun i => by
    rw [← HP3.out]
    refine Nat.le_trans ?_ (show (baX (A3 ++ itemsX rowX ro)).size ≤ _ by omega)
    rw [baX_size, baX_size, List.length_append, List.length_append]
    refine Nat.add_le_add_left ?_ _
    conv => rhs; rw [← List.take_append_drop i ro]
    rw [itemsX_append, List.length_append]
    exact Nat.le_add_right _ _)
  clear hP3
  have HA2e := Lib.hid hA2
  have HA3e := Lib.hid hA3
  have HZ1 := Lib.hid hz1
  have HZE : Hid (baX Z = baX (A3 ++ itemsX rowX ro) ++ ⟨#[125, 10]⟩) := Lib.hid (by rw [hZ3, ← baX_cat]; rfl)
  have HA1 : Hid (baX A1 = ⟨#[114, 101, 99, 111, 114, 100, 32]⟩ ++ xs) := Lib.hid (by
    rw [← hA1, ← baX_cat, baX_tx]; rfl)
  obtain ⟨R, hR⟩ : ∃ R, baX Z = R := ⟨_, rfl⟩
  rw [hR] at HZE ⊢
  unfold StrIs
  have hlitk : (⟨#[114, 101, 99, 111, 114, 100, 32]⟩ : ByteArray).size = 7 := rfl
  have haddk : ∀ V : World, (Op.stringOp .add ⟨#[114, 101, 99, 111, 114, 100, 32]⟩ xs).run Tryz.prog V = .ok (.string (⟨#[114, 101, 99, 111, 114, 100, 32]⟩ ++ xs)) V := fun V => run_string_add_sum V _ _ (by omega)
  clear h hhi hL gte gt gco gro hX9 hlitk hA1 hA2 hA3 hZ hZ3 hz3 hz2 hz1 hz0 hR
  go_enter Tryz.func31, Tryz.ntmps31
  go_upto_region 1 with fail
  go_cut [3] from 8 to 15 (fun s3 wx => s3 = .string (⟨#[114, 101, 99, 111, 114, 100, 32]⟩ ++ xs) ∧ Hid (Below w.heap.size w wx) ∧ Hid (Bk wx w.heap.size 30 #[.int .i64 2, .int .i64 xa, .string xs, .slice AA te.length na, .int .i64 xt.k, .int .i64 xt.a, .string xt.s, .int .i64 xt.n, .slice AF xt.l.length nF, .slice AB co.length nb, .slice AD ro.length nd]))
  case first =>
    clear HX0 HLEN HHI HTT HTC HTB HTP HEX HP1 HP2 HP3 HPE1 HPE2 HPE3 HPZ1 HPZ2 HPZ3 HPS1 HPS2 HPS3 HZE HA1
    go_region_law (fail)
    all_goals
      go_wp2_with fail
      go_meet
      case rel =>
        first
        | exact ⟨rfl, Lib.hid ((((Below.refl w.heap.size w).alloc (Nat.le_refl _) _).alloc (by simp) _).drew), Lib.hid (((Bk.new w _ _).alloc _).drewn)⟩
  case rest =>
    rename World => w5
    obtain ⟨rfl, HBA1, HBX1⟩ := hcut
    obtain ⟨x0, x1, x2, x3, x4, x5, x6, x7, x8, x9, x10⟩ := HBX1.out.q11
    have hkl := HBX1.out.lt
    clear haddk
    go_wp2_with fail
    clear x0 x1 x2 x3 x4 x5 x6 x7 x8 x9 x10
    go_loopw [3, 4] (fun sv iv wr => ∃ i : Nat, i ≤ te.length ∧ iv = .int .i64 i ∧ sv = .string (P1 i) ∧ Hid (Below w.heap.size w wr) ∧ Hid (Bk wr w.heap.size 30 #[.int .i64 2, .int .i64 xa, .string xs, .slice AA te.length na, .int .i64 xt.k, .int .i64 xt.a, .string xt.s, .int .i64 xt.n, .slice AF xt.l.length nF, .slice AB co.length nb, .slice AD ro.length nd])) (fun _ iv _ => te.length - (intOf iv).toNat)
    case atStart => exact ⟨0, Nat.zero_le _, rfl, by rw [HPZ1.out, HA1.out], HBA1, HBX1⟩
    case round =>
      rename World => wr
      obtain ⟨i, hi, rfl, rfl, HBL, HBK⟩ := hrel
      obtain ⟨x0, x1, x2, x3, x4, x5, x6, x7, x8, x9, x10⟩ := HBK.out.q11
      have hkl := HBK.out.lt
      have hwz := HBL.out.size
      obtain ⟨Q, hQ⟩ : ∃ Q, P1 i = Q := ⟨_, rfl⟩
      by_cases hlt : i < te.length
      · obtain ⟨bs, o, G, D, hA, hb1, hbs, xc, n0⟩ := HX0.out.te i hlt
        have hA : AA = some ⟨bs, o, none⟩ := hA
        subst hA
        have hbsw : bs < w.heap.size := by have := HHI.out; omega
        have hbsr : bs < wr.heap.size := by omega
        have hmem : te[i] ∈ te := List.getElem_mem _
        have hPN : P1 (i + 1) = Q ++ ⟨#[32, 40]⟩ ++ (te[i]).s ++ ⟨#[32, 58, 32]⟩ ++ baX (exprX (te[i]).t 0) ++ ⟨#[41]⟩ := by
          rw [← hQ, ← HP1.out, ← HP1.out, take_snocG hlt, bindsX_append, bindsX_one]
          unfold bindX typedX
          conv => rhs; rw [← baX_tx (te[i]).s]
          rw [show ⟨#[32, 40]⟩ = baX [32, 40] from rfl, show ⟨#[32, 58, 32]⟩ = baX [32, 58, 32] from rfl, show ⟨#[41]⟩ = baX [41] from rfl]
          simp only [baX_cat, List.append_assoc, List.cons_append, List.nil_append]
        have hsz := HPS1.out (i + 1)
        obtain ⟨y, hy⟩ : ∃ y, te[i] = y := ⟨_, rfl⟩
        rw [hy] at xc n0 hmem hPN
        have hT := HTT.out y hmem G D n0
        obtain ⟨R0, hR0⟩ : ∃ R, baX (exprX y.t 0) = R := ⟨_, rfl⟩
        rw [hR0] at hT hPN
        rw [hPN] at hsz
        simp only [ByteArray.size_append] at hsz
        have HT := Lib.hid hT
        have HPN := Lib.hid hPN
        have KEEP := Lib.hid (fun V (hV : Below wr.heap.size wr V) => show V.cell? ⟨w.heap.size, 3, none⟩ = some (.slice (some ⟨bs, o, none⟩) te.length na) ∧ V.cell? ⟨bs, o + i * 7, none⟩ = some (.string y.s) ∧ V.cell? ⟨bs, o + i * 7 + 2, none⟩ = some (.int .i64 y.t.k) ∧ V.cell? ⟨bs, o + i * 7 + 3, none⟩ = some (.int .i64 y.t.a) ∧ V.cell? ⟨bs, o + i * 7 + 4, none⟩ = some (.string y.t.s) ∧ V.cell? ⟨bs, o + i * 7 + 5, none⟩ = some (.int .i64 y.t.n) ∧ V.cell? ⟨bs, o + i * 7 + 6, none⟩ = some (.slice G y.t.l.length D) ∧ V.cell? ⟨bs, o + i * 7 + 2 + 1, none⟩ = some (.int .i64 y.t.a) ∧ V.cell? ⟨bs, o + i * 7 + 2 + 2, none⟩ = some (.string y.t.s) ∧ V.cell? ⟨bs, o + i * 7 + 2 + 3, none⟩ = some (.int .i64 y.t.n) ∧ V.cell? ⟨bs, o + i * 7 + 2 + 4, none⟩ = some (.slice G y.t.l.length D) from (by
          have k := xc.kept (HBL.out.trans (hV.mono hwz)) hbsw
          have kb := (HBK.out.below hV hkl).q11
          exact ⟨kb.2.2.2.1, k.c0, k.c2, k.c3, k.c4, k.c5, k.c6, k.c3, k.c4, k.c5, k.c6⟩))
        obtain ⟨kx, c0, c2, c3, c4, c5, c6, d3, d4, d5, d6⟩ := KEEP.out wr (Below.refl _ _)
        have hbk := Lib.hid ((Below.refl wr.heap.size wr).drew)
        have hlitl0 : (⟨#[32, 40]⟩ : ByteArray).size = 2 := rfl
        have hlitl2 : (⟨#[32, 58, 32]⟩ : ByteArray).size = 3 := rfl
        have hlitl4 : (⟨#[41]⟩ : ByteArray).size = 1 := rfl
        have haddl0 : ∀ V : World, (Op.stringOp .add Q ⟨#[32, 40]⟩).run Tryz.prog V = .ok (.string (Q ++ ⟨#[32, 40]⟩)) V := fun V => run_string_add_sum V _ _ (by (repeat rw [ByteArray.size_append]); omega)
        have haddl1 : ∀ V : World, (Op.stringOp .add (Q ++ ⟨#[32, 40]⟩) y.s).run Tryz.prog V = .ok (.string ((Q ++ ⟨#[32, 40]⟩) ++ y.s)) V := fun V => run_string_add_sum V _ _ (by (repeat rw [ByteArray.size_append]); omega)
        have haddl2 : ∀ V : World, (Op.stringOp .add ((Q ++ ⟨#[32, 40]⟩) ++ y.s) ⟨#[32, 58, 32]⟩).run Tryz.prog V = .ok (.string (((Q ++ ⟨#[32, 40]⟩) ++ y.s) ++ ⟨#[32, 58, 32]⟩)) V := fun V => run_string_add_sum V _ _ (by (repeat rw [ByteArray.size_append]); omega)
        have haddl3 : ∀ V : World, (Op.stringOp .add (((Q ++ ⟨#[32, 40]⟩) ++ y.s) ++ ⟨#[32, 58, 32]⟩) R0).run Tryz.prog V = .ok (.string ((((Q ++ ⟨#[32, 40]⟩) ++ y.s) ++ ⟨#[32, 58, 32]⟩) ++ R0)) V := fun V => run_string_add_sum V _ _ (by (repeat rw [ByteArray.size_append]); omega)
        have haddl4 : ∀ V : World, (Op.stringOp .add ((((Q ++ ⟨#[32, 40]⟩) ++ y.s) ++ ⟨#[32, 58, 32]⟩) ++ R0) ⟨#[41]⟩).run Tryz.prog V = .ok (.string (((((Q ++ ⟨#[32, 40]⟩) ++ y.s) ++ ⟨#[32, 58, 32]⟩) ++ R0) ++ ⟨#[41]⟩)) V := fun V => run_string_add_sum V _ _ (by (repeat rw [ByteArray.size_append]); omega)
        clear hlitl0 hlitl2 hlitl4
        have hi1 : i + 1 ≤ te.length := hlt
        have hiL : (i : Int) < 9223372036854775807 := by have := HLEN.out; unfold maxLen at this; omega
        rw [hQ]
        clear xc n0 hy hmem hPN hsz hT hR0 hQ
        go_upto_region 5 with fail
        go_region_held3 (fun w' => Below wr.heap.size wr w' ∧ w'.cell? ⟨w.heap.size, 3, none⟩ = some (.slice (some ⟨bs, o, none⟩) te.length na) ∧ w'.cell? ⟨bs, o + i * 7, none⟩ = some (.string y.s) ∧ w'.cell? ⟨bs, o + i * 7 + 2, none⟩ = some (.int .i64 y.t.k) ∧ w'.cell? ⟨bs, o + i * 7 + 3, none⟩ = some (.int .i64 y.t.a) ∧ w'.cell? ⟨bs, o + i * 7 + 4, none⟩ = some (.string y.t.s) ∧ w'.cell? ⟨bs, o + i * 7 + 5, none⟩ = some (.int .i64 y.t.n) ∧ w'.cell? ⟨bs, o + i * 7 + 6, none⟩ = some (.slice G y.t.l.length D) ∧ w'.cell? ⟨bs, o + i * 7 + 2 + 1, none⟩ = some (.int .i64 y.t.a) ∧ w'.cell? ⟨bs, o + i * 7 + 2 + 2, none⟩ = some (.string y.t.s) ∧ w'.cell? ⟨bs, o + i * 7 + 2 + 3, none⟩ = some (.int .i64 y.t.n) ∧ w'.cell? ⟨bs, o + i * 7 + 2 + 4, none⟩ = some (.slice G y.t.l.length D))
          (first | exact ⟨hbk.out, KEEP.out _ hbk.out⟩)
          (first
            | (go_at_call 70; with_reducible refine (HT.out _ (HBL.out.trans (hbk.out.mono hwz))).mono ?_; rintro e w3 ⟨rfl, hb3⟩; have hbk := Lib.hid (hbk.out.trans (hb3.mono hbk.out.size)); clear hb3))
        all_goals
          have HB1 := Lib.hid (HBL.out.trans (hbk.out.mono hwz))
          have HK1 := Lib.hid (HBK.out.below hbk.out hkl)
          clear KEEP HT
          go_wp2_with fail
          go_roundw
          case rel => exact ⟨i + 1, hi1, by go_num, by rw [HPN.out], HB1, HK1⟩
          case measure => simp [intOf]; omega
      · obtain rfl : i = te.length := by omega
        rw [hQ]
        have HQE : Hid (Q = baX (A1 ++ bindsX te)) := Lib.hid (by rw [← hQ, HPE1.out])
        have hQs : Q.size ≤ 1000000000000 := by have := HPS1.out te.length; rwa [hQ] at this
        clear hQ
        have HA2 : Hid (baX A2 = Q ++ ⟨#[32, 58, 32]⟩ ++ baX X9 ++ ⟨#[32, 123, 10]⟩) := Lib.hid (by
          rw [HQE.out, ← HA2e.out]
          rw [show ⟨#[32, 58, 32]⟩ = baX [32,58,32] from rfl, show ⟨#[32, 123, 10]⟩ = baX [32,123,10] from rfl]
          simp only [baX_cat, List.append_assoc])
        have hz9 : Q.size + 3 + (baX X9).size + 3 ≤ 1000000000000 := by have := HZ1.out; rw [HQE.out]; exact this
        obtain ⟨R9, hR9⟩ : ∃ R, baX X9 = R := ⟨_, rfl⟩
        rw [hR9] at HEX HA2 hz9
        have hlite0 : (⟨#[32, 58, 32]⟩ : ByteArray).size = 3 := rfl
        have hlite2 : (⟨#[32, 123, 10]⟩ : ByteArray).size = 3 := rfl
        have hadde0 : ∀ V : World, (Op.stringOp .add Q ⟨#[32, 58, 32]⟩).run Tryz.prog V = .ok (.string (Q ++ ⟨#[32, 58, 32]⟩)) V := fun V => run_string_add_sum V _ _ (by (repeat rw [ByteArray.size_append]); omega)
        have hadde1 : ∀ V : World, (Op.stringOp .add (Q ++ ⟨#[32, 58, 32]⟩) R9).run Tryz.prog V = .ok (.string ((Q ++ ⟨#[32, 58, 32]⟩) ++ R9)) V := fun V => run_string_add_sum V _ _ (by (repeat rw [ByteArray.size_append]); omega)
        have hadde2 : ∀ V : World, (Op.stringOp .add ((Q ++ ⟨#[32, 58, 32]⟩) ++ R9) ⟨#[32, 123, 10]⟩).run Tryz.prog V = .ok (.string (((Q ++ ⟨#[32, 58, 32]⟩) ++ R9) ++ ⟨#[32, 123, 10]⟩)) V := fun V => run_string_add_sum V _ _ (by (repeat rw [ByteArray.size_append]); omega)
        clear hlite0 hlite2
        clear hR9 hQs hz9
        go_wp2_with fail
        refine (HEX.out _ HBL.out).mono ?_; rintro e w1 ⟨rfl, hb⟩
        have HBA2 := Lib.hid (HBL.out.trans (hb.mono hwz))
        have HBX2 := Lib.hid (HBK.out.below hb hkl)
        obtain ⟨x0, x1, x2, x3, x4, x5, x6, x7, x8, x9, x10⟩ := HBX2.out.q11
        have hkl2 := HBX2.out.lt
        clear hb HQE HEX
        go_wp2_with fail
        clear HBL HBK x0 x1 x2 x3 x4 x5 x6 x7 x8 x9 x10 hwz hkl
        rename World => wp
        go_loopw [3, 5] (fun sv iv wr => ∃ i : Nat, i ≤ co.length ∧ iv = .int .i64 i ∧ sv = .string (P2 i) ∧ Hid (Below w.heap.size w wr) ∧ Hid (Bk wr w.heap.size 30 #[.int .i64 2, .int .i64 xa, .string xs, .slice AA te.length na, .int .i64 xt.k, .int .i64 xt.a, .string xt.s, .int .i64 xt.n, .slice AF xt.l.length nF, .slice AB co.length nb, .slice AD ro.length nd])) (fun _ iv _ => co.length - (intOf iv).toNat)
        case atStart => exact ⟨0, Nat.zero_le _, rfl, by rw [HPZ2.out, HA2.out], HBA2, HBX2⟩
        case round =>
          rename World => wr
          obtain ⟨i, hi, rfl, rfl, HBL, HBK⟩ := hrel
          obtain ⟨x0, x1, x2, x3, x4, x5, x6, x7, x8, x9, x10⟩ := HBK.out.q11
          have hkl := HBK.out.lt
          have hwz := HBL.out.size
          obtain ⟨Q, hQ⟩ : ∃ Q, P2 i = Q := ⟨_, rfl⟩
          by_cases hlt : i < co.length
          · obtain ⟨bs, o, G, D, hA, hb1, hbs, xc, n0⟩ := HX0.out.co i hlt
            have hA : AB = some ⟨bs, o, none⟩ := hA
            subst hA
            have hbsw : bs < w.heap.size := by have := HHI.out; omega
            have hbsr : bs < wr.heap.size := by omega
            have hmem : co[i] ∈ co := List.getElem_mem _
            have hPN : P2 (i + 1) = Q ++ ⟨#[32, 32]⟩ ++ (co[i]).s ++ ⟨#[32, 58, 32]⟩ ++ baX (exprX (co[i]).t 0) ++ ⟨#[59, 10]⟩ := by
              rw [← hQ, ← HP2.out, ← HP2.out, take_snocG hlt, itemsX_append, itemsX_one]
              unfold conX typedX
              conv => rhs; rw [← baX_tx (co[i]).s]
              rw [show ⟨#[32, 32]⟩ = baX [32, 32] from rfl, show ⟨#[32, 58, 32]⟩ = baX [32, 58, 32] from rfl, show ⟨#[59, 10]⟩ = baX [59, 10] from rfl]
              simp only [baX_cat, List.append_assoc, List.cons_append, List.nil_append]
            have hsz := HPS2.out (i + 1)
            obtain ⟨y, hy⟩ : ∃ y, co[i] = y := ⟨_, rfl⟩
            rw [hy] at xc n0 hmem hPN
            have hT := HTC.out y hmem G D n0
            obtain ⟨R0, hR0⟩ : ∃ R, baX (exprX y.t 0) = R := ⟨_, rfl⟩
            rw [hR0] at hT hPN
            rw [hPN] at hsz
            simp only [ByteArray.size_append] at hsz
            have HT := Lib.hid hT
            have HPN := Lib.hid hPN
            have KEEP := Lib.hid (fun V (hV : Below wr.heap.size wr V) => show V.cell? ⟨w.heap.size, 9, none⟩ = some (.slice (some ⟨bs, o, none⟩) co.length nb) ∧ V.cell? ⟨bs, o + i * 7, none⟩ = some (.string y.s) ∧ V.cell? ⟨bs, o + i * 7 + 2, none⟩ = some (.int .i64 y.t.k) ∧ V.cell? ⟨bs, o + i * 7 + 3, none⟩ = some (.int .i64 y.t.a) ∧ V.cell? ⟨bs, o + i * 7 + 4, none⟩ = some (.string y.t.s) ∧ V.cell? ⟨bs, o + i * 7 + 5, none⟩ = some (.int .i64 y.t.n) ∧ V.cell? ⟨bs, o + i * 7 + 6, none⟩ = some (.slice G y.t.l.length D) ∧ V.cell? ⟨bs, o + i * 7 + 2 + 1, none⟩ = some (.int .i64 y.t.a) ∧ V.cell? ⟨bs, o + i * 7 + 2 + 2, none⟩ = some (.string y.t.s) ∧ V.cell? ⟨bs, o + i * 7 + 2 + 3, none⟩ = some (.int .i64 y.t.n) ∧ V.cell? ⟨bs, o + i * 7 + 2 + 4, none⟩ = some (.slice G y.t.l.length D) from (by
              have k := xc.kept (HBL.out.trans (hV.mono hwz)) hbsw
              have kb := (HBK.out.below hV hkl).q11
              exact ⟨kb.2.2.2.2.2.2.2.2.2.1, k.c0, k.c2, k.c3, k.c4, k.c5, k.c6, k.c3, k.c4, k.c5, k.c6⟩))
            obtain ⟨kx, c0, c2, c3, c4, c5, c6, d3, d4, d5, d6⟩ := KEEP.out wr (Below.refl _ _)
            have hbk := Lib.hid ((Below.refl wr.heap.size wr).drew)
            have hlitl0 : (⟨#[32, 32]⟩ : ByteArray).size = 2 := rfl
            have hlitl2 : (⟨#[32, 58, 32]⟩ : ByteArray).size = 3 := rfl
            have hlitl4 : (⟨#[59, 10]⟩ : ByteArray).size = 2 := rfl
            have haddl0 : ∀ V : World, (Op.stringOp .add Q ⟨#[32, 32]⟩).run Tryz.prog V = .ok (.string (Q ++ ⟨#[32, 32]⟩)) V := fun V => run_string_add_sum V _ _ (by (repeat rw [ByteArray.size_append]); omega)
            have haddl1 : ∀ V : World, (Op.stringOp .add (Q ++ ⟨#[32, 32]⟩) y.s).run Tryz.prog V = .ok (.string ((Q ++ ⟨#[32, 32]⟩) ++ y.s)) V := fun V => run_string_add_sum V _ _ (by (repeat rw [ByteArray.size_append]); omega)
            have haddl2 : ∀ V : World, (Op.stringOp .add ((Q ++ ⟨#[32, 32]⟩) ++ y.s) ⟨#[32, 58, 32]⟩).run Tryz.prog V = .ok (.string (((Q ++ ⟨#[32, 32]⟩) ++ y.s) ++ ⟨#[32, 58, 32]⟩)) V := fun V => run_string_add_sum V _ _ (by (repeat rw [ByteArray.size_append]); omega)
            have haddl3 : ∀ V : World, (Op.stringOp .add (((Q ++ ⟨#[32, 32]⟩) ++ y.s) ++ ⟨#[32, 58, 32]⟩) R0).run Tryz.prog V = .ok (.string ((((Q ++ ⟨#[32, 32]⟩) ++ y.s) ++ ⟨#[32, 58, 32]⟩) ++ R0)) V := fun V => run_string_add_sum V _ _ (by (repeat rw [ByteArray.size_append]); omega)
            have haddl4 : ∀ V : World, (Op.stringOp .add ((((Q ++ ⟨#[32, 32]⟩) ++ y.s) ++ ⟨#[32, 58, 32]⟩) ++ R0) ⟨#[59, 10]⟩).run Tryz.prog V = .ok (.string (((((Q ++ ⟨#[32, 32]⟩) ++ y.s) ++ ⟨#[32, 58, 32]⟩) ++ R0) ++ ⟨#[59, 10]⟩)) V := fun V => run_string_add_sum V _ _ (by (repeat rw [ByteArray.size_append]); omega)
            clear hlitl0 hlitl2 hlitl4
            have hi1 : i + 1 ≤ co.length := hlt
            have hiL : (i : Int) < 9223372036854775807 := by have := HLEN.out; unfold maxLen at this; omega
            rw [hQ]
            clear xc n0 hy hmem hPN hsz hT hR0 hQ
            go_upto_region 10 with fail
            go_region_held3 (fun w' => Below wr.heap.size wr w' ∧ w'.cell? ⟨w.heap.size, 9, none⟩ = some (.slice (some ⟨bs, o, none⟩) co.length nb) ∧ w'.cell? ⟨bs, o + i * 7, none⟩ = some (.string y.s) ∧ w'.cell? ⟨bs, o + i * 7 + 2, none⟩ = some (.int .i64 y.t.k) ∧ w'.cell? ⟨bs, o + i * 7 + 3, none⟩ = some (.int .i64 y.t.a) ∧ w'.cell? ⟨bs, o + i * 7 + 4, none⟩ = some (.string y.t.s) ∧ w'.cell? ⟨bs, o + i * 7 + 5, none⟩ = some (.int .i64 y.t.n) ∧ w'.cell? ⟨bs, o + i * 7 + 6, none⟩ = some (.slice G y.t.l.length D) ∧ w'.cell? ⟨bs, o + i * 7 + 2 + 1, none⟩ = some (.int .i64 y.t.a) ∧ w'.cell? ⟨bs, o + i * 7 + 2 + 2, none⟩ = some (.string y.t.s) ∧ w'.cell? ⟨bs, o + i * 7 + 2 + 3, none⟩ = some (.int .i64 y.t.n) ∧ w'.cell? ⟨bs, o + i * 7 + 2 + 4, none⟩ = some (.slice G y.t.l.length D))
              (first | exact ⟨hbk.out, KEEP.out _ hbk.out⟩)
              (first
                | (go_at_call 70; with_reducible refine (HT.out _ (HBL.out.trans (hbk.out.mono hwz))).mono ?_; rintro e w3 ⟨rfl, hb3⟩; have hbk := Lib.hid (hbk.out.trans (hb3.mono hbk.out.size)); clear hb3))
            all_goals
              have HB1 := Lib.hid (HBL.out.trans (hbk.out.mono hwz))
              have HK1 := Lib.hid (HBK.out.below hbk.out hkl)
              clear KEEP HT
              go_wp2_with fail
              go_roundw
              case rel => exact ⟨i + 1, hi1, by go_num, by rw [HPN.out], HB1, HK1⟩
              case measure => simp [intOf]; omega
          · obtain rfl : i = co.length := by omega
            rw [hQ]
            have HQE : Hid (Q = baX (A2 ++ itemsX conX co)) := Lib.hid (by rw [← hQ, HPE2.out])
            have hQs : Q.size ≤ 1000000000000 := by have := HPS2.out co.length; rwa [hQ] at this
            clear hQ
            have HA3 : Hid (baX A3 = Q) := Lib.hid (by rw [HQE.out, ← HA3e.out])
            have HBA3 := HBL
            have HBX3 := HBK
            clear hQs
            go_wp2_with fail
            clear HQE HBL HBK x0 x1 x2 x3 x4 x5 x6 x7 x8 x9 x10 hwz hkl
            rename World => wp
            go_loopw [3, 6] (fun sv iv wr => ∃ i : Nat, i ≤ ro.length ∧ iv = .int .i64 i ∧ sv = .string (P3 i) ∧ Hid (Below w.heap.size w wr) ∧ Hid (Bk wr w.heap.size 30 #[.int .i64 2, .int .i64 xa, .string xs, .slice AA te.length na, .int .i64 xt.k, .int .i64 xt.a, .string xt.s, .int .i64 xt.n, .slice AF xt.l.length nF, .slice AB co.length nb, .slice AD ro.length nd])) (fun _ iv _ => ro.length - (intOf iv).toNat)
            case atStart => exact ⟨0, Nat.zero_le _, rfl, by rw [HPZ3.out, HA3.out], HBA3, HBX3⟩
            case round =>
              rename World => wr
              obtain ⟨i, hi, rfl, rfl, HBL, HBK⟩ := hrel
              obtain ⟨x0, x1, x2, x3, x4, x5, x6, x7, x8, x9, x10⟩ := HBK.out.q11
              have hkl := HBK.out.lt
              have hwz := HBL.out.size
              obtain ⟨Q, hQ⟩ : ∃ Q, P3 i = Q := ⟨_, rfl⟩
              by_cases hlt : i < ro.length
              · obtain ⟨bs, o, G1, D1, G, D, hA, hb1, hbs, xc, n0⟩ := HX0.out.ro i hlt
                have hA : AD = some ⟨bs, o, none⟩ := hA
                subst hA
                have hbsw : bs < w.heap.size := by have := HHI.out; omega
                have hbsr : bs < wr.heap.size := by omega
                have hmem : ro[i] ∈ ro := List.getElem_mem _
                have hPF : (ro[i]).h = false → P3 (i + 1) = Q ++ ⟨#[32, 32]⟩ ++ baX (rowPX (ro[i]).ps) ++ ⟨#[59, 10]⟩ := fun hh => by
                  rw [← hQ, ← HP3.out, ← HP3.out, take_snocG hlt, itemsX_append, itemsX_one]
                  unfold rowX
                  rw [hh, show ⟨#[32, 32]⟩ = baX [32, 32] from rfl, show ⟨#[59, 10]⟩ = baX [59, 10] from rfl]
                  simp only [baX_cat, List.append_assoc, List.cons_append, List.nil_append, List.append_nil, Bool.false_eq_true, if_false]
                have hPT : (ro[i]).h = true → P3 (i + 1) = Q ++ ⟨#[32, 32]⟩ ++ baX (rowPX (ro[i]).ps) ++ ⟨#[61, 32]⟩ ++ baX (exprX (ro[i]).t 0) ++ ⟨#[59, 10]⟩ := fun hh => by
                  rw [← hQ, ← HP3.out, ← HP3.out, take_snocG hlt, itemsX_append, itemsX_one]
                  unfold rowX
                  rw [hh, show ⟨#[32, 32]⟩ = baX [32, 32] from rfl, show ⟨#[59, 10]⟩ = baX [59, 10] from rfl, show ⟨#[61, 32]⟩ = baX [61, 32] from rfl]
                  simp only [baX_cat, List.append_assoc, List.cons_append, List.nil_append, if_true]
                have hsz := HPS3.out (i + 1)
                obtain ⟨y, hy⟩ : ∃ y, ro[i] = y := ⟨_, rfl⟩
                rw [hy] at xc n0 hmem hPF hPT
                have hzr : Q.size + 2 + (baX (rowPX y.ps)).size + 2 ≤ 1000000000000 := by
                  cases hh : y.h with
                  | false => rw [hPF hh] at hsz; simp only [ByteArray.size_append] at hsz; exact hsz
                  | true => rw [hPT hh] at hsz; simp only [ByteArray.size_append] at hsz; have e1 : (⟨#[61, 32]⟩ : ByteArray).size = 2 := rfl; have e2 : (⟨#[32, 32]⟩ : ByteArray).size = 2 := rfl; have e3 : (⟨#[59, 10]⟩ : ByteArray).size = 2 := rfl; omega
                have HZR := Lib.hid hzr
                have HPF := Lib.hid hPF
                have HPT := Lib.hid hPT
                have HSZ := Lib.hid hsz
                have HROW := Lib.hid n0
                have HXC := Lib.hid xc
                have HTPY := Lib.hid (fun u hu F C hn V hV => HTP.out y hmem u hu F C hn V hV)
                have HTBY := Lib.hid (fun hh V hV => HTB.out y hmem hh G1 D1 G D n0 V hV)
                have hi1 : i + 1 ≤ ro.length := hlt
                have hiL : (i : Int) < 9223372036854775807 := by have := HLEN.out; unfold maxLen at this; omega
                have hlit0 : (⟨#[32, 32]⟩ : ByteArray).size = 2 := rfl
                have hadd0 : ∀ V : World, (Op.stringOp .add Q ⟨#[32, 32]⟩).run Tryz.prog V = .ok (.string (Q ++ ⟨#[32, 32]⟩)) V := fun V => run_string_add_sum V _ _ (by omega)
                obtain ⟨Q4, hQ4⟩ : ∃ q, Q ++ ⟨#[32, 32]⟩ = q := ⟨_, rfl⟩
                have hQ4s : Q4.size = Q.size + 2 := by rw [← hQ4, ByteArray.size_append]; rfl
                have HQ4 := Lib.hid hQ4
                rw [hQ4] at hadd0
                obtain ⟨P4, hP4⟩ : ∃ P : Nat → ByteArray, (fun k => Q4 ++ baX (rowPX (y.ps.take k))) = P := ⟨_, rfl⟩
                have HP4 := Lib.hid (fun k => congrFun hP4 k)
                have HPE4 : Hid (P4 y.ps.length = Q4 ++ baX (rowPX y.ps)) := Lib.hid (by rw [← HP4.out, List.take_length])
                have HPZ4 : Hid (P4 0 = Q4) := Lib.hid (by rw [← HP4.out, List.take_zero]; show Q4 ++ baX [] = _; rw [show baX [] = ByteArray.empty from rfl, ByteArray.append_empty])
                have HPN4 : Hid (∀ k (hk : k < y.ps.length), P4 (k + 1) = P4 k ++ baX (patX y.ps[k]) ++ ⟨#[32]⟩) := Lib.hid (fun k hk => by
                  rw [← HP4.out, ← HP4.out, take_snocG hk, rowPX_append, rowPX_one, show ⟨#[32]⟩ = baX [32] from rfl, ← baX_cat, ← baX_cat]
                  simp only [ByteArray.append_assoc])
                have HPS4 : Hid (∀ k, (P4 k).size + 2 ≤ 1000000000000) := Lib.hid (fun k => by
                  rw [← HP4.out, ByteArray.size_append, hQ4s]
                  have h1 : (baX (rowPX (y.ps.take k))).size ≤ (baX (rowPX y.ps)).size := by
                    rw [baX_size, baX_size]
                    conv => rhs; rw [← List.take_append_drop k y.ps]
                    rw [rowPX_append, List.length_append]
                    exact Nat.le_add_right _ _
                  omega)
                rw [hQ]
                clear xc n0 hy hmem hPF hPT hsz hzr hQ hlit0 hQ4 hQ4s hP4
                go_wp2_with fail
                clear x0 x1 x2 x3 x4 x5 x6 x7 x8 x9 x10
                rename World => wq
                go_loopw [3, 7] (fun sv kv wx => ∃ k : Nat, k ≤ y.ps.length ∧ kv = .int .i64 k ∧ sv = .string (P4 k) ∧ Hid (Below w.heap.size w wx) ∧ Hid (Bk wx w.heap.size 30 #[.int .i64 2, .int .i64 xa, .string xs, .slice AA te.length na, .int .i64 xt.k, .int .i64 xt.a, .string xt.s, .int .i64 xt.n, .slice AF xt.l.length nF, .slice AB co.length nb, .slice (some ⟨bs, o, none⟩) ro.length nd])) (fun _ kv _ => y.ps.length - (intOf kv).toNat)
                case atStart => exact ⟨0, Nat.zero_le _, rfl, by rw [HPZ4.out], HBL, HBK⟩
                case round =>
                  rename World => wx
                  obtain ⟨k, hk, rfl, rfl, HBL4, HBK4⟩ := hrel
                  obtain ⟨x0, x1, x2, x3, x4, x5, x6, x7, x8, x9, x10⟩ := HBK4.out.q11
                  have hkl4 := HBK4.out.lt
                  have hwz4 := HBL4.out.size
                  have hbsx : bs < wx.heap.size := by omega
                  obtain ⟨U, hU⟩ : ∃ U, P4 k = U := ⟨_, rfl⟩
                  have hUs : U.size + 2 ≤ 1000000000000 := by rw [← hU]; exact HPS4.out k
                  by_cases hkt : k < y.ps.length
                  · obtain ⟨b5, o5, G5, D5, hA5, hb51, hb5, x5c, n5⟩ := HROW.out.hp k hkt
                    subst hA5
                    have hb5x : b5 < wx.heap.size := by have := HHI.out; omega
                    obtain ⟨c0, c1, c2, c3, c4, c5, c6, c7⟩ := HXC.out.kept HBL4.out hbsw
                    obtain ⟨d0, d1, d2, d3, d4⟩ := (x5c.kept HBL4.out (by have := HHI.out; omega)).all
                    have hmem : y.ps[k] ∈ y.ps := List.getElem_mem _
                    have hPN := HPN4.out k hkt
                    have hsz := HPS4.out (k + 1)
                    obtain ⟨u, hu⟩ : ∃ u, y.ps[k] = u := ⟨_, rfl⟩
                    rw [hu] at d0 d1 d2 d3 d4 n5 hmem hPN
                    have hT := HTPY.out u hmem G5 D5 n5 wx HBL4.out
                    obtain ⟨R0, hR0⟩ : ∃ R, baX (patX u) = R := ⟨_, rfl⟩
                    rw [hR0] at hT hPN
                    rw [hPN, hU] at hsz
                    rw [hU] at hPN ⊢
                    simp only [ByteArray.size_append] at hsz
                    have HT := Lib.hid hT
                    have HPN := Lib.hid hPN
                    have hlitp1 : (⟨#[32]⟩ : ByteArray).size = 1 := rfl
                    have haddp0 : ∀ V : World, (Op.stringOp .add U R0).run Tryz.prog V = .ok (.string (U ++ R0)) V := fun V => run_string_add_sum V _ _ (by (repeat rw [ByteArray.size_append]); omega)
                    have haddp1 : ∀ V : World, (Op.stringOp .add (U ++ R0) ⟨#[32]⟩).run Tryz.prog V = .ok (.string ((U ++ R0) ++ ⟨#[32]⟩)) V := fun V => run_string_add_sum V _ _ (by (repeat rw [ByteArray.size_append]); omega)
                    clear hlitp1
                    have hk1 : k + 1 ≤ y.ps.length := hkt
                    have hkL : (k : Int) < 9223372036854775807 := by have := HROW.out.hl; have := HROW.out.hc; unfold maxLen at this; omega
                    clear x5c n5 hu hmem hPN hsz hT hR0 hU hUs
                    go_wp2_with fail
                    refine HT.out.mono ?_; rintro e w1 ⟨rfl, hb⟩
                    have hs1 := hb.size
                    have HB1 := Lib.hid (HBL4.out.trans (hb.mono hwz4))
                    have HK1 := Lib.hid (HBK4.out.below hb hkl4)
                    clear hb
                    go_wp2_with fail
                    go_roundw
                    case rel => exact ⟨k + 1, hk1, by go_num, by rw [HPN.out], HB1, HK1⟩
                    case measure => simp [intOf]; omega
                  · obtain rfl : k = y.ps.length := by omega
                    have HUE : Hid (U = Q4 ++ baX (rowPX y.ps)) := Lib.hid (by rw [← hU, HPE4.out])
                    obtain ⟨c0, c1, c2, c3, c4, c5, c6, c7⟩ := HXC.out.kept HBL4.out hbsw
                    rw [hU]
                    clear hU
                    cases hh : y.h with
                    | false =>
                      rw [hh] at c2
                      have hPN : P3 (i + 1) = U ++ ⟨#[59, 10]⟩ := by rw [HPF.out hh, HUE.out, HQ4.out]
                      have HPN := Lib.hid hPN
                      have hlitf0 : (⟨#[59, 10]⟩ : ByteArray).size = 2 := rfl
                      have haddf0 : ∀ V : World, (Op.stringOp .add U ⟨#[59, 10]⟩).run Tryz.prog V = .ok (.string (U ++ ⟨#[59, 10]⟩)) V := fun V => run_string_add_sum V _ _ (by (repeat rw [ByteArray.size_append]); omega)
                      clear hlitf0
                      clear hPN hUs hh
                      go_wp2_with fail
                      go_roundw
                      case rel => exact ⟨i + 1, hi1, by go_num, by rw [HPN.out], HBL4, HBK4⟩
                      case measure => simp [intOf]; omega
                    | true =>
                      rw [hh] at c2
                      have hPN : P3 (i + 1) = U ++ ⟨#[61, 32]⟩ ++ baX (exprX y.t 0) ++ ⟨#[59, 10]⟩ := by rw [HPT.out hh, HUE.out, HQ4.out]
                      have hsz := HSZ.out
                      have hT := HTBY.out hh wx HBL4.out
                      obtain ⟨R0, hR0⟩ : ∃ R, baX (exprX y.t 0) = R := ⟨_, rfl⟩
                      rw [hR0] at hT hPN
                      rw [hPN] at hsz
                      simp only [ByteArray.size_append] at hsz
                      have HT := Lib.hid hT
                      have HPN := Lib.hid hPN
                      have hlitt0 : (⟨#[61, 32]⟩ : ByteArray).size = 2 := rfl
                      have hlitt2 : (⟨#[59, 10]⟩ : ByteArray).size = 2 := rfl
                      have haddt0 : ∀ V : World, (Op.stringOp .add U ⟨#[61, 32]⟩).run Tryz.prog V = .ok (.string (U ++ ⟨#[61, 32]⟩)) V := fun V => run_string_add_sum V _ _ (by (repeat rw [ByteArray.size_append]); omega)
                      have haddt1 : ∀ V : World, (Op.stringOp .add (U ++ ⟨#[61, 32]⟩) R0).run Tryz.prog V = .ok (.string ((U ++ ⟨#[61, 32]⟩) ++ R0)) V := fun V => run_string_add_sum V _ _ (by (repeat rw [ByteArray.size_append]); omega)
                      have haddt2 : ∀ V : World, (Op.stringOp .add ((U ++ ⟨#[61, 32]⟩) ++ R0) ⟨#[59, 10]⟩).run Tryz.prog V = .ok (.string (((U ++ ⟨#[61, 32]⟩) ++ R0) ++ ⟨#[59, 10]⟩)) V := fun V => run_string_add_sum V _ _ (by (repeat rw [ByteArray.size_append]); omega)
                      clear hlitt0 hlitt2
                      clear hPN hUs hh hsz hT hR0
                      go_wp2_with fail
                      refine HT.out.mono ?_; rintro e w1 ⟨rfl, hb⟩
                      have hs1 := hb.size
                      have HB1 := Lib.hid (HBL4.out.trans (hb.mono hwz4))
                      have HK1 := Lib.hid (HBK4.out.below hb hkl4)
                      clear hb
                      go_wp2_with fail
                      go_roundw
                      case rel => exact ⟨i + 1, hi1, by go_num, by rw [HPN.out], HB1, HK1⟩
                      case measure => simp [intOf]; omega
              · obtain rfl : i = ro.length := by omega
                rw [hQ]
                have HQE : Hid (Q = baX (A3 ++ itemsX rowX ro)) := Lib.hid (by rw [← hQ, HPE3.out])
                have hQs : Q.size ≤ 1000000000000 := by have := HPS3.out ro.length; rwa [hQ] at this
                clear hQ
                have HRE : Hid (Q ++ ⟨#[125, 10]⟩ = R) := Lib.hid (by rw [HZE.out, HQE.out])
                have hlitz0 : (⟨#[125, 10]⟩ : ByteArray).size = 2 := rfl
                have haddz0 : ∀ V : World, (Op.stringOp .add Q ⟨#[125, 10]⟩).run Tryz.prog V = .ok (.string (Q ++ ⟨#[125, 10]⟩)) V := fun V => run_string_add_sum V _ _ (by (repeat rw [ByteArray.size_append]); omega)
                clear hlitz0
                clear hQs
                go_wp2_with fail
                go_ret
                exact ⟨congrArg (fun z => Ending.returned (Value.string z)) HRE.out, HBL.out⟩

set_option maxHeartbeats 16000000 in
theorem refDecl_3 (xa : Int) (xs : ByteArray) (te : List BT) (xt : RT) (co : List BT) (ro : List CT) (AA : Option Addr) (na : Nat) (AF : Option Addr) (nF : Nat) (AB : Option Addr) (nb : Nat) (AD : Option Addr) (nd : Nat) {lo hi : Nat} {w : World}
    (h : IsDecl w lo hi ⟨3, xa, xs, te, xt, co, ro⟩ ⟨AA, na, AF, nF, AB, nb, AD, nd⟩) (hhi : hi ≤ w.heap.size) (hL : (declX ⟨3, xa, xs, te, xt, co, ro⟩).length ≤ 1000000000000)
    (gte : ∀ y ∈ te, goodB y.t false = true ∧ y.t.size ≤ 8192) (gt : goodB xt false = true ∧ xt.size ≤ 8192) (gco : ∀ y ∈ co, goodB y.t false = true ∧ y.t.size ≤ 8192) (gro : ∀ y ∈ ro, (∀ t ∈ y.ps, goodB t true = true ∧ t.size ≤ 8192) ∧ (y.h = true → goodB y.t false = true ∧ y.t.size ≤ 8192)) :
    Calls Tryz.prog 31 #[.agg #[.int .i64 3, .int .i64 xa, .string xs, .slice AA te.length na, .int .i64 xt.k, .int .i64 xt.a, .string xt.s, .int .i64 xt.n, .slice AF xt.l.length nF, .slice AB co.length nb, .slice AD ro.length nd]] w (StrIs (baX (declX ⟨3, xa, xs, te, xt, co, ro⟩)) w) := by
  have HX0 := Lib.hid h
  have HLEN : Hid (te.length ≤ maxLen ∧ co.length ≤ maxLen ∧ ro.length ≤ maxLen) := Lib.hid ⟨Nat.le_trans h.la h.ma, Nat.le_trans h.lb h.mb, Nat.le_trans h.ld h.md⟩
  have HHI := Lib.hid hhi
  have HTT := Lib.hid (fun (y : BT) (hy : y ∈ te) (F : Option Addr) (C : Nat) (hn : IsBind w lo hi y F C) V (hV : Below w.heap.size w V) => show Calls Tryz.prog 70 #[nodeV y.t F C, .int .i64 0] V (StrIs (baX (exprX y.t 0)) V) from refX_any y.t 0 lo hi F C V (by decide) (hn.hn.kept hV hhi) (Nat.le_trans hhi hV.size) (gte y hy).1 (gte y hy).2)
  have HTC := Lib.hid (fun (y : BT) (hy : y ∈ co) (F : Option Addr) (C : Nat) (hn : IsBind w lo hi y F C) V (hV : Below w.heap.size w V) => show Calls Tryz.prog 70 #[nodeV y.t F C, .int .i64 0] V (StrIs (baX (exprX y.t 0)) V) from refX_any y.t 0 lo hi F C V (by decide) (hn.hn.kept hV hhi) (Nat.le_trans hhi hV.size) (gco y hy).1 (gco y hy).2)
  have HTB := Lib.hid (fun (y : CT) (hy : y ∈ ro) (hh : y.h = true) (A : Option Addr) (c : Nat) (F : Option Addr) (C : Nat) (hn : IsRow w lo hi y A c F C) V (hV : Below w.heap.size w V) => show Calls Tryz.prog 70 #[nodeV y.t F C, .int .i64 0] V (StrIs (baX (exprX y.t 0)) V) from refX_any y.t 0 lo hi F C V (by decide) (hn.hn.kept hV hhi) (Nat.le_trans hhi hV.size) ((gro y hy).2 hh).1 ((gro y hy).2 hh).2)
  have HTP := Lib.hid (fun (y : CT) (hy : y ∈ ro) (u : RT) (hu : u ∈ y.ps) (F : Option Addr) (C : Nat) (hn : IsNode w lo hi u F C) V (hV : Below w.heap.size w V) => refPat_any u lo hi F C V (hn.kept hV hhi) (Nat.le_trans hhi hV.size) ((gro y hy).1 u hu).1 ((gro y hy).1 u hu).2)
  have HEX := Lib.hid (fun V (hV : Below w.heap.size w V) => show Calls Tryz.prog 70 #[nodeV xt AF nF, .int .i64 0] V (StrIs (baX (exprX xt 0)) V) from refX_any xt 0 lo hi AF nF V (by decide) (h.t.kept hV hhi) (Nat.le_trans hhi hV.size) gt.1 gt.2)
  unfold StrIs nodeV at HTT HTC HTB HTP HEX
  obtain ⟨X9, hX9⟩ : ∃ X, exprX xt 0 = X := ⟨_, rfl⟩
  rw [hX9] at HEX
  obtain ⟨A1, hA1⟩ : ∃ X : Tx, ([100, 101, 102, 32] : Tx) ++ tx xs = X := ⟨_, rfl⟩
  obtain ⟨A2, hA2⟩ : ∃ X : Tx, A1 ++ bindsX te ++ [32, 58, 32] ++ X9 ++ [32, 123, 10] = X := ⟨_, rfl⟩
  obtain ⟨A3, hA3⟩ : ∃ X : Tx, A2 ++ itemsX conX co = X := ⟨_, rfl⟩
  obtain ⟨Z, hZ⟩ : ∃ Z, declX ⟨3, xa, xs, te, xt, co, ro⟩ = Z := ⟨_, rfl⟩
  have hZ3 : Z = A3 ++ itemsX rowX ro ++ [125, 10] := by
    rw [← hZ, ← hA3, ← hA2, ← hA1, ← hX9]
    unfold declX kwX
    simp only [List.append_assoc, List.cons_append, List.nil_append]
    rfl
  rw [hZ] at hL ⊢
  have hz3 : (baX (A3 ++ itemsX rowX ro)).size + 2 ≤ 1000000000000 := by rw [baX_size]; rw [hZ3, List.length_append] at hL; simpa using hL
  have hz2 : (baX (A2 ++ itemsX conX co)).size + 2 ≤ 1000000000000 := by
    rw [← hA3] at hz3
    simp only [baX_size, List.length_append] at hz3 ⊢
    omega
  have hz1 : (baX (A1 ++ bindsX te)).size + 3 + (baX X9).size + 3 ≤ 1000000000000 := by
    rw [← hA3, ← hA2] at hz3
    simp only [baX_size, List.length_append, List.length_cons, List.length_nil] at hz3 ⊢
    omega
  have hz0 : 5 + xs.size + 2 ≤ 1000000000000 := by
    rw [← hA1] at hz1
    simp only [baX_size, List.length_append, List.length_cons, List.length_nil, tx_length] at hz1
    omega
  obtain ⟨P1, hP1⟩ : ∃ P : Nat → ByteArray, (fun i => baX (A1 ++ bindsX (te.take i))) = P := ⟨_, rfl⟩
  have HP1 := Lib.hid (fun i => congrFun hP1 i)
  have HPE1 : Hid (P1 te.length = baX (A1 ++ bindsX te)) := Lib.hid (by rw [← HP1.out, List.take_length])
  have HPZ1 : Hid (P1 0 = baX A1) := Lib.hid (by rw [← HP1.out, List.take_zero]; show baX (A1 ++ []) = _; rw [List.append_nil])
  have HPS1 : Hid (∀ i, (P1 i).size ≤ 1000000000000) := Lib.hid (fun i => by
    rw [← HP1.out]
    refine Nat.le_trans ?_ (show (baX (A1 ++ bindsX te)).size ≤ _ by omega)
    rw [baX_size, baX_size, List.length_append, List.length_append]
    refine Nat.add_le_add_left ?_ _
    conv => rhs; rw [← List.take_append_drop i te]
    rw [bindsX_append, List.length_append]
    exact Nat.le_add_right _ _)
  clear hP1
  obtain ⟨P2, hP2⟩ : ∃ P : Nat → ByteArray, (fun i => baX (A2 ++ itemsX conX (co.take i))) = P := ⟨_, rfl⟩
  have HP2 := Lib.hid (fun i => congrFun hP2 i)
  have HPE2 : Hid (P2 co.length = baX (A2 ++ itemsX conX co)) := Lib.hid (by rw [← HP2.out, List.take_length])
  have HPZ2 : Hid (P2 0 = baX A2) := Lib.hid (by rw [← HP2.out, List.take_zero]; show baX (A2 ++ []) = _; rw [List.append_nil])
  have HPS2 : Hid (∀ i, (P2 i).size ≤ 1000000000000) := Lib.hid (fun i => by
    rw [← HP2.out]
    refine Nat.le_trans ?_ (show (baX (A2 ++ itemsX conX co)).size ≤ _ by omega)
    rw [baX_size, baX_size, List.length_append, List.length_append]
    refine Nat.add_le_add_left ?_ _
    conv => rhs; rw [← List.take_append_drop i co]
    rw [itemsX_append, List.length_append]
    exact Nat.le_add_right _ _)
  clear hP2
  obtain ⟨P3, hP3⟩ : ∃ P : Nat → ByteArray, (fun i => baX (A3 ++ itemsX rowX (ro.take i))) = P := ⟨_, rfl⟩
  have HP3 := Lib.hid (fun i => congrFun hP3 i)
  have HPE3 : Hid (P3 ro.length = baX (A3 ++ itemsX rowX ro)) := Lib.hid (by rw [← HP3.out, List.take_length])
  have HPZ3 : Hid (P3 0 = baX A3) := Lib.hid (by rw [← HP3.out, List.take_zero]; show baX (A3 ++ []) = _; rw [List.append_nil])
  have HPS3 : Hid (∀ i, (P3 i).size ≤ 1000000000000) := Lib.hid (fun i => by
    rw [← HP3.out]
    refine Nat.le_trans ?_ (show (baX (A3 ++ itemsX rowX ro)).size ≤ _ by omega)
    rw [baX_size, baX_size, List.length_append, List.length_append]
    refine Nat.add_le_add_left ?_ _
    conv => rhs; rw [← List.take_append_drop i ro]
    rw [itemsX_append, List.length_append]
    exact Nat.le_add_right _ _)
  clear hP3
  have HA2e := Lib.hid hA2
  have HA3e := Lib.hid hA3
  have HZ1 := Lib.hid hz1
  have HZE : Hid (baX Z = baX (A3 ++ itemsX rowX ro) ++ ⟨#[125, 10]⟩) := Lib.hid (by rw [hZ3, ← baX_cat]; rfl)
  have HA1 : Hid (baX A1 = ⟨#[100, 101, 102, 32]⟩ ++ xs) := Lib.hid (by
    rw [← hA1, ← baX_cat, baX_tx]; rfl)
  obtain ⟨R, hR⟩ : ∃ R, baX Z = R := ⟨_, rfl⟩
  rw [hR] at HZE ⊢
  unfold StrIs
  have hlitk : (⟨#[100, 101, 102, 32]⟩ : ByteArray).size = 4 := rfl
  have haddk : ∀ V : World, (Op.stringOp .add ⟨#[100, 101, 102, 32]⟩ xs).run Tryz.prog V = .ok (.string (⟨#[100, 101, 102, 32]⟩ ++ xs)) V := fun V => run_string_add_sum V _ _ (by omega)
  clear h hhi hL gte gt gco gro hX9 hlitk hA1 hA2 hA3 hZ hZ3 hz3 hz2 hz1 hz0 hR
  go_enter Tryz.func31, Tryz.ntmps31
  go_upto_region 1 with fail
  go_cut [3] from 8 to 15 (fun s3 wx => s3 = .string (⟨#[100, 101, 102, 32]⟩ ++ xs) ∧ Hid (Below w.heap.size w wx) ∧ Hid (Bk wx w.heap.size 30 #[.int .i64 3, .int .i64 xa, .string xs, .slice AA te.length na, .int .i64 xt.k, .int .i64 xt.a, .string xt.s, .int .i64 xt.n, .slice AF xt.l.length nF, .slice AB co.length nb, .slice AD ro.length nd]))
  case first =>
    clear HX0 HLEN HHI HTT HTC HTB HTP HEX HP1 HP2 HP3 HPE1 HPE2 HPE3 HPZ1 HPZ2 HPZ3 HPS1 HPS2 HPS3 HZE HA1
    go_region_law (fail)
    all_goals
      go_wp2_with fail
      go_meet
      case rel =>
        first
        | exact ⟨rfl, Lib.hid ((((Below.refl w.heap.size w).alloc (Nat.le_refl _) _).alloc (by simp) _).drew), Lib.hid (((Bk.new w _ _).alloc _).drewn)⟩
  case rest =>
    rename World => w5
    obtain ⟨rfl, HBA1, HBX1⟩ := hcut
    obtain ⟨x0, x1, x2, x3, x4, x5, x6, x7, x8, x9, x10⟩ := HBX1.out.q11
    have hkl := HBX1.out.lt
    clear haddk
    go_wp2_with fail
    clear x0 x1 x2 x3 x4 x5 x6 x7 x8 x9 x10
    go_loopw [3, 4] (fun sv iv wr => ∃ i : Nat, i ≤ te.length ∧ iv = .int .i64 i ∧ sv = .string (P1 i) ∧ Hid (Below w.heap.size w wr) ∧ Hid (Bk wr w.heap.size 30 #[.int .i64 3, .int .i64 xa, .string xs, .slice AA te.length na, .int .i64 xt.k, .int .i64 xt.a, .string xt.s, .int .i64 xt.n, .slice AF xt.l.length nF, .slice AB co.length nb, .slice AD ro.length nd])) (fun _ iv _ => te.length - (intOf iv).toNat)
    case atStart => exact ⟨0, Nat.zero_le _, rfl, by rw [HPZ1.out, HA1.out], HBA1, HBX1⟩
    case round =>
      rename World => wr
      obtain ⟨i, hi, rfl, rfl, HBL, HBK⟩ := hrel
      obtain ⟨x0, x1, x2, x3, x4, x5, x6, x7, x8, x9, x10⟩ := HBK.out.q11
      have hkl := HBK.out.lt
      have hwz := HBL.out.size
      obtain ⟨Q, hQ⟩ : ∃ Q, P1 i = Q := ⟨_, rfl⟩
      by_cases hlt : i < te.length
      · obtain ⟨bs, o, G, D, hA, hb1, hbs, xc, n0⟩ := HX0.out.te i hlt
        have hA : AA = some ⟨bs, o, none⟩ := hA
        subst hA
        have hbsw : bs < w.heap.size := by have := HHI.out; omega
        have hbsr : bs < wr.heap.size := by omega
        have hmem : te[i] ∈ te := List.getElem_mem _
        have hPN : P1 (i + 1) = Q ++ ⟨#[32, 40]⟩ ++ (te[i]).s ++ ⟨#[32, 58, 32]⟩ ++ baX (exprX (te[i]).t 0) ++ ⟨#[41]⟩ := by
          rw [← hQ, ← HP1.out, ← HP1.out, take_snocG hlt, bindsX_append, bindsX_one]
          unfold bindX typedX
          conv => rhs; rw [← baX_tx (te[i]).s]
          rw [show ⟨#[32, 40]⟩ = baX [32, 40] from rfl, show ⟨#[32, 58, 32]⟩ = baX [32, 58, 32] from rfl, show ⟨#[41]⟩ = baX [41] from rfl]
          simp only [baX_cat, List.append_assoc, List.cons_append, List.nil_append]
        have hsz := HPS1.out (i + 1)
        obtain ⟨y, hy⟩ : ∃ y, te[i] = y := ⟨_, rfl⟩
        rw [hy] at xc n0 hmem hPN
        have hT := HTT.out y hmem G D n0
        obtain ⟨R0, hR0⟩ : ∃ R, baX (exprX y.t 0) = R := ⟨_, rfl⟩
        rw [hR0] at hT hPN
        rw [hPN] at hsz
        simp only [ByteArray.size_append] at hsz
        have HT := Lib.hid hT
        have HPN := Lib.hid hPN
        have KEEP := Lib.hid (fun V (hV : Below wr.heap.size wr V) => show V.cell? ⟨w.heap.size, 3, none⟩ = some (.slice (some ⟨bs, o, none⟩) te.length na) ∧ V.cell? ⟨bs, o + i * 7, none⟩ = some (.string y.s) ∧ V.cell? ⟨bs, o + i * 7 + 2, none⟩ = some (.int .i64 y.t.k) ∧ V.cell? ⟨bs, o + i * 7 + 3, none⟩ = some (.int .i64 y.t.a) ∧ V.cell? ⟨bs, o + i * 7 + 4, none⟩ = some (.string y.t.s) ∧ V.cell? ⟨bs, o + i * 7 + 5, none⟩ = some (.int .i64 y.t.n) ∧ V.cell? ⟨bs, o + i * 7 + 6, none⟩ = some (.slice G y.t.l.length D) ∧ V.cell? ⟨bs, o + i * 7 + 2 + 1, none⟩ = some (.int .i64 y.t.a) ∧ V.cell? ⟨bs, o + i * 7 + 2 + 2, none⟩ = some (.string y.t.s) ∧ V.cell? ⟨bs, o + i * 7 + 2 + 3, none⟩ = some (.int .i64 y.t.n) ∧ V.cell? ⟨bs, o + i * 7 + 2 + 4, none⟩ = some (.slice G y.t.l.length D) from (by
          have k := xc.kept (HBL.out.trans (hV.mono hwz)) hbsw
          have kb := (HBK.out.below hV hkl).q11
          exact ⟨kb.2.2.2.1, k.c0, k.c2, k.c3, k.c4, k.c5, k.c6, k.c3, k.c4, k.c5, k.c6⟩))
        obtain ⟨kx, c0, c2, c3, c4, c5, c6, d3, d4, d5, d6⟩ := KEEP.out wr (Below.refl _ _)
        have hbk := Lib.hid ((Below.refl wr.heap.size wr).drew)
        have hlitl0 : (⟨#[32, 40]⟩ : ByteArray).size = 2 := rfl
        have hlitl2 : (⟨#[32, 58, 32]⟩ : ByteArray).size = 3 := rfl
        have hlitl4 : (⟨#[41]⟩ : ByteArray).size = 1 := rfl
        have haddl0 : ∀ V : World, (Op.stringOp .add Q ⟨#[32, 40]⟩).run Tryz.prog V = .ok (.string (Q ++ ⟨#[32, 40]⟩)) V := fun V => run_string_add_sum V _ _ (by (repeat rw [ByteArray.size_append]); omega)
        have haddl1 : ∀ V : World, (Op.stringOp .add (Q ++ ⟨#[32, 40]⟩) y.s).run Tryz.prog V = .ok (.string ((Q ++ ⟨#[32, 40]⟩) ++ y.s)) V := fun V => run_string_add_sum V _ _ (by (repeat rw [ByteArray.size_append]); omega)
        have haddl2 : ∀ V : World, (Op.stringOp .add ((Q ++ ⟨#[32, 40]⟩) ++ y.s) ⟨#[32, 58, 32]⟩).run Tryz.prog V = .ok (.string (((Q ++ ⟨#[32, 40]⟩) ++ y.s) ++ ⟨#[32, 58, 32]⟩)) V := fun V => run_string_add_sum V _ _ (by (repeat rw [ByteArray.size_append]); omega)
        have haddl3 : ∀ V : World, (Op.stringOp .add (((Q ++ ⟨#[32, 40]⟩) ++ y.s) ++ ⟨#[32, 58, 32]⟩) R0).run Tryz.prog V = .ok (.string ((((Q ++ ⟨#[32, 40]⟩) ++ y.s) ++ ⟨#[32, 58, 32]⟩) ++ R0)) V := fun V => run_string_add_sum V _ _ (by (repeat rw [ByteArray.size_append]); omega)
        have haddl4 : ∀ V : World, (Op.stringOp .add ((((Q ++ ⟨#[32, 40]⟩) ++ y.s) ++ ⟨#[32, 58, 32]⟩) ++ R0) ⟨#[41]⟩).run Tryz.prog V = .ok (.string (((((Q ++ ⟨#[32, 40]⟩) ++ y.s) ++ ⟨#[32, 58, 32]⟩) ++ R0) ++ ⟨#[41]⟩)) V := fun V => run_string_add_sum V _ _ (by (repeat rw [ByteArray.size_append]); omega)
        clear hlitl0 hlitl2 hlitl4
        have hi1 : i + 1 ≤ te.length := hlt
        have hiL : (i : Int) < 9223372036854775807 := by have := HLEN.out; unfold maxLen at this; omega
        rw [hQ]
        clear xc n0 hy hmem hPN hsz hT hR0 hQ
        go_upto_region 5 with fail
        go_region_held3 (fun w' => Below wr.heap.size wr w' ∧ w'.cell? ⟨w.heap.size, 3, none⟩ = some (.slice (some ⟨bs, o, none⟩) te.length na) ∧ w'.cell? ⟨bs, o + i * 7, none⟩ = some (.string y.s) ∧ w'.cell? ⟨bs, o + i * 7 + 2, none⟩ = some (.int .i64 y.t.k) ∧ w'.cell? ⟨bs, o + i * 7 + 3, none⟩ = some (.int .i64 y.t.a) ∧ w'.cell? ⟨bs, o + i * 7 + 4, none⟩ = some (.string y.t.s) ∧ w'.cell? ⟨bs, o + i * 7 + 5, none⟩ = some (.int .i64 y.t.n) ∧ w'.cell? ⟨bs, o + i * 7 + 6, none⟩ = some (.slice G y.t.l.length D) ∧ w'.cell? ⟨bs, o + i * 7 + 2 + 1, none⟩ = some (.int .i64 y.t.a) ∧ w'.cell? ⟨bs, o + i * 7 + 2 + 2, none⟩ = some (.string y.t.s) ∧ w'.cell? ⟨bs, o + i * 7 + 2 + 3, none⟩ = some (.int .i64 y.t.n) ∧ w'.cell? ⟨bs, o + i * 7 + 2 + 4, none⟩ = some (.slice G y.t.l.length D))
          (first | exact ⟨hbk.out, KEEP.out _ hbk.out⟩)
          (first
            | (go_at_call 70; with_reducible refine (HT.out _ (HBL.out.trans (hbk.out.mono hwz))).mono ?_; rintro e w3 ⟨rfl, hb3⟩; have hbk := Lib.hid (hbk.out.trans (hb3.mono hbk.out.size)); clear hb3))
        all_goals
          have HB1 := Lib.hid (HBL.out.trans (hbk.out.mono hwz))
          have HK1 := Lib.hid (HBK.out.below hbk.out hkl)
          clear KEEP HT
          go_wp2_with fail
          go_roundw
          case rel => exact ⟨i + 1, hi1, by go_num, by rw [HPN.out], HB1, HK1⟩
          case measure => simp [intOf]; omega
      · obtain rfl : i = te.length := by omega
        rw [hQ]
        have HQE : Hid (Q = baX (A1 ++ bindsX te)) := Lib.hid (by rw [← hQ, HPE1.out])
        have hQs : Q.size ≤ 1000000000000 := by have := HPS1.out te.length; rwa [hQ] at this
        clear hQ
        have HA2 : Hid (baX A2 = Q ++ ⟨#[32, 58, 32]⟩ ++ baX X9 ++ ⟨#[32, 123, 10]⟩) := Lib.hid (by
          rw [HQE.out, ← HA2e.out]
          rw [show ⟨#[32, 58, 32]⟩ = baX [32,58,32] from rfl, show ⟨#[32, 123, 10]⟩ = baX [32,123,10] from rfl]
          simp only [baX_cat, List.append_assoc])
        have hz9 : Q.size + 3 + (baX X9).size + 3 ≤ 1000000000000 := by have := HZ1.out; rw [HQE.out]; exact this
        obtain ⟨R9, hR9⟩ : ∃ R, baX X9 = R := ⟨_, rfl⟩
        rw [hR9] at HEX HA2 hz9
        have hlite0 : (⟨#[32, 58, 32]⟩ : ByteArray).size = 3 := rfl
        have hlite2 : (⟨#[32, 123, 10]⟩ : ByteArray).size = 3 := rfl
        have hadde0 : ∀ V : World, (Op.stringOp .add Q ⟨#[32, 58, 32]⟩).run Tryz.prog V = .ok (.string (Q ++ ⟨#[32, 58, 32]⟩)) V := fun V => run_string_add_sum V _ _ (by (repeat rw [ByteArray.size_append]); omega)
        have hadde1 : ∀ V : World, (Op.stringOp .add (Q ++ ⟨#[32, 58, 32]⟩) R9).run Tryz.prog V = .ok (.string ((Q ++ ⟨#[32, 58, 32]⟩) ++ R9)) V := fun V => run_string_add_sum V _ _ (by (repeat rw [ByteArray.size_append]); omega)
        have hadde2 : ∀ V : World, (Op.stringOp .add ((Q ++ ⟨#[32, 58, 32]⟩) ++ R9) ⟨#[32, 123, 10]⟩).run Tryz.prog V = .ok (.string (((Q ++ ⟨#[32, 58, 32]⟩) ++ R9) ++ ⟨#[32, 123, 10]⟩)) V := fun V => run_string_add_sum V _ _ (by (repeat rw [ByteArray.size_append]); omega)
        clear hlite0 hlite2
        clear hR9 hQs hz9
        go_wp2_with fail
        refine (HEX.out _ HBL.out).mono ?_; rintro e w1 ⟨rfl, hb⟩
        have HBA2 := Lib.hid (HBL.out.trans (hb.mono hwz))
        have HBX2 := Lib.hid (HBK.out.below hb hkl)
        obtain ⟨x0, x1, x2, x3, x4, x5, x6, x7, x8, x9, x10⟩ := HBX2.out.q11
        have hkl2 := HBX2.out.lt
        clear hb HQE HEX
        go_wp2_with fail
        clear HBL HBK x0 x1 x2 x3 x4 x5 x6 x7 x8 x9 x10 hwz hkl
        rename World => wp
        go_loopw [3, 5] (fun sv iv wr => ∃ i : Nat, i ≤ co.length ∧ iv = .int .i64 i ∧ sv = .string (P2 i) ∧ Hid (Below w.heap.size w wr) ∧ Hid (Bk wr w.heap.size 30 #[.int .i64 3, .int .i64 xa, .string xs, .slice AA te.length na, .int .i64 xt.k, .int .i64 xt.a, .string xt.s, .int .i64 xt.n, .slice AF xt.l.length nF, .slice AB co.length nb, .slice AD ro.length nd])) (fun _ iv _ => co.length - (intOf iv).toNat)
        case atStart => exact ⟨0, Nat.zero_le _, rfl, by rw [HPZ2.out, HA2.out], HBA2, HBX2⟩
        case round =>
          rename World => wr
          obtain ⟨i, hi, rfl, rfl, HBL, HBK⟩ := hrel
          obtain ⟨x0, x1, x2, x3, x4, x5, x6, x7, x8, x9, x10⟩ := HBK.out.q11
          have hkl := HBK.out.lt
          have hwz := HBL.out.size
          obtain ⟨Q, hQ⟩ : ∃ Q, P2 i = Q := ⟨_, rfl⟩
          by_cases hlt : i < co.length
          · obtain ⟨bs, o, G, D, hA, hb1, hbs, xc, n0⟩ := HX0.out.co i hlt
            have hA : AB = some ⟨bs, o, none⟩ := hA
            subst hA
            have hbsw : bs < w.heap.size := by have := HHI.out; omega
            have hbsr : bs < wr.heap.size := by omega
            have hmem : co[i] ∈ co := List.getElem_mem _
            have hPN : P2 (i + 1) = Q ++ ⟨#[32, 32]⟩ ++ (co[i]).s ++ ⟨#[32, 58, 32]⟩ ++ baX (exprX (co[i]).t 0) ++ ⟨#[59, 10]⟩ := by
              rw [← hQ, ← HP2.out, ← HP2.out, take_snocG hlt, itemsX_append, itemsX_one]
              unfold conX typedX
              conv => rhs; rw [← baX_tx (co[i]).s]
              rw [show ⟨#[32, 32]⟩ = baX [32, 32] from rfl, show ⟨#[32, 58, 32]⟩ = baX [32, 58, 32] from rfl, show ⟨#[59, 10]⟩ = baX [59, 10] from rfl]
              simp only [baX_cat, List.append_assoc, List.cons_append, List.nil_append]
            have hsz := HPS2.out (i + 1)
            obtain ⟨y, hy⟩ : ∃ y, co[i] = y := ⟨_, rfl⟩
            rw [hy] at xc n0 hmem hPN
            have hT := HTC.out y hmem G D n0
            obtain ⟨R0, hR0⟩ : ∃ R, baX (exprX y.t 0) = R := ⟨_, rfl⟩
            rw [hR0] at hT hPN
            rw [hPN] at hsz
            simp only [ByteArray.size_append] at hsz
            have HT := Lib.hid hT
            have HPN := Lib.hid hPN
            have KEEP := Lib.hid (fun V (hV : Below wr.heap.size wr V) => show V.cell? ⟨w.heap.size, 9, none⟩ = some (.slice (some ⟨bs, o, none⟩) co.length nb) ∧ V.cell? ⟨bs, o + i * 7, none⟩ = some (.string y.s) ∧ V.cell? ⟨bs, o + i * 7 + 2, none⟩ = some (.int .i64 y.t.k) ∧ V.cell? ⟨bs, o + i * 7 + 3, none⟩ = some (.int .i64 y.t.a) ∧ V.cell? ⟨bs, o + i * 7 + 4, none⟩ = some (.string y.t.s) ∧ V.cell? ⟨bs, o + i * 7 + 5, none⟩ = some (.int .i64 y.t.n) ∧ V.cell? ⟨bs, o + i * 7 + 6, none⟩ = some (.slice G y.t.l.length D) ∧ V.cell? ⟨bs, o + i * 7 + 2 + 1, none⟩ = some (.int .i64 y.t.a) ∧ V.cell? ⟨bs, o + i * 7 + 2 + 2, none⟩ = some (.string y.t.s) ∧ V.cell? ⟨bs, o + i * 7 + 2 + 3, none⟩ = some (.int .i64 y.t.n) ∧ V.cell? ⟨bs, o + i * 7 + 2 + 4, none⟩ = some (.slice G y.t.l.length D) from (by
              have k := xc.kept (HBL.out.trans (hV.mono hwz)) hbsw
              have kb := (HBK.out.below hV hkl).q11
              exact ⟨kb.2.2.2.2.2.2.2.2.2.1, k.c0, k.c2, k.c3, k.c4, k.c5, k.c6, k.c3, k.c4, k.c5, k.c6⟩))
            obtain ⟨kx, c0, c2, c3, c4, c5, c6, d3, d4, d5, d6⟩ := KEEP.out wr (Below.refl _ _)
            have hbk := Lib.hid ((Below.refl wr.heap.size wr).drew)
            have hlitl0 : (⟨#[32, 32]⟩ : ByteArray).size = 2 := rfl
            have hlitl2 : (⟨#[32, 58, 32]⟩ : ByteArray).size = 3 := rfl
            have hlitl4 : (⟨#[59, 10]⟩ : ByteArray).size = 2 := rfl
            have haddl0 : ∀ V : World, (Op.stringOp .add Q ⟨#[32, 32]⟩).run Tryz.prog V = .ok (.string (Q ++ ⟨#[32, 32]⟩)) V := fun V => run_string_add_sum V _ _ (by (repeat rw [ByteArray.size_append]); omega)
            have haddl1 : ∀ V : World, (Op.stringOp .add (Q ++ ⟨#[32, 32]⟩) y.s).run Tryz.prog V = .ok (.string ((Q ++ ⟨#[32, 32]⟩) ++ y.s)) V := fun V => run_string_add_sum V _ _ (by (repeat rw [ByteArray.size_append]); omega)
            have haddl2 : ∀ V : World, (Op.stringOp .add ((Q ++ ⟨#[32, 32]⟩) ++ y.s) ⟨#[32, 58, 32]⟩).run Tryz.prog V = .ok (.string (((Q ++ ⟨#[32, 32]⟩) ++ y.s) ++ ⟨#[32, 58, 32]⟩)) V := fun V => run_string_add_sum V _ _ (by (repeat rw [ByteArray.size_append]); omega)
            have haddl3 : ∀ V : World, (Op.stringOp .add (((Q ++ ⟨#[32, 32]⟩) ++ y.s) ++ ⟨#[32, 58, 32]⟩) R0).run Tryz.prog V = .ok (.string ((((Q ++ ⟨#[32, 32]⟩) ++ y.s) ++ ⟨#[32, 58, 32]⟩) ++ R0)) V := fun V => run_string_add_sum V _ _ (by (repeat rw [ByteArray.size_append]); omega)
            have haddl4 : ∀ V : World, (Op.stringOp .add ((((Q ++ ⟨#[32, 32]⟩) ++ y.s) ++ ⟨#[32, 58, 32]⟩) ++ R0) ⟨#[59, 10]⟩).run Tryz.prog V = .ok (.string (((((Q ++ ⟨#[32, 32]⟩) ++ y.s) ++ ⟨#[32, 58, 32]⟩) ++ R0) ++ ⟨#[59, 10]⟩)) V := fun V => run_string_add_sum V _ _ (by (repeat rw [ByteArray.size_append]); omega)
            clear hlitl0 hlitl2 hlitl4
            have hi1 : i + 1 ≤ co.length := hlt
            have hiL : (i : Int) < 9223372036854775807 := by have := HLEN.out; unfold maxLen at this; omega
            rw [hQ]
            clear xc n0 hy hmem hPN hsz hT hR0 hQ
            go_upto_region 10 with fail
            go_region_held3 (fun w' => Below wr.heap.size wr w' ∧ w'.cell? ⟨w.heap.size, 9, none⟩ = some (.slice (some ⟨bs, o, none⟩) co.length nb) ∧ w'.cell? ⟨bs, o + i * 7, none⟩ = some (.string y.s) ∧ w'.cell? ⟨bs, o + i * 7 + 2, none⟩ = some (.int .i64 y.t.k) ∧ w'.cell? ⟨bs, o + i * 7 + 3, none⟩ = some (.int .i64 y.t.a) ∧ w'.cell? ⟨bs, o + i * 7 + 4, none⟩ = some (.string y.t.s) ∧ w'.cell? ⟨bs, o + i * 7 + 5, none⟩ = some (.int .i64 y.t.n) ∧ w'.cell? ⟨bs, o + i * 7 + 6, none⟩ = some (.slice G y.t.l.length D) ∧ w'.cell? ⟨bs, o + i * 7 + 2 + 1, none⟩ = some (.int .i64 y.t.a) ∧ w'.cell? ⟨bs, o + i * 7 + 2 + 2, none⟩ = some (.string y.t.s) ∧ w'.cell? ⟨bs, o + i * 7 + 2 + 3, none⟩ = some (.int .i64 y.t.n) ∧ w'.cell? ⟨bs, o + i * 7 + 2 + 4, none⟩ = some (.slice G y.t.l.length D))
              (first | exact ⟨hbk.out, KEEP.out _ hbk.out⟩)
              (first
                | (go_at_call 70; with_reducible refine (HT.out _ (HBL.out.trans (hbk.out.mono hwz))).mono ?_; rintro e w3 ⟨rfl, hb3⟩; have hbk := Lib.hid (hbk.out.trans (hb3.mono hbk.out.size)); clear hb3))
            all_goals
              have HB1 := Lib.hid (HBL.out.trans (hbk.out.mono hwz))
              have HK1 := Lib.hid (HBK.out.below hbk.out hkl)
              clear KEEP HT
              go_wp2_with fail
              go_roundw
              case rel => exact ⟨i + 1, hi1, by go_num, by rw [HPN.out], HB1, HK1⟩
              case measure => simp [intOf]; omega
          · obtain rfl : i = co.length := by omega
            rw [hQ]
            have HQE : Hid (Q = baX (A2 ++ itemsX conX co)) := Lib.hid (by rw [← hQ, HPE2.out])
            have hQs : Q.size ≤ 1000000000000 := by have := HPS2.out co.length; rwa [hQ] at this
            clear hQ
            have HA3 : Hid (baX A3 = Q) := Lib.hid (by rw [HQE.out, ← HA3e.out])
            have HBA3 := HBL
            have HBX3 := HBK
            clear hQs
            go_wp2_with fail
            clear HQE HBL HBK x0 x1 x2 x3 x4 x5 x6 x7 x8 x9 x10 hwz hkl
            rename World => wp
            go_loopw [3, 6] (fun sv iv wr => ∃ i : Nat, i ≤ ro.length ∧ iv = .int .i64 i ∧ sv = .string (P3 i) ∧ Hid (Below w.heap.size w wr) ∧ Hid (Bk wr w.heap.size 30 #[.int .i64 3, .int .i64 xa, .string xs, .slice AA te.length na, .int .i64 xt.k, .int .i64 xt.a, .string xt.s, .int .i64 xt.n, .slice AF xt.l.length nF, .slice AB co.length nb, .slice AD ro.length nd])) (fun _ iv _ => ro.length - (intOf iv).toNat)
            case atStart => exact ⟨0, Nat.zero_le _, rfl, by rw [HPZ3.out, HA3.out], HBA3, HBX3⟩
            case round =>
              rename World => wr
              obtain ⟨i, hi, rfl, rfl, HBL, HBK⟩ := hrel
              obtain ⟨x0, x1, x2, x3, x4, x5, x6, x7, x8, x9, x10⟩ := HBK.out.q11
              have hkl := HBK.out.lt
              have hwz := HBL.out.size
              obtain ⟨Q, hQ⟩ : ∃ Q, P3 i = Q := ⟨_, rfl⟩
              by_cases hlt : i < ro.length
              · obtain ⟨bs, o, G1, D1, G, D, hA, hb1, hbs, xc, n0⟩ := HX0.out.ro i hlt
                have hA : AD = some ⟨bs, o, none⟩ := hA
                subst hA
                have hbsw : bs < w.heap.size := by have := HHI.out; omega
                have hbsr : bs < wr.heap.size := by omega
                have hmem : ro[i] ∈ ro := List.getElem_mem _
                have hPF : (ro[i]).h = false → P3 (i + 1) = Q ++ ⟨#[32, 32]⟩ ++ baX (rowPX (ro[i]).ps) ++ ⟨#[59, 10]⟩ := fun hh => by
                  rw [← hQ, ← HP3.out, ← HP3.out, take_snocG hlt, itemsX_append, itemsX_one]
                  unfold rowX
                  rw [hh, show ⟨#[32, 32]⟩ = baX [32, 32] from rfl, show ⟨#[59, 10]⟩ = baX [59, 10] from rfl]
                  simp only [baX_cat, List.append_assoc, List.cons_append, List.nil_append, List.append_nil, Bool.false_eq_true, if_false]
                have hPT : (ro[i]).h = true → P3 (i + 1) = Q ++ ⟨#[32, 32]⟩ ++ baX (rowPX (ro[i]).ps) ++ ⟨#[61, 32]⟩ ++ baX (exprX (ro[i]).t 0) ++ ⟨#[59, 10]⟩ := fun hh => by
                  rw [← hQ, ← HP3.out, ← HP3.out, take_snocG hlt, itemsX_append, itemsX_one]
                  unfold rowX
                  rw [hh, show ⟨#[32, 32]⟩ = baX [32, 32] from rfl, show ⟨#[59, 10]⟩ = baX [59, 10] from rfl, show ⟨#[61, 32]⟩ = baX [61, 32] from rfl]
                  simp only [baX_cat, List.append_assoc, List.cons_append, List.nil_append, if_true]
                have hsz := HPS3.out (i + 1)
                obtain ⟨y, hy⟩ : ∃ y, ro[i] = y := ⟨_, rfl⟩
                rw [hy] at xc n0 hmem hPF hPT
                have hzr : Q.size + 2 + (baX (rowPX y.ps)).size + 2 ≤ 1000000000000 := by
                  cases hh : y.h with
                  | false => rw [hPF hh] at hsz; simp only [ByteArray.size_append] at hsz; exact hsz
                  | true => rw [hPT hh] at hsz; simp only [ByteArray.size_append] at hsz; have e1 : (⟨#[61, 32]⟩ : ByteArray).size = 2 := rfl; have e2 : (⟨#[32, 32]⟩ : ByteArray).size = 2 := rfl; have e3 : (⟨#[59, 10]⟩ : ByteArray).size = 2 := rfl; omega
                have HZR := Lib.hid hzr
                have HPF := Lib.hid hPF
                have HPT := Lib.hid hPT
                have HSZ := Lib.hid hsz
                have HROW := Lib.hid n0
                have HXC := Lib.hid xc
                have HTPY := Lib.hid (fun u hu F C hn V hV => HTP.out y hmem u hu F C hn V hV)
                have HTBY := Lib.hid (fun hh V hV => HTB.out y hmem hh G1 D1 G D n0 V hV)
                have hi1 : i + 1 ≤ ro.length := hlt
                have hiL : (i : Int) < 9223372036854775807 := by have := HLEN.out; unfold maxLen at this; omega
                have hlit0 : (⟨#[32, 32]⟩ : ByteArray).size = 2 := rfl
                have hadd0 : ∀ V : World, (Op.stringOp .add Q ⟨#[32, 32]⟩).run Tryz.prog V = .ok (.string (Q ++ ⟨#[32, 32]⟩)) V := fun V => run_string_add_sum V _ _ (by omega)
                obtain ⟨Q4, hQ4⟩ : ∃ q, Q ++ ⟨#[32, 32]⟩ = q := ⟨_, rfl⟩
                have hQ4s : Q4.size = Q.size + 2 := by rw [← hQ4, ByteArray.size_append]; rfl
                have HQ4 := Lib.hid hQ4
                rw [hQ4] at hadd0
                obtain ⟨P4, hP4⟩ : ∃ P : Nat → ByteArray, (fun k => Q4 ++ baX (rowPX (y.ps.take k))) = P := ⟨_, rfl⟩
                have HP4 := Lib.hid (fun k => congrFun hP4 k)
                have HPE4 : Hid (P4 y.ps.length = Q4 ++ baX (rowPX y.ps)) := Lib.hid (by rw [← HP4.out, List.take_length])
                have HPZ4 : Hid (P4 0 = Q4) := Lib.hid (by rw [← HP4.out, List.take_zero]; show Q4 ++ baX [] = _; rw [show baX [] = ByteArray.empty from rfl, ByteArray.append_empty])
                have HPN4 : Hid (∀ k (hk : k < y.ps.length), P4 (k + 1) = P4 k ++ baX (patX y.ps[k]) ++ ⟨#[32]⟩) := Lib.hid (fun k hk => by
                  rw [← HP4.out, ← HP4.out, take_snocG hk, rowPX_append, rowPX_one, show ⟨#[32]⟩ = baX [32] from rfl, ← baX_cat, ← baX_cat]
                  simp only [ByteArray.append_assoc])
                have HPS4 : Hid (∀ k, (P4 k).size + 2 ≤ 1000000000000) := Lib.hid (fun k => by
                  rw [← HP4.out, ByteArray.size_append, hQ4s]
                  have h1 : (baX (rowPX (y.ps.take k))).size ≤ (baX (rowPX y.ps)).size := by
                    rw [baX_size, baX_size]
                    conv => rhs; rw [← List.take_append_drop k y.ps]
                    rw [rowPX_append, List.length_append]
                    exact Nat.le_add_right _ _
                  omega)
                rw [hQ]
                clear xc n0 hy hmem hPF hPT hsz hzr hQ hlit0 hQ4 hQ4s hP4
                go_wp2_with fail
                clear x0 x1 x2 x3 x4 x5 x6 x7 x8 x9 x10
                rename World => wq
                go_loopw [3, 7] (fun sv kv wx => ∃ k : Nat, k ≤ y.ps.length ∧ kv = .int .i64 k ∧ sv = .string (P4 k) ∧ Hid (Below w.heap.size w wx) ∧ Hid (Bk wx w.heap.size 30 #[.int .i64 3, .int .i64 xa, .string xs, .slice AA te.length na, .int .i64 xt.k, .int .i64 xt.a, .string xt.s, .int .i64 xt.n, .slice AF xt.l.length nF, .slice AB co.length nb, .slice (some ⟨bs, o, none⟩) ro.length nd])) (fun _ kv _ => y.ps.length - (intOf kv).toNat)
                case atStart => exact ⟨0, Nat.zero_le _, rfl, by rw [HPZ4.out], HBL, HBK⟩
                case round =>
                  rename World => wx
                  obtain ⟨k, hk, rfl, rfl, HBL4, HBK4⟩ := hrel
                  obtain ⟨x0, x1, x2, x3, x4, x5, x6, x7, x8, x9, x10⟩ := HBK4.out.q11
                  have hkl4 := HBK4.out.lt
                  have hwz4 := HBL4.out.size
                  have hbsx : bs < wx.heap.size := by omega
                  obtain ⟨U, hU⟩ : ∃ U, P4 k = U := ⟨_, rfl⟩
                  have hUs : U.size + 2 ≤ 1000000000000 := by rw [← hU]; exact HPS4.out k
                  by_cases hkt : k < y.ps.length
                  · obtain ⟨b5, o5, G5, D5, hA5, hb51, hb5, x5c, n5⟩ := HROW.out.hp k hkt
                    subst hA5
                    have hb5x : b5 < wx.heap.size := by have := HHI.out; omega
                    obtain ⟨c0, c1, c2, c3, c4, c5, c6, c7⟩ := HXC.out.kept HBL4.out hbsw
                    obtain ⟨d0, d1, d2, d3, d4⟩ := (x5c.kept HBL4.out (by have := HHI.out; omega)).all
                    have hmem : y.ps[k] ∈ y.ps := List.getElem_mem _
                    have hPN := HPN4.out k hkt
                    have hsz := HPS4.out (k + 1)
                    obtain ⟨u, hu⟩ : ∃ u, y.ps[k] = u := ⟨_, rfl⟩
                    rw [hu] at d0 d1 d2 d3 d4 n5 hmem hPN
                    have hT := HTPY.out u hmem G5 D5 n5 wx HBL4.out
                    obtain ⟨R0, hR0⟩ : ∃ R, baX (patX u) = R := ⟨_, rfl⟩
                    rw [hR0] at hT hPN
                    rw [hPN, hU] at hsz
                    rw [hU] at hPN ⊢
                    simp only [ByteArray.size_append] at hsz
                    have HT := Lib.hid hT
                    have HPN := Lib.hid hPN
                    have hlitp1 : (⟨#[32]⟩ : ByteArray).size = 1 := rfl
                    have haddp0 : ∀ V : World, (Op.stringOp .add U R0).run Tryz.prog V = .ok (.string (U ++ R0)) V := fun V => run_string_add_sum V _ _ (by (repeat rw [ByteArray.size_append]); omega)
                    have haddp1 : ∀ V : World, (Op.stringOp .add (U ++ R0) ⟨#[32]⟩).run Tryz.prog V = .ok (.string ((U ++ R0) ++ ⟨#[32]⟩)) V := fun V => run_string_add_sum V _ _ (by (repeat rw [ByteArray.size_append]); omega)
                    clear hlitp1
                    have hk1 : k + 1 ≤ y.ps.length := hkt
                    have hkL : (k : Int) < 9223372036854775807 := by have := HROW.out.hl; have := HROW.out.hc; unfold maxLen at this; omega
                    clear x5c n5 hu hmem hPN hsz hT hR0 hU hUs
                    go_wp2_with fail
                    refine HT.out.mono ?_; rintro e w1 ⟨rfl, hb⟩
                    have hs1 := hb.size
                    have HB1 := Lib.hid (HBL4.out.trans (hb.mono hwz4))
                    have HK1 := Lib.hid (HBK4.out.below hb hkl4)
                    clear hb
                    go_wp2_with fail
                    go_roundw
                    case rel => exact ⟨k + 1, hk1, by go_num, by rw [HPN.out], HB1, HK1⟩
                    case measure => simp [intOf]; omega
                  · obtain rfl : k = y.ps.length := by omega
                    have HUE : Hid (U = Q4 ++ baX (rowPX y.ps)) := Lib.hid (by rw [← hU, HPE4.out])
                    obtain ⟨c0, c1, c2, c3, c4, c5, c6, c7⟩ := HXC.out.kept HBL4.out hbsw
                    rw [hU]
                    clear hU
                    cases hh : y.h with
                    | false =>
                      rw [hh] at c2
                      have hPN : P3 (i + 1) = U ++ ⟨#[59, 10]⟩ := by rw [HPF.out hh, HUE.out, HQ4.out]
                      have HPN := Lib.hid hPN
                      have hlitf0 : (⟨#[59, 10]⟩ : ByteArray).size = 2 := rfl
                      have haddf0 : ∀ V : World, (Op.stringOp .add U ⟨#[59, 10]⟩).run Tryz.prog V = .ok (.string (U ++ ⟨#[59, 10]⟩)) V := fun V => run_string_add_sum V _ _ (by (repeat rw [ByteArray.size_append]); omega)
                      clear hlitf0
                      clear hPN hUs hh
                      go_wp2_with fail
                      go_roundw
                      case rel => exact ⟨i + 1, hi1, by go_num, by rw [HPN.out], HBL4, HBK4⟩
                      case measure => simp [intOf]; omega
                    | true =>
                      rw [hh] at c2
                      have hPN : P3 (i + 1) = U ++ ⟨#[61, 32]⟩ ++ baX (exprX y.t 0) ++ ⟨#[59, 10]⟩ := by rw [HPT.out hh, HUE.out, HQ4.out]
                      have hsz := HSZ.out
                      have hT := HTBY.out hh wx HBL4.out
                      obtain ⟨R0, hR0⟩ : ∃ R, baX (exprX y.t 0) = R := ⟨_, rfl⟩
                      rw [hR0] at hT hPN
                      rw [hPN] at hsz
                      simp only [ByteArray.size_append] at hsz
                      have HT := Lib.hid hT
                      have HPN := Lib.hid hPN
                      have hlitt0 : (⟨#[61, 32]⟩ : ByteArray).size = 2 := rfl
                      have hlitt2 : (⟨#[59, 10]⟩ : ByteArray).size = 2 := rfl
                      have haddt0 : ∀ V : World, (Op.stringOp .add U ⟨#[61, 32]⟩).run Tryz.prog V = .ok (.string (U ++ ⟨#[61, 32]⟩)) V := fun V => run_string_add_sum V _ _ (by (repeat rw [ByteArray.size_append]); omega)
                      have haddt1 : ∀ V : World, (Op.stringOp .add (U ++ ⟨#[61, 32]⟩) R0).run Tryz.prog V = .ok (.string ((U ++ ⟨#[61, 32]⟩) ++ R0)) V := fun V => run_string_add_sum V _ _ (by (repeat rw [ByteArray.size_append]); omega)
                      have haddt2 : ∀ V : World, (Op.stringOp .add ((U ++ ⟨#[61, 32]⟩) ++ R0) ⟨#[59, 10]⟩).run Tryz.prog V = .ok (.string (((U ++ ⟨#[61, 32]⟩) ++ R0) ++ ⟨#[59, 10]⟩)) V := fun V => run_string_add_sum V _ _ (by (repeat rw [ByteArray.size_append]); omega)
                      clear hlitt0 hlitt2
                      clear hPN hUs hh hsz hT hR0
                      go_wp2_with fail
                      refine HT.out.mono ?_; rintro e w1 ⟨rfl, hb⟩
                      have hs1 := hb.size
                      have HB1 := Lib.hid (HBL4.out.trans (hb.mono hwz4))
                      have HK1 := Lib.hid (HBK4.out.below hb hkl4)
                      clear hb
                      go_wp2_with fail
                      go_roundw
                      case rel => exact ⟨i + 1, hi1, by go_num, by rw [HPN.out], HB1, HK1⟩
                      case measure => simp [intOf]; omega
              · obtain rfl : i = ro.length := by omega
                rw [hQ]
                have HQE : Hid (Q = baX (A3 ++ itemsX rowX ro)) := Lib.hid (by rw [← hQ, HPE3.out])
                have hQs : Q.size ≤ 1000000000000 := by have := HPS3.out ro.length; rwa [hQ] at this
                clear hQ
                have HRE : Hid (Q ++ ⟨#[125, 10]⟩ = R) := Lib.hid (by rw [HZE.out, HQE.out])
                have hlitz0 : (⟨#[125, 10]⟩ : ByteArray).size = 2 := rfl
                have haddz0 : ∀ V : World, (Op.stringOp .add Q ⟨#[125, 10]⟩).run Tryz.prog V = .ok (.string (Q ++ ⟨#[125, 10]⟩)) V := fun V => run_string_add_sum V _ _ (by (repeat rw [ByteArray.size_append]); omega)
                clear hlitz0
                clear hQs
                go_wp2_with fail
                go_ret
                exact ⟨congrArg (fun z => Ending.returned (Value.string z)) HRE.out, HBL.out⟩

/-- The document's text of a right declaration. -/
theorem refDecl_any (x : DT) (p : DP) {lo hi : Nat} {w : World} (hd : declB x = true) (hz : FitsD x) (hL : (declX x).length ≤ 1000000000000) (h : IsDecl w lo hi x p) (hhi : hi ≤ w.heap.size) :
    Calls Tryz.prog 31 #[declV x p] w (StrIs (baX (declX x)) w) := by
  obtain ⟨K, h1, h2, h3, h4, h5, h6, h7, h8⟩ := declB_parts hd
  obtain ⟨z1, z2, z3, z4⟩ := hz
  obtain ⟨k, a, s, te, u, co, ro⟩ := x
  obtain rfl : k = (K : Int) := h1
  have g1 : ∀ y ∈ te, goodB y.t false = true ∧ y.t.size ≤ 8192 := fun y hy => ⟨(h5 y hy).2, z1 y hy⟩
  have g3 : ∀ y ∈ co, goodB y.t false = true ∧ y.t.size ≤ 8192 := fun y hy => ⟨(h7 y hy).2, z3 y hy⟩
  have g4 : ∀ y ∈ ro, (∀ t ∈ y.ps, goodB t true = true ∧ t.size ≤ 8192) ∧ (y.h = true → goodB y.t false = true ∧ y.t.size ≤ 8192) := fun y hy => ⟨fun t ht => ⟨(h8 y hy).1 t ht, (z4 y hy).1 t ht⟩, fun hh => ⟨(h8 y hy).2 hh, (z4 y hy).2⟩⟩
  rcases (show K = 1 ∨ K = 2 ∨ K = 3 by omega) with rfl | rfl | rfl
  · exact refDecl_1 a s te u co ro p.A p.a p.F p.C p.B p.b p.D p.d h hhi hL g1 ⟨h6, z2⟩ g3 g4
  · exact refDecl_2 a s te u co ro p.A p.a p.F p.C p.B p.b p.D p.d h hhi hL g1 ⟨h6, z2⟩ g3 g4
  · exact refDecl_3 a s te u co ro p.A p.a p.F p.C p.B p.b p.D p.d h hhi hL g1 ⟨h6, z2⟩ g3 g4

end Go.Proofs.YteaojmcfppbgiaaGreatDoor
