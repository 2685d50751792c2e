/- A result of any number of cells, stored into its block; bindings and rows that a reader's call hands back. No program. -/
import Derived.Test.YteaojmcfppbgiaaGreatDoorB7
import Derived.Test.YteaojmcfppbgiaaGreatDoorC6
import Derived.ProofKit
import Derived.Deep.RegionHeld3
import Derived.Test.YteaojmcfppbgiaaGreatDoorC4
namespace Go.Proofs.YteaojmcfppbgiaaGreatDoor
open Go.RowKit
set_option linter.unusedVariables false
set_option maxRecDepth 100000

/-- Values stored one behind the other, from cell i on. -/
def putL (w : World) (g : Nat) : Nat → List Value → World
  | _, [] => w
  | i, v :: l => putL (w.setCell ⟨g, i, none⟩ v) g (i + 1) l
theorem putL_size (g : Nat) : ∀ (l : List Value) (i : Nat) (w : World), (putL w g i l).heap.size = w.heap.size
  | [], _, _ => rfl
  | v :: l, i, w => by rw [putL, putL_size g l]; simp [World.setCell]
theorem putL_below {w : World} {B g : Nat} (hg : B ≤ g) : ∀ (l : List Value) (i : Nat) (V : World), Below B w V → Below B w (putL V g i l)
  | [], _, _, h => h
  | v :: l, i, V, h => by rw [putL]; exact putL_below hg l (i + 1) _ (h.setCell hg v)
theorem putL_kp {w : World} {r g : Nat} (hg : w.heap.size ≤ g) : ∀ (l : List Value) (i : Nat) (V : World), Kp r w V → Kp r w (putL V g i l)
  | [], _, _, h => h
  | v :: l, i, V, h => by rw [putL]; exact putL_kp hg l (i + 1) _ (h.setNew (a := ⟨g, i, none⟩) hg v)
theorem putL_other {g k : Nat} (hk : k ≠ g) : ∀ (l : List Value) (i : Nat) (V : World), (putL V g i l).heap[k]? = V.heap[k]?
  | [], _, _ => rfl
  | v :: l, i, V => by rw [putL, putL_other hk l]; exact Below.heap_setCell V ⟨g, i, none⟩ v k hk
theorem putL_bk {g : Nat} {ty : TypeId} : ∀ (l pre rest : List Value) (V : World), rest.length = l.length → Bk V g ty (pre ++ rest).toArray → Bk (putL V g pre.length l) g ty (pre ++ l).toArray
  | [], pre, rest, V, h, hb => by
    have : rest = [] := List.eq_nil_of_length_eq_zero h
    subst this; exact hb
  | v :: l, pre, [], V, h, hb => by simp at h
  | v :: l, pre, x :: rest, V, h, hb => by
    rw [putL]
    have h1 := hb.at_ pre.length v
    have e : ((pre ++ x :: rest).toArray).setIfInBounds pre.length v = ((pre ++ [v]) ++ rest).toArray := by
      simp [List.setIfInBounds_toArray]
    rw [e] at h1
    have h2 := putL_bk l (pre ++ [v]) rest _ (by simpa using h) h1
    simpa using h2
/-- The result's block, once all is stored. -/
theorem res_box {w V : World} {r g : Nat} {L : List Tk} {cap : Nat} {s' : St} {zs vs : List Value} {ty : TypeId} (hk : Kp r (w.alloc (.cells zs.toArray ty)) V) (hr : r < w.heap.size) (hrd : Rd V r g L cap s') (hl : zs.length = vs.length) :
    Bk V w.heap.size ty zs.toArray ∧ Bk (putL V w.heap.size 0 vs) w.heap.size ty vs.toArray ∧ Rd (putL V w.heap.size 0 vs) r g L cap s' ∧ Kp r w (putL V w.heap.size 0 vs) ∧ w.heap.size < V.heap.size ∧
    (∀ B W, W ≤ V.heap.size → w.heap.size < B → ∀ (t : RT) (A : Option Addr) (c : Nat), IsNode V B W t A c → IsNode (putL V w.heap.size 0 vs) w.heap.size (putL V w.heap.size 0 vs).heap.size t A c) ∧
    (∀ B W, W ≤ V.heap.size → w.heap.size < B → ∀ (l : List RT) (A : Option Addr), NodesAt V B W A l → NodesAt (putL V w.heap.size 0 vs) w.heap.size (putL V w.heap.size 0 vs).heap.size A l) := by
  have h0 := (Bk.new w ty zs.toArray).kp hk (by omega)
  have h1 := putL_bk vs [] zs V hl (by simpa using h0)
  have hcell : ∀ b o, w.heap.size < b → (putL V w.heap.size 0 vs).cell? ⟨b, o, none⟩ = V.cell? ⟨b, o, none⟩ := fun b o hb => World.cell?_of_block (a := ⟨b, o, none⟩) (putL_other (g := w.heap.size) (k := b) (Nat.ne_of_gt hb) vs 0 V)
  have hn : ∀ B W, W ≤ V.heap.size → w.heap.size < B → ∀ (t : RT) (A : Option Addr) (c : Nat), IsNode V B W t A c → IsNode (putL V w.heap.size 0 vs) w.heap.size (putL V w.heap.size 0 vs).heap.size t A c := fun B W hW hB t A c h => by
    rw [putL_size]
    exact h.imp (fun b o h1 h2 => hcell b o (by omega)) (by omega) hW
  refine ⟨h0, by simpa using h1, hrd.under (putL_below (Nat.le_refl _) vs 0 V (Below.refl _ _)) hr, putL_kp (Nat.le_refl _) vs 0 V (((Kp.refl r w).alloc _).trans hk), h0.lt, hn, fun B W hW hB l A h => ?_⟩
  intro i hi
  obtain ⟨b, o, F, C, hA, h1, h2, ⟨x0, x1, x2, x3, x4⟩, h4⟩ := h i hi
  refine ⟨b, o, F, C, hA, by omega, by rw [putL_size]; omega, ?_, hn B W hW hB _ _ _ h4⟩
  exact ⟨by rw [hcell _ _ (by omega), x0], by rw [hcell _ _ (by omega), x1], by rw [hcell _ _ (by omega), x2], by rw [hcell _ _ (by omega), x3], by rw [hcell _ _ (by omega), x4]⟩

/-- A binding, and the reader moved. -/
def BindR (x : BT) (r g : Nat) (L : List Tk) (cap : Nat) (s' : St) (w : World) (e : Ending) (w' : World) : Prop :=
  ∃ F C, e = .returned (bindV x F C) ∧ IsBind w' w.heap.size w'.heap.size x F C ∧ Rd w' r g L cap s' ∧ Kp r w w'
/-- A row, and the reader moved. -/
def RowR (x : CT) (r g : Nat) (L : List Tk) (cap : Nat) (s' : St) (w : World) (e : Ending) (w' : World) : Prop :=
  ∃ A c F C, e = .returned (rowV x A c F C) ∧ IsRow w' w.heap.size w'.heap.size x A c F C ∧ Rd w' r g L cap s' ∧ Kp r w w'
def OneB (f : Nat) (r g : Nat) (L : List Tk) (cap : Nat) (s : St) (x : BT) (s' : St) : Prop := ∀ w, Rd w r g L cap s → Calls Tryz.prog f #[.pointer (some ⟨r, 0, none⟩)] w (BindR x r g L cap s' w)
def OneR (f : Nat) (r g : Nat) (L : List Tk) (cap : Nat) (s : St) (x : CT) (s' : St) : Prop := ∀ w, Rd w r g L cap s → Calls Tryz.prog f #[.pointer (some ⟨r, 0, none⟩)] w (RowR x r g L cap s' w)
end Go.Proofs.YteaojmcfppbgiaaGreatDoor

/- parse: a name with its type; a binding; a constructor. -/
namespace Go.Proofs.YteaojmcfppbgiaaGreatDoor
open Go.RowKit
set_option linter.unusedVariables false
set_option maxRecDepth 100000

theorem Bk.c7 {w : World} {g : Nat} {e : TypeId} {c0 c1 c2 c3 c4 c5 c6 : Value} (h : Bk w g e #[c0, c1, c2, c3, c4, c5, c6]) :
    w.cell? ⟨g, 0, none⟩ = some c0 ∧ w.cell? ⟨g, 1, none⟩ = some c1 ∧ w.cell? ⟨g, 2, none⟩ = some c2 ∧ w.cell? ⟨g, 3, none⟩ = some c3 ∧ w.cell? ⟨g, 4, none⟩ = some c4 ∧ w.cell? ⟨g, 5, none⟩ = some c5 ∧ w.cell? ⟨g, 6, none⟩ = some c6 :=
  ⟨h.cell 0, h.cell 1, h.cell 2, h.cell 3, h.cell 4, h.cell 5, h.cell 6⟩

set_option maxHeartbeats 4000000 in
theorem typed_c {r g : Nat} {L : List Tk} {cap : Nat} {s s1 s2 s3 : St} {z : Nat} {t : RT} (hz : (nameS L s).k = z) (h1 : stepS L (nameS L s) = s1) (h2 : takeS L ⟨#[58]⟩ s1 = s2) (he : One 38 r g L cap s2 t s3) :
    OneB 169 r g L cap s ⟨(tk L z).2.1, (tk L z).2.2, t⟩ s3 := by
  intro w h
  have HR := Lib.hid h
  have hrl := h.bk.lt
  have HTX := Lib.hid (h.txt z)
  have HV := Lib.hid (fun V (hV : Rd V r g L cap s) => takeName_moves hV)
  have HT2 := Lib.hid (fun V (hV : Rd V r g L cap s1) => take_moves hV ⟨#[58]⟩)
  have HE := Lib.hid he
  unfold One TreeR nodeV at HE
  unfold tkV at HV
  rw [hz, h1] at HV
  rw [h2] at HT2
  unfold BindR
  clear h hz h1 h2 he
  go_enter Tryz.func169, Tryz.ntmps169
  go_wp2_with fail
  refine (HV.out _ (HR.out.alloc _)).mono ?_; rintro e w1 ⟨rfl, hr, hk⟩
  have hs1 := hk.size
  simp at hs1
  have HR1 := Lib.hid (hr.alloc (.cells #[.int .i64 (tk L z).1, .string (tk L z).2.1, .int .i64 (tk L z).2.2] 143))
  have HK1 := Lib.hid (hk.alloc (.cells #[.int .i64 (tk L z).1, .string (tk L z).2.1, .int .i64 (tk L z).2.2] 143))
  have BX1 := Lib.hid (Bk.new w1 143 #[.int .i64 (tk L z).1, .string (tk L z).2.1, .int .i64 (tk L z).2.2])
  clear hr hk
  go_wp2_with fail
  refine (HT2.out _ HR1.out).mono ?_; rintro e w2 ⟨rfl, hr, hk⟩
  have hs2 := hk.size
  try simp at hs2
  have HR2 := Lib.hid hr
  have HK2 := Lib.hid (HK1.out.trans hk)
  have BX2 := Lib.hid (BX1.out.kp hk (by omega))
  clear hr hk
  obtain ⟨b0, b1, b2⟩ := BX2.out.c3
  have hbl := BX2.out.lt
  have HRD := Lib.hid (HR2.out.below ((Below.refl _ _).drew))
  have HKD := Lib.hid (Kp.drew HK2.out)
  go_wp2_with fail
  first
  | (go_region_held3 (fun w' => w'.cell? ⟨w1.heap.size, 0, none⟩ = some (.int .i64 (tk L z).1) ∧ w'.cell? ⟨w1.heap.size, 1, none⟩ = some (.string (tk L z).2.1) ∧ w'.cell? ⟨w1.heap.size, 2, none⟩ = some (.int .i64 (tk L z).2.2))
      (first | go_keep | exact HKc.out)
      (first
        | (go_at_call 38
           refine (HE.out _ HRD.out).mono ?_
           rintro e w3 ⟨A3, c3, rfl, hn, hr, hk⟩
           have hs3 := hk.size
           try simp at hs3
           have HKc := Lib.hid (((show Bk w2.drew w1.heap.size 143 #[.int .i64 (tk L z).1, .string (tk L z).2.1, .int .i64 (tk L z).2.2] from BX2.out).kp hk (by omega)).c3)
           have hne : w.heap.size ≠ w1.heap.size := by omega
           obtain ⟨hb0, hbv, hrd, hkp, hl9, hnn, -⟩ := res_box (vs := [.string (tk L z).2.1, .int .i64 (tk L z).2.2, .int .i64 t.k, .int .i64 t.a, .string t.s, .int .i64 t.n, .slice A3 t.l.length c3]) (zs := [.string ⟨#[]⟩, .int .i64 0, .int .i64 0, .int .i64 0, .string ⟨#[]⟩, .int .i64 0, .slice none 0 0]) (HKD.out.trans hk) hrl hr rfl
           obtain ⟨d0, d1, d2, d3, d4, d5, d6⟩ := Bk.c7 hb0
           have hfz : ∀ o, w3.frozen? ⟨w.heap.size, o, none⟩ = false := fun o => hb0.cold o
           have HBV : Hid ((((((((w3.setCell ⟨w.heap.size, 0, none⟩ (.string (tk L z).2.1)).setCell ⟨w.heap.size, 1, none⟩ (.int .i64 (tk L z).2.2)).setCell ⟨w.heap.size, 2, none⟩ (.int .i64 t.k)).setCell ⟨w.heap.size, 3, none⟩ (.int .i64 t.a)).setCell ⟨w.heap.size, 4, none⟩ (.string t.s)).setCell ⟨w.heap.size, 5, none⟩ (.int .i64 t.n)).setCell ⟨w.heap.size, 6, none⟩ (.slice A3 t.l.length c3)).cell? ⟨w.heap.size, 0, none⟩ = some (.string (tk L z).2.1) ∧ (((((((w3.setCell ⟨w.heap.size, 0, none⟩ (.string (tk L z).2.1)).setCell ⟨w.heap.size, 1, none⟩ (.int .i64 (tk L z).2.2)).setCell ⟨w.heap.size, 2, none⟩ (.int .i64 t.k)).setCell ⟨w.heap.size, 3, none⟩ (.int .i64 t.a)).setCell ⟨w.heap.size, 4, none⟩ (.string t.s)).setCell ⟨w.heap.size, 5, none⟩ (.int .i64 t.n)).setCell ⟨w.heap.size, 6, none⟩ (.slice A3 t.l.length c3)).cell? ⟨w.heap.size, 1, none⟩ = some (.int .i64 (tk L z).2.2) ∧ (((((((w3.setCell ⟨w.heap.size, 0, none⟩ (.string (tk L z).2.1)).setCell ⟨w.heap.size, 1, none⟩ (.int .i64 (tk L z).2.2)).setCell ⟨w.heap.size, 2, none⟩ (.int .i64 t.k)).setCell ⟨w.heap.size, 3, none⟩ (.int .i64 t.a)).setCell ⟨w.heap.size, 4, none⟩ (.string t.s)).setCell ⟨w.heap.size, 5, none⟩ (.int .i64 t.n)).setCell ⟨w.heap.size, 6, none⟩ (.slice A3 t.l.length c3)).cell? ⟨w.heap.size, 2, none⟩ = some (.int .i64 t.k) ∧ (((((((w3.setCell ⟨w.heap.size, 0, none⟩ (.string (tk L z).2.1)).setCell ⟨w.heap.size, 1, none⟩ (.int .i64 (tk L z).2.2)).setCell ⟨w.heap.size, 2, none⟩ (.int .i64 t.k)).setCell ⟨w.heap.size, 3, none⟩ (.int .i64 t.a)).setCell ⟨w.heap.size, 4, none⟩ (.string t.s)).setCell ⟨w.heap.size, 5, none⟩ (.int .i64 t.n)).setCell ⟨w.heap.size, 6, none⟩ (.slice A3 t.l.length c3)).cell? ⟨w.heap.size, 3, none⟩ = some (.int .i64 t.a) ∧ (((((((w3.setCell ⟨w.heap.size, 0, none⟩ (.string (tk L z).2.1)).setCell ⟨w.heap.size, 1, none⟩ (.int .i64 (tk L z).2.2)).setCell ⟨w.heap.size, 2, none⟩ (.int .i64 t.k)).setCell ⟨w.heap.size, 3, none⟩ (.int .i64 t.a)).setCell ⟨w.heap.size, 4, none⟩ (.string t.s)).setCell ⟨w.heap.size, 5, none⟩ (.int .i64 t.n)).setCell ⟨w.heap.size, 6, none⟩ (.slice A3 t.l.length c3)).cell? ⟨w.heap.size, 4, none⟩ = some (.string t.s) ∧ (((((((w3.setCell ⟨w.heap.size, 0, none⟩ (.string (tk L z).2.1)).setCell ⟨w.heap.size, 1, none⟩ (.int .i64 (tk L z).2.2)).setCell ⟨w.heap.size, 2, none⟩ (.int .i64 t.k)).setCell ⟨w.heap.size, 3, none⟩ (.int .i64 t.a)).setCell ⟨w.heap.size, 4, none⟩ (.string t.s)).setCell ⟨w.heap.size, 5, none⟩ (.int .i64 t.n)).setCell ⟨w.heap.size, 6, none⟩ (.slice A3 t.l.length c3)).cell? ⟨w.heap.size, 5, none⟩ = some (.int .i64 t.n) ∧ (((((((w3.setCell ⟨w.heap.size, 0, none⟩ (.string (tk L z).2.1)).setCell ⟨w.heap.size, 1, none⟩ (.int .i64 (tk L z).2.2)).setCell ⟨w.heap.size, 2, none⟩ (.int .i64 t.k)).setCell ⟨w.heap.size, 3, none⟩ (.int .i64 t.a)).setCell ⟨w.heap.size, 4, none⟩ (.string t.s)).setCell ⟨w.heap.size, 5, none⟩ (.int .i64 t.n)).setCell ⟨w.heap.size, 6, none⟩ (.slice A3 t.l.length c3)).cell? ⟨w.heap.size, 6, none⟩ = some (.slice A3 t.l.length c3)) := Lib.hid (Bk.c7 hbv)
           have HRF := Lib.hid hrd
           have HKF := Lib.hid hkp
           have HNF := Lib.hid (hnn (w2.heap.size) w3.heap.size (Nat.le_refl _) (by omega) t A3 c3 hn)
           clear hb0 hbv hrd hkp hnn hn hr hk)))
  | fail
  all_goals
    go_wp2_with fail
    obtain ⟨v0, v1, v2, v3, v4, v5, v6⟩ := HBV.out
    have HQ0 := Lib.hid v0
    have HQ1 := Lib.hid v1
    have HQ2 := Lib.hid v2
    have HQ3 := Lib.hid v3
    have HQ4 := Lib.hid v4
    have HQ5 := Lib.hid v5
    have HQ6 := Lib.hid v6
    clear v0 v1 v2 v3 v4 v5 v6
    refine bodyPost_ret (v := .agg #[.string (tk L z).2.1, .int .i64 (tk L z).2.2, .int .i64 t.k, .int .i64 t.a, .string t.s, .int .i64 t.n, .slice A3 t.l.length c3]) (by simp [results, Tryz.results169, go_sem, HQ0.out, HQ1.out, HQ2.out, HQ3.out, HQ4.out, HQ5.out, HQ6.out]) rfl ?_
    exact ⟨A3, c3, rfl, ⟨HTX.out, HNF.out⟩, HRF.out, HKF.out⟩

set_option maxHeartbeats 4000000 in
theorem bind_c {r g : Nat} {L : List Tk} {cap : Nat} {s s1 s2 s3 : St} {x : BT} (h1 : takeS L ⟨#[40]⟩ s = s1) (ht : OneB 169 r g L cap s1 x s2) (h3 : takeS L ⟨#[41]⟩ s2 = s3) : OneB 132 r g L cap s x s3 := by
  intro w h
  have HR := Lib.hid h
  have hrl := h.bk.lt
  have HT := Lib.hid ht
  unfold OneB BindR bindV at HT
  have HT3 := Lib.hid (fun V (hV : Rd V r g L cap s2) => take_moves hV ⟨#[41]⟩)
  rw [h3] at HT3
  have HT1 := Lib.hid (fun V (hV : Rd V r g L cap s) => take_moves hV ⟨#[40]⟩)
  rw [h1] at HT1
  unfold BindR
  clear h h1 ht h3
  go_enter Tryz.func132, Tryz.ntmps132
  go_wp2_with fail
  refine (HT1.out _ (HR.out.alloc _)).mono ?_; rintro e w1 ⟨rfl, hr, hk⟩
  have hs1 := hk.size
  simp at hs1
  have HR1 := Lib.hid hr
  have HK1 := Lib.hid hk
  clear hr hk
  go_wp2_with fail
  refine (HT.out _ HR1.out).mono ?_; rintro e w2 ⟨F1, C1, rfl, hx, hr, hk⟩
  have hs2 := hk.size
  have HK2a := Lib.hid (HK1.out.trans hk)
  have HXS := Lib.hid hx.hs
  have HXN : Hid (IsNode w2 (w1.heap.size) w2.heap.size x.t F1 C1) := Lib.hid (by first | exact hx.hn | simpa using hx.hn)
  have HR2 := Lib.hid (hr.alloc (.cells #[.string x.s, .int .i64 x.a, .int .i64 x.t.k, .int .i64 x.t.a, .string x.t.s, .int .i64 x.t.n, .slice F1 x.t.l.length C1] 98))
  have HK2 := Lib.hid (HK2a.out.alloc (.cells #[.string x.s, .int .i64 x.a, .int .i64 x.t.k, .int .i64 x.t.a, .string x.t.s, .int .i64 x.t.n, .slice F1 x.t.l.length C1] 98))
  have BX2 := Lib.hid (Bk.new w2 98 #[.string x.s, .int .i64 x.a, .int .i64 x.t.k, .int .i64 x.t.a, .string x.t.s, .int .i64 x.t.n, .slice F1 x.t.l.length C1])
  clear hr hk hx
  go_wp2_with fail
  refine (HT3.out _ HR2.out).mono ?_; rintro e w3 ⟨rfl, hr, hk⟩
  have hs3 := hk.size
  try simp at hs3
  have BX3 := BX2.out.kp hk (by omega)
  obtain ⟨b0, b1, b2, b3, b4, b5, b6⟩ := BX3.c7
  have hbl := BX3.lt
  have hne : w.heap.size ≠ w2.heap.size := by omega
  obtain ⟨hb0, hbv, hrd, hkp, hl9, hnn, -⟩ := res_box (vs := [.string x.s, .int .i64 x.a, .int .i64 x.t.k, .int .i64 x.t.a, .string x.t.s, .int .i64 x.t.n, .slice F1 x.t.l.length C1]) (zs := [.string ⟨#[]⟩, .int .i64 0, .int .i64 0, .int .i64 0, .string ⟨#[]⟩, .int .i64 0, .slice none 0 0]) (HK2.out.trans hk) hrl hr rfl
  obtain ⟨d0, d1, d2, d3, d4, d5, d6⟩ := Bk.c7 hb0
  have hfz : ∀ o, w3.frozen? ⟨w.heap.size, o, none⟩ = false := fun o => hb0.cold o
  have HBV : Hid ((((((((w3.setCell ⟨w.heap.size, 0, none⟩ (.string x.s)).setCell ⟨w.heap.size, 1, none⟩ (.int .i64 x.a)).setCell ⟨w.heap.size, 2, none⟩ (.int .i64 x.t.k)).setCell ⟨w.heap.size, 3, none⟩ (.int .i64 x.t.a)).setCell ⟨w.heap.size, 4, none⟩ (.string x.t.s)).setCell ⟨w.heap.size, 5, none⟩ (.int .i64 x.t.n)).setCell ⟨w.heap.size, 6, none⟩ (.slice F1 x.t.l.length C1)).cell? ⟨w.heap.size, 0, none⟩ = some (.string x.s) ∧ (((((((w3.setCell ⟨w.heap.size, 0, none⟩ (.string x.s)).setCell ⟨w.heap.size, 1, none⟩ (.int .i64 x.a)).setCell ⟨w.heap.size, 2, none⟩ (.int .i64 x.t.k)).setCell ⟨w.heap.size, 3, none⟩ (.int .i64 x.t.a)).setCell ⟨w.heap.size, 4, none⟩ (.string x.t.s)).setCell ⟨w.heap.size, 5, none⟩ (.int .i64 x.t.n)).setCell ⟨w.heap.size, 6, none⟩ (.slice F1 x.t.l.length C1)).cell? ⟨w.heap.size, 1, none⟩ = some (.int .i64 x.a) ∧ (((((((w3.setCell ⟨w.heap.size, 0, none⟩ (.string x.s)).setCell ⟨w.heap.size, 1, none⟩ (.int .i64 x.a)).setCell ⟨w.heap.size, 2, none⟩ (.int .i64 x.t.k)).setCell ⟨w.heap.size, 3, none⟩ (.int .i64 x.t.a)).setCell ⟨w.heap.size, 4, none⟩ (.string x.t.s)).setCell ⟨w.heap.size, 5, none⟩ (.int .i64 x.t.n)).setCell ⟨w.heap.size, 6, none⟩ (.slice F1 x.t.l.length C1)).cell? ⟨w.heap.size, 2, none⟩ = some (.int .i64 x.t.k) ∧ (((((((w3.setCell ⟨w.heap.size, 0, none⟩ (.string x.s)).setCell ⟨w.heap.size, 1, none⟩ (.int .i64 x.a)).setCell ⟨w.heap.size, 2, none⟩ (.int .i64 x.t.k)).setCell ⟨w.heap.size, 3, none⟩ (.int .i64 x.t.a)).setCell ⟨w.heap.size, 4, none⟩ (.string x.t.s)).setCell ⟨w.heap.size, 5, none⟩ (.int .i64 x.t.n)).setCell ⟨w.heap.size, 6, none⟩ (.slice F1 x.t.l.length C1)).cell? ⟨w.heap.size, 3, none⟩ = some (.int .i64 x.t.a) ∧ (((((((w3.setCell ⟨w.heap.size, 0, none⟩ (.string x.s)).setCell ⟨w.heap.size, 1, none⟩ (.int .i64 x.a)).setCell ⟨w.heap.size, 2, none⟩ (.int .i64 x.t.k)).setCell ⟨w.heap.size, 3, none⟩ (.int .i64 x.t.a)).setCell ⟨w.heap.size, 4, none⟩ (.string x.t.s)).setCell ⟨w.heap.size, 5, none⟩ (.int .i64 x.t.n)).setCell ⟨w.heap.size, 6, none⟩ (.slice F1 x.t.l.length C1)).cell? ⟨w.heap.size, 4, none⟩ = some (.string x.t.s) ∧ (((((((w3.setCell ⟨w.heap.size, 0, none⟩ (.string x.s)).setCell ⟨w.heap.size, 1, none⟩ (.int .i64 x.a)).setCell ⟨w.heap.size, 2, none⟩ (.int .i64 x.t.k)).setCell ⟨w.heap.size, 3, none⟩ (.int .i64 x.t.a)).setCell ⟨w.heap.size, 4, none⟩ (.string x.t.s)).setCell ⟨w.heap.size, 5, none⟩ (.int .i64 x.t.n)).setCell ⟨w.heap.size, 6, none⟩ (.slice F1 x.t.l.length C1)).cell? ⟨w.heap.size, 5, none⟩ = some (.int .i64 x.t.n) ∧ (((((((w3.setCell ⟨w.heap.size, 0, none⟩ (.string x.s)).setCell ⟨w.heap.size, 1, none⟩ (.int .i64 x.a)).setCell ⟨w.heap.size, 2, none⟩ (.int .i64 x.t.k)).setCell ⟨w.heap.size, 3, none⟩ (.int .i64 x.t.a)).setCell ⟨w.heap.size, 4, none⟩ (.string x.t.s)).setCell ⟨w.heap.size, 5, none⟩ (.int .i64 x.t.n)).setCell ⟨w.heap.size, 6, none⟩ (.slice F1 x.t.l.length C1)).cell? ⟨w.heap.size, 6, none⟩ = some (.slice F1 x.t.l.length C1)) := Lib.hid (Bk.c7 hbv)
  have HRF := Lib.hid hrd
  have HKF := Lib.hid hkp
  have HNF := Lib.hid (hnn (w1.heap.size) w2.heap.size (by omega) (by omega) x.t F1 C1 ((HXN.out.alloc (Nat.le_refl _) (.cells #[.string x.s, .int .i64 x.a, .int .i64 x.t.k, .int .i64 x.t.a, .string x.t.s, .int .i64 x.t.n, .slice F1 x.t.l.length C1] 98)).kp hk (by simp) (by omega)))
  clear hb0 hbv hrd hkp hnn hr hk BX3
  go_wp2_with fail
  obtain ⟨v0, v1, v2, v3, v4, v5, v6⟩ := HBV.out
  have HQ0 := Lib.hid v0
  have HQ1 := Lib.hid v1
  have HQ2 := Lib.hid v2
  have HQ3 := Lib.hid v3
  have HQ4 := Lib.hid v4
  have HQ5 := Lib.hid v5
  have HQ6 := Lib.hid v6
  clear v0 v1 v2 v3 v4 v5 v6
  refine bodyPost_ret (v := .agg #[.string x.s, .int .i64 x.a, .int .i64 x.t.k, .int .i64 x.t.a, .string x.t.s, .int .i64 x.t.n, .slice F1 x.t.l.length C1]) (by simp [results, Tryz.results132, go_sem, HQ0.out, HQ1.out, HQ2.out, HQ3.out, HQ4.out, HQ5.out, HQ6.out]) rfl ?_
  exact ⟨F1, C1, rfl, ⟨HXS.out, HNF.out⟩, HRF.out, HKF.out⟩

set_option maxHeartbeats 4000000 in
theorem con_c {r g : Nat} {L : List Tk} {cap : Nat} {s s1 s2 s3 : St} {x : BT} (ht : OneB 169 r g L cap s x s2) (h3 : takeS L ⟨#[59]⟩ s2 = s3) : OneB 137 r g L cap s x s3 := by
  intro w h
  have HR := Lib.hid h
  have hrl := h.bk.lt
  have HT := Lib.hid ht
  unfold OneB BindR bindV at HT
  have HT3 := Lib.hid (fun V (hV : Rd V r g L cap s2) => take_moves hV ⟨#[59]⟩)
  rw [h3] at HT3
  unfold BindR
  clear h ht h3
  go_enter Tryz.func137, Tryz.ntmps137
  go_wp2_with fail
  refine (HT.out _ (HR.out.alloc _)).mono ?_; rintro e w2 ⟨F1, C1, rfl, hx, hr, hk⟩
  have hs2 := hk.size
  simp at hs2
  have HK2a := Lib.hid hk
  have HXS := Lib.hid hx.hs
  have HXN : Hid (IsNode w2 (w.heap.size + 1) w2.heap.size x.t F1 C1) := Lib.hid (by first | exact hx.hn | simpa using hx.hn)
  have HR2 := Lib.hid (hr.alloc (.cells #[.string x.s, .int .i64 x.a, .int .i64 x.t.k, .int .i64 x.t.a, .string x.t.s, .int .i64 x.t.n, .slice F1 x.t.l.length C1] 98))
  have HK2 := Lib.hid (HK2a.out.alloc (.cells #[.string x.s, .int .i64 x.a, .int .i64 x.t.k, .int .i64 x.t.a, .string x.t.s, .int .i64 x.t.n, .slice F1 x.t.l.length C1] 98))
  have BX2 := Lib.hid (Bk.new w2 98 #[.string x.s, .int .i64 x.a, .int .i64 x.t.k, .int .i64 x.t.a, .string x.t.s, .int .i64 x.t.n, .slice F1 x.t.l.length C1])
  clear hr hk hx
  go_wp2_with fail
  refine (HT3.out _ HR2.out).mono ?_; rintro e w3 ⟨rfl, hr, hk⟩
  have hs3 := hk.size
  try simp at hs3
  have BX3 := BX2.out.kp hk (by omega)
  obtain ⟨b0, b1, b2, b3, b4, b5, b6⟩ := BX3.c7
  have hbl := BX3.lt
  have hne : w.heap.size ≠ w2.heap.size := by omega
  obtain ⟨hb0, hbv, hrd, hkp, hl9, hnn, -⟩ := res_box (vs := [.string x.s, .int .i64 x.a, .int .i64 x.t.k, .int .i64 x.t.a, .string x.t.s, .int .i64 x.t.n, .slice F1 x.t.l.length C1]) (zs := [.string ⟨#[]⟩, .int .i64 0, .int .i64 0, .int .i64 0, .string ⟨#[]⟩, .int .i64 0, .slice none 0 0]) (HK2.out.trans hk) hrl hr rfl
  obtain ⟨d0, d1, d2, d3, d4, d5, d6⟩ := Bk.c7 hb0
  have hfz : ∀ o, w3.frozen? ⟨w.heap.size, o, none⟩ = false := fun o => hb0.cold o
  have HBV : Hid ((((((((w3.setCell ⟨w.heap.size, 0, none⟩ (.string x.s)).setCell ⟨w.heap.size, 1, none⟩ (.int .i64 x.a)).setCell ⟨w.heap.size, 2, none⟩ (.int .i64 x.t.k)).setCell ⟨w.heap.size, 3, none⟩ (.int .i64 x.t.a)).setCell ⟨w.heap.size, 4, none⟩ (.string x.t.s)).setCell ⟨w.heap.size, 5, none⟩ (.int .i64 x.t.n)).setCell ⟨w.heap.size, 6, none⟩ (.slice F1 x.t.l.length C1)).cell? ⟨w.heap.size, 0, none⟩ = some (.string x.s) ∧ (((((((w3.setCell ⟨w.heap.size, 0, none⟩ (.string x.s)).setCell ⟨w.heap.size, 1, none⟩ (.int .i64 x.a)).setCell ⟨w.heap.size, 2, none⟩ (.int .i64 x.t.k)).setCell ⟨w.heap.size, 3, none⟩ (.int .i64 x.t.a)).setCell ⟨w.heap.size, 4, none⟩ (.string x.t.s)).setCell ⟨w.heap.size, 5, none⟩ (.int .i64 x.t.n)).setCell ⟨w.heap.size, 6, none⟩ (.slice F1 x.t.l.length C1)).cell? ⟨w.heap.size, 1, none⟩ = some (.int .i64 x.a) ∧ (((((((w3.setCell ⟨w.heap.size, 0, none⟩ (.string x.s)).setCell ⟨w.heap.size, 1, none⟩ (.int .i64 x.a)).setCell ⟨w.heap.size, 2, none⟩ (.int .i64 x.t.k)).setCell ⟨w.heap.size, 3, none⟩ (.int .i64 x.t.a)).setCell ⟨w.heap.size, 4, none⟩ (.string x.t.s)).setCell ⟨w.heap.size, 5, none⟩ (.int .i64 x.t.n)).setCell ⟨w.heap.size, 6, none⟩ (.slice F1 x.t.l.length C1)).cell? ⟨w.heap.size, 2, none⟩ = some (.int .i64 x.t.k) ∧ (((((((w3.setCell ⟨w.heap.size, 0, none⟩ (.string x.s)).setCell ⟨w.heap.size, 1, none⟩ (.int .i64 x.a)).setCell ⟨w.heap.size, 2, none⟩ (.int .i64 x.t.k)).setCell ⟨w.heap.size, 3, none⟩ (.int .i64 x.t.a)).setCell ⟨w.heap.size, 4, none⟩ (.string x.t.s)).setCell ⟨w.heap.size, 5, none⟩ (.int .i64 x.t.n)).setCell ⟨w.heap.size, 6, none⟩ (.slice F1 x.t.l.length C1)).cell? ⟨w.heap.size, 3, none⟩ = some (.int .i64 x.t.a) ∧ (((((((w3.setCell ⟨w.heap.size, 0, none⟩ (.string x.s)).setCell ⟨w.heap.size, 1, none⟩ (.int .i64 x.a)).setCell ⟨w.heap.size, 2, none⟩ (.int .i64 x.t.k)).setCell ⟨w.heap.size, 3, none⟩ (.int .i64 x.t.a)).setCell ⟨w.heap.size, 4, none⟩ (.string x.t.s)).setCell ⟨w.heap.size, 5, none⟩ (.int .i64 x.t.n)).setCell ⟨w.heap.size, 6, none⟩ (.slice F1 x.t.l.length C1)).cell? ⟨w.heap.size, 4, none⟩ = some (.string x.t.s) ∧ (((((((w3.setCell ⟨w.heap.size, 0, none⟩ (.string x.s)).setCell ⟨w.heap.size, 1, none⟩ (.int .i64 x.a)).setCell ⟨w.heap.size, 2, none⟩ (.int .i64 x.t.k)).setCell ⟨w.heap.size, 3, none⟩ (.int .i64 x.t.a)).setCell ⟨w.heap.size, 4, none⟩ (.string x.t.s)).setCell ⟨w.heap.size, 5, none⟩ (.int .i64 x.t.n)).setCell ⟨w.heap.size, 6, none⟩ (.slice F1 x.t.l.length C1)).cell? ⟨w.heap.size, 5, none⟩ = some (.int .i64 x.t.n) ∧ (((((((w3.setCell ⟨w.heap.size, 0, none⟩ (.string x.s)).setCell ⟨w.heap.size, 1, none⟩ (.int .i64 x.a)).setCell ⟨w.heap.size, 2, none⟩ (.int .i64 x.t.k)).setCell ⟨w.heap.size, 3, none⟩ (.int .i64 x.t.a)).setCell ⟨w.heap.size, 4, none⟩ (.string x.t.s)).setCell ⟨w.heap.size, 5, none⟩ (.int .i64 x.t.n)).setCell ⟨w.heap.size, 6, none⟩ (.slice F1 x.t.l.length C1)).cell? ⟨w.heap.size, 6, none⟩ = some (.slice F1 x.t.l.length C1)) := Lib.hid (Bk.c7 hbv)
  have HRF := Lib.hid hrd
  have HKF := Lib.hid hkp
  have HNF := Lib.hid (hnn (w.heap.size + 1) w2.heap.size (by omega) (by omega) x.t F1 C1 ((HXN.out.alloc (Nat.le_refl _) (.cells #[.string x.s, .int .i64 x.a, .int .i64 x.t.k, .int .i64 x.t.a, .string x.t.s, .int .i64 x.t.n, .slice F1 x.t.l.length C1] 98)).kp hk (by simp) (by omega)))
  clear hb0 hbv hrd hkp hnn hr hk BX3
  go_wp2_with fail
  obtain ⟨v0, v1, v2, v3, v4, v5, v6⟩ := HBV.out
  have HQ0 := Lib.hid v0
  have HQ1 := Lib.hid v1
  have HQ2 := Lib.hid v2
  have HQ3 := Lib.hid v3
  have HQ4 := Lib.hid v4
  have HQ5 := Lib.hid v5
  have HQ6 := Lib.hid v6
  clear v0 v1 v2 v3 v4 v5 v6
  refine bodyPost_ret (v := .agg #[.string x.s, .int .i64 x.a, .int .i64 x.t.k, .int .i64 x.t.a, .string x.t.s, .int .i64 x.t.n, .slice F1 x.t.l.length C1]) (by simp [results, Tryz.results137, go_sem, HQ0.out, HQ1.out, HQ2.out, HQ3.out, HQ4.out, HQ5.out, HQ6.out]) rfl ?_
  exact ⟨F1, C1, rfl, ⟨HXS.out, HNF.out⟩, HRF.out, HKF.out⟩

end Go.Proofs.YteaojmcfppbgiaaGreatDoor

/- parse: a row. -/
namespace Go.Proofs.YteaojmcfppbgiaaGreatDoor
open Go.RowKit
set_option linter.unusedVariables false
set_option maxRecDepth 100000

theorem Bk.c8 {w : World} {g : Nat} {e : TypeId} {c0 c1 c2 c3 c4 c5 c6 c7 : Value} (h : Bk w g e #[c0, c1, c2, c3, c4, c5, c6, c7]) :
    w.cell? ⟨g, 0, none⟩ = some c0 ∧ w.cell? ⟨g, 1, none⟩ = some c1 ∧ w.cell? ⟨g, 2, none⟩ = some c2 ∧ w.cell? ⟨g, 3, none⟩ = some c3 ∧ w.cell? ⟨g, 4, none⟩ = some c4 ∧ w.cell? ⟨g, 5, none⟩ = some c5 ∧ w.cell? ⟨g, 6, none⟩ = some c6 ∧ w.cell? ⟨g, 7, none⟩ = some c7 :=
  ⟨h.cell 0, h.cell 1, h.cell 2, h.cell 3, h.cell 4, h.cell 5, h.cell 6, h.cell 7⟩
theorem putL_mid {g : Nat} {ty : TypeId} : ∀ (l pre old post : List Value) (V : World), old.length = l.length → Bk V g ty (pre ++ (old ++ post)).toArray → Bk (putL V g pre.length l) g ty (pre ++ (l ++ post)).toArray
  | [], pre, old, post, V, h, hb => by
    have : old = [] := List.eq_nil_of_length_eq_zero h
    subst this; exact hb
  | v :: l, pre, [], post, V, h, hb => by simp at h
  | v :: l, pre, x :: old, post, V, h, hb => by
    rw [putL]
    have h1 := hb.at_ pre.length v
    have e : ((pre ++ (x :: old ++ post)).toArray).setIfInBounds pre.length v = ((pre ++ [v]) ++ (old ++ post)).toArray := by
      simp [List.setIfInBounds_toArray]
    rw [e] at h1
    have h2 := putL_mid l (pre ++ [v]) old post _ (by simpa using h) h1
    simpa using h2
/-- Values stored into a box of the call's own. -/
theorem put_box {w V : World} {r g : Nat} {L : List Tk} {cap : Nat} {s' : St} {B : Nat} {ty : TypeId} (l pre old post : List Value) (i : Nat) (hi : i = pre.length) (hk : Kp r w V) (hB : w.heap.size ≤ B) (hr : r < w.heap.size) (hrd : Rd V r g L cap s') (ho : old.length = l.length) (hb : Bk V B ty (pre ++ (old ++ post)).toArray) :
    Rd (putL V B i l) r g L cap s' ∧ Kp r w (putL V B i l) ∧ Bk (putL V B i l) B ty (pre ++ (l ++ post)).toArray ∧ (putL V B i l).heap.size = V.heap.size ∧ (∀ b o, b ≠ B → (putL V B i l).cell? ⟨b, o, none⟩ = V.cell? ⟨b, o, none⟩) := by
  subst hi
  exact ⟨hrd.under (putL_below hB l _ V (Below.refl _ _)) hr, putL_kp hB l _ V hk, putL_mid l pre old post V ho hb, putL_size B l _ V, fun b o hb' => World.cell?_of_block (a := ⟨b, o, none⟩) (putL_other (g := B) (k := b) hb' l _ V)⟩
theorem IsNode.cells {w w' : World} {lo hi : Nat} {t : RT} {A : Option Addr} {c : Nat} (h : IsNode w lo hi t A c) {lo' hi' : Nat} (hc : ∀ b o, lo ≤ b → b < hi → w'.cell? ⟨b, o, none⟩ = w.cell? ⟨b, o, none⟩) (h1 : lo' ≤ lo) (h2 : hi ≤ hi') : IsNode w' lo' hi' t A c := h.imp hc h1 h2
theorem NodesAt.cells {w w' : World} {lo hi : Nat} {A : Option Addr} {l : List RT} (h : NodesAt w lo hi A l) {lo' hi' : Nat} (hc : ∀ b o, lo ≤ b → b < hi → w'.cell? ⟨b, o, none⟩ = w.cell? ⟨b, o, none⟩) (h1 : lo' ≤ lo) (h2 : hi ≤ hi') : NodesAt w' lo' hi' A l := by
  intro i hi0
  obtain ⟨b, o, F, C, hA, h3, h4, ⟨x0, x1, x2, x3, x4⟩, h6⟩ := h i hi0
  exact ⟨b, o, F, C, hA, by omega, by omega, ⟨by rw [hc _ _ h3 h4, x0], by rw [hc _ _ h3 h4, x1], by rw [hc _ _ h3 h4, x2], by rw [hc _ _ h3 h4, x3], by rw [hc _ _ h3 h4, x4]⟩, h6.cells hc h1 h2⟩
theorem NodesAt.kpw {w w' : World} {lo hi r : Nat} {A : Option Addr} {l : List RT} (h : NodesAt w lo hi A l) (hk : Kp r w w') (hhi : hi ≤ w.heap.size) (hr : r < lo) : NodesAt w' lo hi A l :=
  h.cells (fun b o h1 h2 => hk.cell o (by omega) (by omega)) (Nat.le_refl _) (Nat.le_refl _)
def zeroT : RT := .node 0 0 ⟨#[]⟩ 0 []

set_option maxHeartbeats 8000000 in
theorem row_body {r g : Nat} {L : List Tk} {cap : Nat} {s s1 s2 s3 s4 : St} {l : List RT} {t : RT} (hc : Chain L (One 82 r g L cap) (ptB L) 24 0 s l s1) (hm : mkB L s1.k ⟨#[61]⟩ = true) (he2 : One 38 r g L cap s2 t s3) (hs2 : stepS L s1 = s2) (h4 : takeS L ⟨#[59]⟩ s3 = s4) : OneR 136 r g L cap s ⟨(tk L s.k).2.2, l, true, t⟩ s4 := by
  intro w h
  have HR := Lib.hid h
  have hrl := h.bk.lt
  have HP := Lib.hid (fun V (hV : Rd V r g L cap s) => patterns_c hV hc)
  unfold ListR at HP
  have HM := Lib.hid (fun V (hV : Rd V r g L cap s1) => mark_tells hV ⟨#[61]⟩)
  rw [hm] at HM
  have HS := Lib.hid (fun V (hV : Rd V r g L cap s1) => step_moves hV)
  rw [hs2] at HS
  unfold tkV at HS
  have HE := Lib.hid he2
  unfold One TreeR nodeV at HE
  have HT := Lib.hid (fun V (hV : Rd V r g L cap s3) => take_moves hV ⟨#[59]⟩)
  rw [h4] at HT
  obtain ⟨m, c, h0, h1, h2, h3, hmm, hcc⟩ := h.sz
  obtain ⟨x0, x1, x2, t0, t1, t2⟩ := h.cells hmm hcc
  have hgl := h.toks.lt
  have hm0 : (0 : Int) < (m : Int) := by omega
  unfold maxLen at h3
  obtain ⟨k3, hk3⟩ : ∃ x, s.k * 3 = x := ⟨_, rfl⟩
  rw [hk3] at x0 t0 t1 t2
  obtain ⟨y, hy⟩ : ∃ x : Nat, (tk L s.k).2.2 = x := ⟨_, rfl⟩
  rw [hy] at t2 ⊢
  clear h hc hm h4 hmm hcc hk3 t0 t1 hy hs2 he2
  unfold RowR
  go_enter Tryz.func136, Tryz.ntmps136
  go_wp2_with fail
  refine (HP.out _ ((HR.out.alloc (.cells #[.int .i64 0, .slice none 0 0, .bool false, .int .i64 0, .int .i64 0, .string ⟨#[]⟩, .int .i64 0, .slice none 0 0] 64)).alloc (.cells #[.int .i64 y, .slice none 0 0, .bool false, .int .i64 0, .int .i64 0, .string ⟨#[]⟩, .int .i64 0, .slice none 0 0] 64))).mono ?_; rintro e w1 ⟨A1, c1, rfl, hl1, hl2, hns, hr, hk⟩
  have hs1 := hk.size
  simp at hs1
  have HLA := Lib.hid hl1
  have HLB := Lib.hid hl2
  have HN1 : Hid (NodesAt w1 (w.heap.size + 2) w1.heap.size A1 l) := Lib.hid (by simpa using hns)
  have HR1 := Lib.hid hr
  have HKZ := Lib.hid (((Kp.refl r (w.alloc (.cells #[.int .i64 0, .slice none 0 0, .bool false, .int .i64 0, .int .i64 0, .string ⟨#[]⟩, .int .i64 0, .slice none 0 0] 64))).alloc (.cells #[.int .i64 y, .slice none 0 0, .bool false, .int .i64 0, .int .i64 0, .string ⟨#[]⟩, .int .i64 0, .slice none 0 0] 64)).trans hk)
  have HK1 := Lib.hid ((((Kp.refl r w).alloc (.cells #[.int .i64 0, .slice none 0 0, .bool false, .int .i64 0, .int .i64 0, .string ⟨#[]⟩, .int .i64 0, .slice none 0 0] 64)).alloc (.cells #[.int .i64 y, .slice none 0 0, .bool false, .int .i64 0, .int .i64 0, .string ⟨#[]⟩, .int .i64 0, .slice none 0 0] 64)).trans hk)
  have BX1 : Hid (Bk w1 (w.heap.size + 1) 64 #[.int .i64 y, .slice none 0 0, .bool false, .int .i64 0, .int .i64 0, .string ⟨#[]⟩, .int .i64 0, .slice none 0 0]) := Lib.hid ((by have := Bk.new (w.alloc (.cells #[.int .i64 0, .slice none 0 0, .bool false, .int .i64 0, .int .i64 0, .string ⟨#[]⟩, .int .i64 0, .slice none 0 0] 64)) 64 #[.int .i64 y, .slice none 0 0, .bool false, .int .i64 0, .int .i64 0, .string ⟨#[]⟩, .int .i64 0, .slice none 0 0]; simpa using this : Bk ((w.alloc (.cells #[.int .i64 0, .slice none 0 0, .bool false, .int .i64 0, .int .i64 0, .string ⟨#[]⟩, .int .i64 0, .slice none 0 0] 64)).alloc (.cells #[.int .i64 y, .slice none 0 0, .bool false, .int .i64 0, .int .i64 0, .string ⟨#[]⟩, .int .i64 0, .slice none 0 0] 64)) (w.heap.size + 1) 64 #[.int .i64 y, .slice none 0 0, .bool false, .int .i64 0, .int .i64 0, .string ⟨#[]⟩, .int .i64 0, .slice none 0 0]).kp hk (by omega))
  have hbz1 : ∀ o, w1.frozen? ⟨w.heap.size + 1, o, none⟩ = false := fun o => BX1.out.cold o
  obtain ⟨e0, e1, e2, e3, e4, e5, e6, e7⟩ := BX1.out.c8
  have hbl1 := BX1.out.lt
  clear hl1 hl2 hns hr hk
  obtain ⟨hp1, hp2, hp3, hp4, hp5⟩ := put_box (w := w) [.slice A1 l.length c1] [.int .i64 y] [.slice none 0 0] [.bool false, .int .i64 0, .int .i64 0, .string ⟨#[]⟩, .int .i64 0, .slice none 0 0] 1 rfl HK1.out (by omega) hrl HR1.out rfl BX1.out
  obtain ⟨w2, hw2⟩ : ∃ W, (w1.setCell ⟨w.heap.size + 1, 1, none⟩ (.slice A1 l.length c1)) = W := ⟨_, rfl⟩
  change Rd (w1.setCell ⟨w.heap.size + 1, 1, none⟩ (.slice A1 l.length c1)) _ _ _ _ _ at hp1
  change Kp _ _ (w1.setCell ⟨w.heap.size + 1, 1, none⟩ (.slice A1 l.length c1)) at hp2
  change Bk (w1.setCell ⟨w.heap.size + 1, 1, none⟩ (.slice A1 l.length c1)) _ _ _ at hp3
  change (w1.setCell ⟨w.heap.size + 1, 1, none⟩ (.slice A1 l.length c1)).heap.size = _ at hp4
  change ∀ b o, b ≠ w.heap.size + 1 → (w1.setCell ⟨w.heap.size + 1, 1, none⟩ (.slice A1 l.length c1)).cell? _ = _ at hp5
  rw [hw2] at hp1 hp2 hp3 hp4 hp5
  have HR2 := Lib.hid hp1
  have HK2 := Lib.hid hp2
  have BX2 : Hid (Bk w2 (w.heap.size + 1) 64 #[.int .i64 y, .slice A1 l.length c1, .bool false, .int .i64 0, .int .i64 0, .string ⟨#[]⟩, .int .i64 0, .slice none 0 0]) := Lib.hid hp3
  have hsz2 := hp4
  have HN2 : Hid (NodesAt w2 (w.heap.size + 2) w2.heap.size A1 l) := Lib.hid (HN1.out.cells (fun b o h1 h2 => hp5 b o (by omega)) (Nat.le_refl _) (by omega))
  have HKZ2 : Hid (Kp r (w.alloc (.cells #[.int .i64 0, .slice none 0 0, .bool false, .int .i64 0, .int .i64 0, .string ⟨#[]⟩, .int .i64 0, .slice none 0 0] 64)) w2) := Lib.hid (by rw [← hw2]; exact HKZ.out.setNew (by simp) _)
  have HW2 := Lib.hid hw2
  clear hp1 hp2 hp3 hp4 hp5 hw2
  clear HN1 HKZ
  go_wp2_with fail
  rw [HW2.out]
  refine (HM.out _ HR2.out).mono ?_; rintro e w' ⟨rfl, rfl⟩
  obtain ⟨f0, f1, f2, f3, f4, f5, f6, f7⟩ := BX2.out.c8
  have hbl2 := BX2.out.lt
  have hbz2 : ∀ o, w2.frozen? ⟨w.heap.size + 1, o, none⟩ = false := fun o => BX2.out.cold o
  clear e0 e1 e2 e3 e4 e5 e6 e7 HW2
  go_wp2_with fail
  refine (HS.out _ HR2.out).mono ?_; rintro e w3 ⟨rfl, hr, hk⟩
  have hs3 := hk.size
  have HR3 := Lib.hid hr
  have HK3 := Lib.hid (HK2.out.trans hk)
  have HKZ3 := Lib.hid (HKZ2.out.trans hk)
  have HN3 : Hid (NodesAt w3 (w.heap.size + 2) w3.heap.size A1 l) := Lib.hid ((HN2.out.kpw hk (Nat.le_refl _) (by omega)).wide (Nat.le_refl _) hs3)
  have BX3 := Lib.hid (BX2.out.kp hk (by omega))
  obtain ⟨e0, e1, e2, e3, e4, e5, e6, e7⟩ := BX3.out.c8
  have hbl3 := BX3.out.lt
  have hbz3 : ∀ o, w3.frozen? ⟨w.heap.size + 1, o, none⟩ = false := fun o => BX3.out.cold o
  clear hr hk HN2 HKZ2
  obtain ⟨hp1, hp2, hp3, hp4, hp5⟩ := put_box (w := w) [.bool true] [.int .i64 y, .slice A1 l.length c1] [.bool false] [.int .i64 0, .int .i64 0, .string ⟨#[]⟩, .int .i64 0, .slice none 0 0] 2 rfl HK3.out (by omega) hrl HR3.out rfl BX3.out
  obtain ⟨w4, hw4⟩ : ∃ W, (w3.setCell ⟨w.heap.size + 1, 2, none⟩ (.bool true)) = W := ⟨_, rfl⟩
  change Rd (w3.setCell ⟨w.heap.size + 1, 2, none⟩ (.bool true)) _ _ _ _ _ at hp1
  change Kp _ _ (w3.setCell ⟨w.heap.size + 1, 2, none⟩ (.bool true)) at hp2
  change Bk (w3.setCell ⟨w.heap.size + 1, 2, none⟩ (.bool true)) _ _ _ at hp3
  change (w3.setCell ⟨w.heap.size + 1, 2, none⟩ (.bool true)).heap.size = _ at hp4
  change ∀ b o, b ≠ w.heap.size + 1 → (w3.setCell ⟨w.heap.size + 1, 2, none⟩ (.bool true)).cell? _ = _ at hp5
  rw [hw4] at hp1 hp2 hp3 hp4 hp5
  have HR4 := Lib.hid hp1
  have HK4 := Lib.hid hp2
  have BX4 : Hid (Bk w4 (w.heap.size + 1) 64 #[.int .i64 y, .slice A1 l.length c1, .bool true, .int .i64 0, .int .i64 0, .string ⟨#[]⟩, .int .i64 0, .slice none 0 0]) := Lib.hid hp3
  have hsz4 := hp4
  have HN4 : Hid (NodesAt w4 (w.heap.size + 2) w4.heap.size A1 l) := Lib.hid (HN3.out.cells (fun b o h1 h2 => hp5 b o (by omega)) (Nat.le_refl _) (by omega))
  have HKZ4 : Hid (Kp r (w.alloc (.cells #[.int .i64 0, .slice none 0 0, .bool false, .int .i64 0, .int .i64 0, .string ⟨#[]⟩, .int .i64 0, .slice none 0 0] 64)) w4) := Lib.hid (by rw [← hw4]; exact HKZ3.out.setNew (by simp) _)
  have HW4 := Lib.hid hw4
  clear hp1 hp2 hp3 hp4 hp5 hw4
  clear HN3 HKZ3
  go_wp2_with fail
  rw [HW4.out]
  refine (HE.out _ HR4.out).mono ?_; rintro e w5 ⟨A5, c5, rfl, hn, hr, hk⟩
  have hs5 := hk.size
  have HR5 := Lib.hid hr
  have HK5 := Lib.hid (HK4.out.trans hk)
  have HKZ5 := Lib.hid (HKZ4.out.trans hk)
  have HN5 : Hid (NodesAt w5 (w.heap.size + 2) w5.heap.size A1 l) := Lib.hid ((HN4.out.kpw hk (Nat.le_refl _) (by omega)).wide (Nat.le_refl _) hs5)
  have HT5 : Hid (IsNode w5 (w.heap.size + 2) w5.heap.size t A5 c5) := Lib.hid (hn.wide (by omega) (Nat.le_refl _))
  have BX5 := Lib.hid (BX4.out.kp hk (by omega))
  obtain ⟨g0, g1, g2, g3, g4, g5, g6, g7⟩ := BX5.out.c8
  have hbl5 := BX5.out.lt
  have hbz5 : ∀ o, w5.frozen? ⟨w.heap.size + 1, o, none⟩ = false := fun o => BX5.out.cold o
  clear hn hr hk HN4 HKZ4 HW4
  obtain ⟨hp1, hp2, hp3, hp4, hp5⟩ := put_box (w := w) [.int .i64 t.k, .int .i64 t.a, .string t.s, .int .i64 t.n, .slice A5 t.l.length c5] [.int .i64 y, .slice A1 l.length c1, .bool true] [.int .i64 0, .int .i64 0, .string ⟨#[]⟩, .int .i64 0, .slice none 0 0] [] 3 rfl HK5.out (by omega) hrl HR5.out rfl BX5.out
  obtain ⟨w6, hw6⟩ : ∃ W, (((((w5.setCell ⟨w.heap.size + 1, 3, none⟩ (.int .i64 t.k)).setCell ⟨w.heap.size + 1, 4, none⟩ (.int .i64 t.a)).setCell ⟨w.heap.size + 1, 5, none⟩ (.string t.s)).setCell ⟨w.heap.size + 1, 6, none⟩ (.int .i64 t.n)).setCell ⟨w.heap.size + 1, 7, none⟩ (.slice A5 t.l.length c5)) = W := ⟨_, rfl⟩
  change Rd (((((w5.setCell ⟨w.heap.size + 1, 3, none⟩ (.int .i64 t.k)).setCell ⟨w.heap.size + 1, 4, none⟩ (.int .i64 t.a)).setCell ⟨w.heap.size + 1, 5, none⟩ (.string t.s)).setCell ⟨w.heap.size + 1, 6, none⟩ (.int .i64 t.n)).setCell ⟨w.heap.size + 1, 7, none⟩ (.slice A5 t.l.length c5)) _ _ _ _ _ at hp1
  change Kp _ _ (((((w5.setCell ⟨w.heap.size + 1, 3, none⟩ (.int .i64 t.k)).setCell ⟨w.heap.size + 1, 4, none⟩ (.int .i64 t.a)).setCell ⟨w.heap.size + 1, 5, none⟩ (.string t.s)).setCell ⟨w.heap.size + 1, 6, none⟩ (.int .i64 t.n)).setCell ⟨w.heap.size + 1, 7, none⟩ (.slice A5 t.l.length c5)) at hp2
  change Bk (((((w5.setCell ⟨w.heap.size + 1, 3, none⟩ (.int .i64 t.k)).setCell ⟨w.heap.size + 1, 4, none⟩ (.int .i64 t.a)).setCell ⟨w.heap.size + 1, 5, none⟩ (.string t.s)).setCell ⟨w.heap.size + 1, 6, none⟩ (.int .i64 t.n)).setCell ⟨w.heap.size + 1, 7, none⟩ (.slice A5 t.l.length c5)) _ _ _ at hp3
  change (((((w5.setCell ⟨w.heap.size + 1, 3, none⟩ (.int .i64 t.k)).setCell ⟨w.heap.size + 1, 4, none⟩ (.int .i64 t.a)).setCell ⟨w.heap.size + 1, 5, none⟩ (.string t.s)).setCell ⟨w.heap.size + 1, 6, none⟩ (.int .i64 t.n)).setCell ⟨w.heap.size + 1, 7, none⟩ (.slice A5 t.l.length c5)).heap.size = _ at hp4
  change ∀ b o, b ≠ w.heap.size + 1 → (((((w5.setCell ⟨w.heap.size + 1, 3, none⟩ (.int .i64 t.k)).setCell ⟨w.heap.size + 1, 4, none⟩ (.int .i64 t.a)).setCell ⟨w.heap.size + 1, 5, none⟩ (.string t.s)).setCell ⟨w.heap.size + 1, 6, none⟩ (.int .i64 t.n)).setCell ⟨w.heap.size + 1, 7, none⟩ (.slice A5 t.l.length c5)).cell? _ = _ at hp5
  rw [hw6] at hp1 hp2 hp3 hp4 hp5
  have HR6 := Lib.hid hp1
  have HK6 := Lib.hid hp2
  have BX6 : Hid (Bk w6 (w.heap.size + 1) 64 #[.int .i64 y, .slice A1 l.length c1, .bool true, .int .i64 t.k, .int .i64 t.a, .string t.s, .int .i64 t.n, .slice A5 t.l.length c5]) := Lib.hid hp3
  have hsz6 := hp4
  have HN6 : Hid (NodesAt w6 (w.heap.size + 2) w6.heap.size A1 l) := Lib.hid (HN5.out.cells (fun b o h1 h2 => hp5 b o (by omega)) (Nat.le_refl _) (by omega))
  have HT6 : Hid (IsNode w6 (w.heap.size + 2) w6.heap.size t A5 c5) := Lib.hid (HT5.out.cells (fun b o h1 h2 => hp5 b o (by omega)) (Nat.le_refl _) (by omega))
  have HKZ6 : Hid (Kp r (w.alloc (.cells #[.int .i64 0, .slice none 0 0, .bool false, .int .i64 0, .int .i64 0, .string ⟨#[]⟩, .int .i64 0, .slice none 0 0] 64)) w6) := Lib.hid (by rw [← hw6]; exact ((((HKZ5.out.setNew (by simp) _).setNew (by simp) _).setNew (by simp) _).setNew (by simp) _).setNew (by simp) _)
  have HW6 := Lib.hid hw6
  clear hp1 hp2 hp3 hp4 hp5 hw6
  clear HN5 HT5 HKZ5
  go_wp2_with fail
  rw [HW6.out]
  refine (HT.out _ HR6.out).mono ?_; rintro e w7 ⟨rfl, hr, hk⟩
  have hs7 := hk.size
  have BX7 := BX6.out.kp hk (by omega)
  obtain ⟨q0, q1, q2, q3, q4, q5, q6, q7⟩ := BX7.c8
  have hbl7 := BX7.lt
  obtain ⟨hb0, hbv, hrd, hkp, hl9, hnn, hnl⟩ := res_box (vs := [.int .i64 y, .slice A1 l.length c1, .bool true, .int .i64 t.k, .int .i64 t.a, .string t.s, .int .i64 t.n, .slice A5 t.l.length c5]) (zs := [.int .i64 0, .slice none 0 0, .bool false, .int .i64 0, .int .i64 0, .string ⟨#[]⟩, .int .i64 0, .slice none 0 0]) (HKZ6.out.trans hk) hrl hr rfl
  obtain ⟨d0, d1, d2, d3, d4, d5, d6, d7⟩ := Bk.c8 hb0
  have hfz : ∀ o, w7.frozen? ⟨w.heap.size, o, none⟩ = false := fun o => hb0.cold o
  have HBV : Hid (((((((((w7.setCell ⟨w.heap.size, 0, none⟩ (.int .i64 y)).setCell ⟨w.heap.size, 1, none⟩ (.slice A1 l.length c1)).setCell ⟨w.heap.size, 2, none⟩ (.bool true)).setCell ⟨w.heap.size, 3, none⟩ (.int .i64 t.k)).setCell ⟨w.heap.size, 4, none⟩ (.int .i64 t.a)).setCell ⟨w.heap.size, 5, none⟩ (.string t.s)).setCell ⟨w.heap.size, 6, none⟩ (.int .i64 t.n)).setCell ⟨w.heap.size, 7, none⟩ (.slice A5 t.l.length c5)).cell? ⟨w.heap.size, 0, none⟩ = some (.int .i64 y) ∧ ((((((((w7.setCell ⟨w.heap.size, 0, none⟩ (.int .i64 y)).setCell ⟨w.heap.size, 1, none⟩ (.slice A1 l.length c1)).setCell ⟨w.heap.size, 2, none⟩ (.bool true)).setCell ⟨w.heap.size, 3, none⟩ (.int .i64 t.k)).setCell ⟨w.heap.size, 4, none⟩ (.int .i64 t.a)).setCell ⟨w.heap.size, 5, none⟩ (.string t.s)).setCell ⟨w.heap.size, 6, none⟩ (.int .i64 t.n)).setCell ⟨w.heap.size, 7, none⟩ (.slice A5 t.l.length c5)).cell? ⟨w.heap.size, 1, none⟩ = some (.slice A1 l.length c1) ∧ ((((((((w7.setCell ⟨w.heap.size, 0, none⟩ (.int .i64 y)).setCell ⟨w.heap.size, 1, none⟩ (.slice A1 l.length c1)).setCell ⟨w.heap.size, 2, none⟩ (.bool true)).setCell ⟨w.heap.size, 3, none⟩ (.int .i64 t.k)).setCell ⟨w.heap.size, 4, none⟩ (.int .i64 t.a)).setCell ⟨w.heap.size, 5, none⟩ (.string t.s)).setCell ⟨w.heap.size, 6, none⟩ (.int .i64 t.n)).setCell ⟨w.heap.size, 7, none⟩ (.slice A5 t.l.length c5)).cell? ⟨w.heap.size, 2, none⟩ = some (.bool true) ∧ ((((((((w7.setCell ⟨w.heap.size, 0, none⟩ (.int .i64 y)).setCell ⟨w.heap.size, 1, none⟩ (.slice A1 l.length c1)).setCell ⟨w.heap.size, 2, none⟩ (.bool true)).setCell ⟨w.heap.size, 3, none⟩ (.int .i64 t.k)).setCell ⟨w.heap.size, 4, none⟩ (.int .i64 t.a)).setCell ⟨w.heap.size, 5, none⟩ (.string t.s)).setCell ⟨w.heap.size, 6, none⟩ (.int .i64 t.n)).setCell ⟨w.heap.size, 7, none⟩ (.slice A5 t.l.length c5)).cell? ⟨w.heap.size, 3, none⟩ = some (.int .i64 t.k) ∧ ((((((((w7.setCell ⟨w.heap.size, 0, none⟩ (.int .i64 y)).setCell ⟨w.heap.size, 1, none⟩ (.slice A1 l.length c1)).setCell ⟨w.heap.size, 2, none⟩ (.bool true)).setCell ⟨w.heap.size, 3, none⟩ (.int .i64 t.k)).setCell ⟨w.heap.size, 4, none⟩ (.int .i64 t.a)).setCell ⟨w.heap.size, 5, none⟩ (.string t.s)).setCell ⟨w.heap.size, 6, none⟩ (.int .i64 t.n)).setCell ⟨w.heap.size, 7, none⟩ (.slice A5 t.l.length c5)).cell? ⟨w.heap.size, 4, none⟩ = some (.int .i64 t.a) ∧ ((((((((w7.setCell ⟨w.heap.size, 0, none⟩ (.int .i64 y)).setCell ⟨w.heap.size, 1, none⟩ (.slice A1 l.length c1)).setCell ⟨w.heap.size, 2, none⟩ (.bool true)).setCell ⟨w.heap.size, 3, none⟩ (.int .i64 t.k)).setCell ⟨w.heap.size, 4, none⟩ (.int .i64 t.a)).setCell ⟨w.heap.size, 5, none⟩ (.string t.s)).setCell ⟨w.heap.size, 6, none⟩ (.int .i64 t.n)).setCell ⟨w.heap.size, 7, none⟩ (.slice A5 t.l.length c5)).cell? ⟨w.heap.size, 5, none⟩ = some (.string t.s) ∧ ((((((((w7.setCell ⟨w.heap.size, 0, none⟩ (.int .i64 y)).setCell ⟨w.heap.size, 1, none⟩ (.slice A1 l.length c1)).setCell ⟨w.heap.size, 2, none⟩ (.bool true)).setCell ⟨w.heap.size, 3, none⟩ (.int .i64 t.k)).setCell ⟨w.heap.size, 4, none⟩ (.int .i64 t.a)).setCell ⟨w.heap.size, 5, none⟩ (.string t.s)).setCell ⟨w.heap.size, 6, none⟩ (.int .i64 t.n)).setCell ⟨w.heap.size, 7, none⟩ (.slice A5 t.l.length c5)).cell? ⟨w.heap.size, 6, none⟩ = some (.int .i64 t.n) ∧ ((((((((w7.setCell ⟨w.heap.size, 0, none⟩ (.int .i64 y)).setCell ⟨w.heap.size, 1, none⟩ (.slice A1 l.length c1)).setCell ⟨w.heap.size, 2, none⟩ (.bool true)).setCell ⟨w.heap.size, 3, none⟩ (.int .i64 t.k)).setCell ⟨w.heap.size, 4, none⟩ (.int .i64 t.a)).setCell ⟨w.heap.size, 5, none⟩ (.string t.s)).setCell ⟨w.heap.size, 6, none⟩ (.int .i64 t.n)).setCell ⟨w.heap.size, 7, none⟩ (.slice A5 t.l.length c5)).cell? ⟨w.heap.size, 7, none⟩ = some (.slice A5 t.l.length c5)) := Lib.hid (Bk.c8 hbv)
  have HRF := Lib.hid hrd
  have HKF := Lib.hid hkp
  have HNL := Lib.hid (hnl (w.heap.size + 2) w6.heap.size (by omega) (by omega) l A1 (HN6.out.kpw hk (Nat.le_refl _) (by omega)))
  have HNT := Lib.hid (hnn (w.heap.size + 2) w6.heap.size (by omega) (by omega) t A5 c5 (HT6.out.kp hk (Nat.le_refl _) (by omega)))
  clear hb0 hbv hrd hkp hnn hnl hr hk BX7
  go_wp2_with fail
  obtain ⟨v0, v1, v2, v3, v4, v5, v6, v7⟩ := HBV.out
  have HQ0 := Lib.hid v0
  have HQ1 := Lib.hid v1
  have HQ2 := Lib.hid v2
  have HQ3 := Lib.hid v3
  have HQ4 := Lib.hid v4
  have HQ5 := Lib.hid v5
  have HQ6 := Lib.hid v6
  have HQ7 := Lib.hid v7
  clear v0 v1 v2 v3 v4 v5 v6 v7
  refine bodyPost_ret (v := .agg #[.int .i64 y, .slice A1 l.length c1, .bool true, .int .i64 t.k, .int .i64 t.a, .string t.s, .int .i64 t.n, .slice A5 t.l.length c5]) (by simp [results, Tryz.results136, go_sem, HQ0.out, HQ1.out, HQ2.out, HQ3.out, HQ4.out, HQ5.out, HQ6.out, HQ7.out]) rfl ?_
  exact ⟨A1, c1, A5, c5, rfl, ⟨HLA.out, HLB.out, HNL.out, HNT.out⟩, HRF.out, HKF.out⟩

set_option maxHeartbeats 8000000 in
theorem row_none {r g : Nat} {L : List Tk} {cap : Nat} {s s1 s2 s3 s4 : St} {l : List RT} {t : RT} (hc : Chain L (One 82 r g L cap) (ptB L) 24 0 s l s1) (hm : mkB L s1.k ⟨#[61]⟩ = false) (h4 : takeS L ⟨#[59]⟩ s1 = s4) : OneR 136 r g L cap s ⟨(tk L s.k).2.2, l, false, zeroT⟩ s4 := by
  intro w h
  have HR := Lib.hid h
  have hrl := h.bk.lt
  have HP := Lib.hid (fun V (hV : Rd V r g L cap s) => patterns_c hV hc)
  unfold ListR at HP
  have HM := Lib.hid (fun V (hV : Rd V r g L cap s1) => mark_tells hV ⟨#[61]⟩)
  rw [hm] at HM
  have HT := Lib.hid (fun V (hV : Rd V r g L cap s1) => take_moves hV ⟨#[59]⟩)
  rw [h4] at HT
  obtain ⟨m, c, h0, h1, h2, h3, hmm, hcc⟩ := h.sz
  obtain ⟨x0, x1, x2, t0, t1, t2⟩ := h.cells hmm hcc
  have hgl := h.toks.lt
  have hm0 : (0 : Int) < (m : Int) := by omega
  unfold maxLen at h3
  obtain ⟨k3, hk3⟩ : ∃ x, s.k * 3 = x := ⟨_, rfl⟩
  rw [hk3] at x0 t0 t1 t2
  obtain ⟨y, hy⟩ : ∃ x : Nat, (tk L s.k).2.2 = x := ⟨_, rfl⟩
  rw [hy] at t2 ⊢
  clear h hc hm h4 hmm hcc hk3 t0 t1 hy 
  unfold RowR
  go_enter Tryz.func136, Tryz.ntmps136
  go_wp2_with fail
  refine (HP.out _ ((HR.out.alloc (.cells #[.int .i64 0, .slice none 0 0, .bool false, .int .i64 0, .int .i64 0, .string ⟨#[]⟩, .int .i64 0, .slice none 0 0] 64)).alloc (.cells #[.int .i64 y, .slice none 0 0, .bool false, .int .i64 0, .int .i64 0, .string ⟨#[]⟩, .int .i64 0, .slice none 0 0] 64))).mono ?_; rintro e w1 ⟨A1, c1, rfl, hl1, hl2, hns, hr, hk⟩
  have hs1 := hk.size
  simp at hs1
  have HLA := Lib.hid hl1
  have HLB := Lib.hid hl2
  have HN1 : Hid (NodesAt w1 (w.heap.size + 2) w1.heap.size A1 l) := Lib.hid (by simpa using hns)
  have HR1 := Lib.hid hr
  have HKZ := Lib.hid (((Kp.refl r (w.alloc (.cells #[.int .i64 0, .slice none 0 0, .bool false, .int .i64 0, .int .i64 0, .string ⟨#[]⟩, .int .i64 0, .slice none 0 0] 64))).alloc (.cells #[.int .i64 y, .slice none 0 0, .bool false, .int .i64 0, .int .i64 0, .string ⟨#[]⟩, .int .i64 0, .slice none 0 0] 64)).trans hk)
  have HK1 := Lib.hid ((((Kp.refl r w).alloc (.cells #[.int .i64 0, .slice none 0 0, .bool false, .int .i64 0, .int .i64 0, .string ⟨#[]⟩, .int .i64 0, .slice none 0 0] 64)).alloc (.cells #[.int .i64 y, .slice none 0 0, .bool false, .int .i64 0, .int .i64 0, .string ⟨#[]⟩, .int .i64 0, .slice none 0 0] 64)).trans hk)
  have BX1 : Hid (Bk w1 (w.heap.size + 1) 64 #[.int .i64 y, .slice none 0 0, .bool false, .int .i64 0, .int .i64 0, .string ⟨#[]⟩, .int .i64 0, .slice none 0 0]) := Lib.hid ((by have := Bk.new (w.alloc (.cells #[.int .i64 0, .slice none 0 0, .bool false, .int .i64 0, .int .i64 0, .string ⟨#[]⟩, .int .i64 0, .slice none 0 0] 64)) 64 #[.int .i64 y, .slice none 0 0, .bool false, .int .i64 0, .int .i64 0, .string ⟨#[]⟩, .int .i64 0, .slice none 0 0]; simpa using this : Bk ((w.alloc (.cells #[.int .i64 0, .slice none 0 0, .bool false, .int .i64 0, .int .i64 0, .string ⟨#[]⟩, .int .i64 0, .slice none 0 0] 64)).alloc (.cells #[.int .i64 y, .slice none 0 0, .bool false, .int .i64 0, .int .i64 0, .string ⟨#[]⟩, .int .i64 0, .slice none 0 0] 64)) (w.heap.size + 1) 64 #[.int .i64 y, .slice none 0 0, .bool false, .int .i64 0, .int .i64 0, .string ⟨#[]⟩, .int .i64 0, .slice none 0 0]).kp hk (by omega))
  have hbz1 : ∀ o, w1.frozen? ⟨w.heap.size + 1, o, none⟩ = false := fun o => BX1.out.cold o
  obtain ⟨e0, e1, e2, e3, e4, e5, e6, e7⟩ := BX1.out.c8
  have hbl1 := BX1.out.lt
  clear hl1 hl2 hns hr hk
  obtain ⟨hp1, hp2, hp3, hp4, hp5⟩ := put_box (w := w) [.slice A1 l.length c1] [.int .i64 y] [.slice none 0 0] [.bool false, .int .i64 0, .int .i64 0, .string ⟨#[]⟩, .int .i64 0, .slice none 0 0] 1 rfl HK1.out (by omega) hrl HR1.out rfl BX1.out
  obtain ⟨w2, hw2⟩ : ∃ W, (w1.setCell ⟨w.heap.size + 1, 1, none⟩ (.slice A1 l.length c1)) = W := ⟨_, rfl⟩
  change Rd (w1.setCell ⟨w.heap.size + 1, 1, none⟩ (.slice A1 l.length c1)) _ _ _ _ _ at hp1
  change Kp _ _ (w1.setCell ⟨w.heap.size + 1, 1, none⟩ (.slice A1 l.length c1)) at hp2
  change Bk (w1.setCell ⟨w.heap.size + 1, 1, none⟩ (.slice A1 l.length c1)) _ _ _ at hp3
  change (w1.setCell ⟨w.heap.size + 1, 1, none⟩ (.slice A1 l.length c1)).heap.size = _ at hp4
  change ∀ b o, b ≠ w.heap.size + 1 → (w1.setCell ⟨w.heap.size + 1, 1, none⟩ (.slice A1 l.length c1)).cell? _ = _ at hp5
  rw [hw2] at hp1 hp2 hp3 hp4 hp5
  have HR2 := Lib.hid hp1
  have HK2 := Lib.hid hp2
  have BX2 : Hid (Bk w2 (w.heap.size + 1) 64 #[.int .i64 y, .slice A1 l.length c1, .bool false, .int .i64 0, .int .i64 0, .string ⟨#[]⟩, .int .i64 0, .slice none 0 0]) := Lib.hid hp3
  have hsz2 := hp4
  have HN2 : Hid (NodesAt w2 (w.heap.size + 2) w2.heap.size A1 l) := Lib.hid (HN1.out.cells (fun b o h1 h2 => hp5 b o (by omega)) (Nat.le_refl _) (by omega))
  have HKZ2 : Hid (Kp r (w.alloc (.cells #[.int .i64 0, .slice none 0 0, .bool false, .int .i64 0, .int .i64 0, .string ⟨#[]⟩, .int .i64 0, .slice none 0 0] 64)) w2) := Lib.hid (by rw [← hw2]; exact HKZ.out.setNew (by simp) _)
  have HW2 := Lib.hid hw2
  clear hp1 hp2 hp3 hp4 hp5 hw2
  clear HN1 HKZ
  go_wp2_with fail
  rw [HW2.out]
  refine (HM.out _ HR2.out).mono ?_; rintro e w' ⟨rfl, rfl⟩
  obtain ⟨f0, f1, f2, f3, f4, f5, f6, f7⟩ := BX2.out.c8
  have hbl2 := BX2.out.lt
  have hbz2 : ∀ o, w2.frozen? ⟨w.heap.size + 1, o, none⟩ = false := fun o => BX2.out.cold o
  clear e0 e1 e2 e3 e4 e5 e6 e7 HW2
  go_wp2_with fail
  refine (HT.out _ HR2.out).mono ?_; rintro e w3 ⟨rfl, hr, hk⟩
  have hs3 := hk.size
  have BX3 := BX2.out.kp hk (by omega)
  obtain ⟨q0, q1, q2, q3, q4, q5, q6, q7⟩ := BX3.c8
  have hbl3 := BX3.lt
  obtain ⟨hb0, hbv, hrd, hkp, hl9, hnn, hnl⟩ := res_box (vs := [.int .i64 y, .slice A1 l.length c1, .bool false, .int .i64 0, .int .i64 0, .string ⟨#[]⟩, .int .i64 0, .slice none 0 0]) (zs := [.int .i64 0, .slice none 0 0, .bool false, .int .i64 0, .int .i64 0, .string ⟨#[]⟩, .int .i64 0, .slice none 0 0]) (HKZ2.out.trans hk) hrl hr rfl
  obtain ⟨d0, d1, d2, d3, d4, d5, d6, d7⟩ := Bk.c8 hb0
  have hfz : ∀ o, w3.frozen? ⟨w.heap.size, o, none⟩ = false := fun o => hb0.cold o
  have HBV : Hid (((((((((w3.setCell ⟨w.heap.size, 0, none⟩ (.int .i64 y)).setCell ⟨w.heap.size, 1, none⟩ (.slice A1 l.length c1)).setCell ⟨w.heap.size, 2, none⟩ (.bool false)).setCell ⟨w.heap.size, 3, none⟩ (.int .i64 0)).setCell ⟨w.heap.size, 4, none⟩ (.int .i64 0)).setCell ⟨w.heap.size, 5, none⟩ (.string ⟨#[]⟩)).setCell ⟨w.heap.size, 6, none⟩ (.int .i64 0)).setCell ⟨w.heap.size, 7, none⟩ (.slice none 0 0)).cell? ⟨w.heap.size, 0, none⟩ = some (.int .i64 y) ∧ ((((((((w3.setCell ⟨w.heap.size, 0, none⟩ (.int .i64 y)).setCell ⟨w.heap.size, 1, none⟩ (.slice A1 l.length c1)).setCell ⟨w.heap.size, 2, none⟩ (.bool false)).setCell ⟨w.heap.size, 3, none⟩ (.int .i64 0)).setCell ⟨w.heap.size, 4, none⟩ (.int .i64 0)).setCell ⟨w.heap.size, 5, none⟩ (.string ⟨#[]⟩)).setCell ⟨w.heap.size, 6, none⟩ (.int .i64 0)).setCell ⟨w.heap.size, 7, none⟩ (.slice none 0 0)).cell? ⟨w.heap.size, 1, none⟩ = some (.slice A1 l.length c1) ∧ ((((((((w3.setCell ⟨w.heap.size, 0, none⟩ (.int .i64 y)).setCell ⟨w.heap.size, 1, none⟩ (.slice A1 l.length c1)).setCell ⟨w.heap.size, 2, none⟩ (.bool false)).setCell ⟨w.heap.size, 3, none⟩ (.int .i64 0)).setCell ⟨w.heap.size, 4, none⟩ (.int .i64 0)).setCell ⟨w.heap.size, 5, none⟩ (.string ⟨#[]⟩)).setCell ⟨w.heap.size, 6, none⟩ (.int .i64 0)).setCell ⟨w.heap.size, 7, none⟩ (.slice none 0 0)).cell? ⟨w.heap.size, 2, none⟩ = some (.bool false) ∧ ((((((((w3.setCell ⟨w.heap.size, 0, none⟩ (.int .i64 y)).setCell ⟨w.heap.size, 1, none⟩ (.slice A1 l.length c1)).setCell ⟨w.heap.size, 2, none⟩ (.bool false)).setCell ⟨w.heap.size, 3, none⟩ (.int .i64 0)).setCell ⟨w.heap.size, 4, none⟩ (.int .i64 0)).setCell ⟨w.heap.size, 5, none⟩ (.string ⟨#[]⟩)).setCell ⟨w.heap.size, 6, none⟩ (.int .i64 0)).setCell ⟨w.heap.size, 7, none⟩ (.slice none 0 0)).cell? ⟨w.heap.size, 3, none⟩ = some (.int .i64 0) ∧ ((((((((w3.setCell ⟨w.heap.size, 0, none⟩ (.int .i64 y)).setCell ⟨w.heap.size, 1, none⟩ (.slice A1 l.length c1)).setCell ⟨w.heap.size, 2, none⟩ (.bool false)).setCell ⟨w.heap.size, 3, none⟩ (.int .i64 0)).setCell ⟨w.heap.size, 4, none⟩ (.int .i64 0)).setCell ⟨w.heap.size, 5, none⟩ (.string ⟨#[]⟩)).setCell ⟨w.heap.size, 6, none⟩ (.int .i64 0)).setCell ⟨w.heap.size, 7, none⟩ (.slice none 0 0)).cell? ⟨w.heap.size, 4, none⟩ = some (.int .i64 0) ∧ ((((((((w3.setCell ⟨w.heap.size, 0, none⟩ (.int .i64 y)).setCell ⟨w.heap.size, 1, none⟩ (.slice A1 l.length c1)).setCell ⟨w.heap.size, 2, none⟩ (.bool false)).setCell ⟨w.heap.size, 3, none⟩ (.int .i64 0)).setCell ⟨w.heap.size, 4, none⟩ (.int .i64 0)).setCell ⟨w.heap.size, 5, none⟩ (.string ⟨#[]⟩)).setCell ⟨w.heap.size, 6, none⟩ (.int .i64 0)).setCell ⟨w.heap.size, 7, none⟩ (.slice none 0 0)).cell? ⟨w.heap.size, 5, none⟩ = some (.string ⟨#[]⟩) ∧ ((((((((w3.setCell ⟨w.heap.size, 0, none⟩ (.int .i64 y)).setCell ⟨w.heap.size, 1, none⟩ (.slice A1 l.length c1)).setCell ⟨w.heap.size, 2, none⟩ (.bool false)).setCell ⟨w.heap.size, 3, none⟩ (.int .i64 0)).setCell ⟨w.heap.size, 4, none⟩ (.int .i64 0)).setCell ⟨w.heap.size, 5, none⟩ (.string ⟨#[]⟩)).setCell ⟨w.heap.size, 6, none⟩ (.int .i64 0)).setCell ⟨w.heap.size, 7, none⟩ (.slice none 0 0)).cell? ⟨w.heap.size, 6, none⟩ = some (.int .i64 0) ∧ ((((((((w3.setCell ⟨w.heap.size, 0, none⟩ (.int .i64 y)).setCell ⟨w.heap.size, 1, none⟩ (.slice A1 l.length c1)).setCell ⟨w.heap.size, 2, none⟩ (.bool false)).setCell ⟨w.heap.size, 3, none⟩ (.int .i64 0)).setCell ⟨w.heap.size, 4, none⟩ (.int .i64 0)).setCell ⟨w.heap.size, 5, none⟩ (.string ⟨#[]⟩)).setCell ⟨w.heap.size, 6, none⟩ (.int .i64 0)).setCell ⟨w.heap.size, 7, none⟩ (.slice none 0 0)).cell? ⟨w.heap.size, 7, none⟩ = some (.slice none 0 0)) := Lib.hid (Bk.c8 hbv)
  have HRF := Lib.hid hrd
  have HKF := Lib.hid hkp
  have HNL := Lib.hid (hnl (w.heap.size + 2) w2.heap.size (by omega) (by omega) l A1 (HN2.out.kpw hk (Nat.le_refl _) (by omega)))
  have HNT := Lib.hid trivial
  clear hb0 hbv hrd hkp hnn hnl hr hk BX3
  go_wp2_with fail
  obtain ⟨v0, v1, v2, v3, v4, v5, v6, v7⟩ := HBV.out
  have HQ0 := Lib.hid v0
  have HQ1 := Lib.hid v1
  have HQ2 := Lib.hid v2
  have HQ3 := Lib.hid v3
  have HQ4 := Lib.hid v4
  have HQ5 := Lib.hid v5
  have HQ6 := Lib.hid v6
  have HQ7 := Lib.hid v7
  clear v0 v1 v2 v3 v4 v5 v6 v7
  refine bodyPost_ret (v := .agg #[.int .i64 y, .slice A1 l.length c1, .bool false, .int .i64 0, .int .i64 0, .string ⟨#[]⟩, .int .i64 0, .slice none 0 0]) (by simp [results, Tryz.results136, go_sem, HQ0.out, HQ1.out, HQ2.out, HQ3.out, HQ4.out, HQ5.out, HQ6.out, HQ7.out]) rfl ?_
  exact ⟨A1, c1, none, 0, rfl, ⟨HLA.out, HLB.out, HNL.out, node_leaf _ _ _ _ (by decide)⟩, HRF.out, HKF.out⟩

end Go.Proofs.YteaojmcfppbgiaaGreatDoor

/- A row of structs that a call makes, of any kind of struct: as NodeRow, for bindings and rows too. No program. -/
namespace Go.Proofs.YteaojmcfppbgiaaGreatDoor
open Go.RowKit
set_option linter.unusedVariables false

/-- A kind of struct: its cells, what is behind it. -/
structure KindX (α : Type) where
  sz : Nat
  cells : α → List Value
  len : ∀ p, (cells p).length = sz
  inn : World → (Nat → Prop) → α → Prop
  imp : ∀ {w w' : World} {P P' : Nat → Prop}, (∀ b o, P b → w'.cell? ⟨b, o, none⟩ = w.cell? ⟨b, o, none⟩) → (∀ b, P b → P' b) → ∀ p, inn w P p → inn w' P' p

def flatX {α : Type} (K : KindX α) (ps : List α) : List Value := ps.flatMap K.cells
theorem flatX_snoc {α : Type} (K : KindX α) (ps : List α) (p : α) : flatX K (ps ++ [p]) = flatX K ps ++ K.cells p := by
  unfold flatX; rw [List.flatMap_append]; simp
theorem flatX_at {α : Type} (K : KindX α) : ∀ (ps : List α) (j r : Nat) (h : j < ps.length), r < K.sz → (flatX K ps)[j * K.sz + r]? = (K.cells ps[j])[r]?
  | p :: ps, 0, r, _, hr => by
    show (K.cells p ++ flatX K ps)[0 * K.sz + r]? = _
    rw [List.getElem?_append_left (by rw [K.len]; omega)]
    simp
  | p :: ps, j + 1, r, h, hr => by
    show (K.cells p ++ flatX K ps)[(j + 1) * K.sz + r]? = _
    have e0 : (j + 1) * K.sz = j * K.sz + K.sz := by rw [Nat.add_mul, Nat.one_mul]
    rw [List.getElem?_append_right (by rw [K.len]; omega)]
    have e : (j + 1) * K.sz + r - (K.cells p).length = j * K.sz + r := by rw [K.len]; omega
    rw [e, flatX_at K ps j r (by simpa using h) hr]
    rfl

structure RowX {α : Type} (K : KindX α) (w : World) (base : Nat) (e : TypeId) (v : Value) (ps : List α) (P : Nat → Prop) : Prop where
  row : w.ownsRow base e K.sz v ps.length (flatX K ps)
  far : ∀ b, P b → b < w.heap.size ∧ v.ownBlock ≠ some b
  node : ∀ p ∈ ps, K.inn w P p
theorem RowX.kept {α : Type} {K : KindX α} {w w' : World} {base : Nat} {e : TypeId} {v : Value} {ps : List α} {P : Nat → Prop} (h : RowX K w base e v ps P) (hz : w.heap.size ≤ w'.heap.size)
    (hr : w'.ownsRow base e K.sz v ps.length (flatX K ps)) (hc : ∀ b, P b → w'.heap[b]? = w.heap[b]?) : RowX K w' base e v ps P :=
  ⟨hr, fun b hb => ⟨Nat.lt_of_lt_of_le (h.far b hb).1 hz, (h.far b hb).2⟩, fun p hp => K.imp (fun b o hb => World.cell?_of_block (a := ⟨b, o, none⟩) (hc b hb)) (fun _ h => h) p (h.node p hp)⟩
theorem RowX.below {α : Type} {K : KindX α} {w w' : World} {base : Nat} {e : TypeId} {v : Value} {ps : List α} {P : Nat → Prop} (h : RowX K w base e v ps P) (hb : Below w.heap.size w w') : RowX K w' base e v ps P :=
  h.kept hb.size (h.row.kept (row := none) ⟨hb.os, hb.tape, hb.output, hb.size, fun k hk _ => hb.block k hk⟩ (by cases hv : v.ownBlock <;> simp)) (fun b hb' => hb.block b (h.far b hb').1)
theorem RowX.alloc {α : Type} {K : KindX α} {w : World} {base : Nat} {e : TypeId} {v : Value} {ps : List α} {P : Nat → Prop} (h : RowX K w base e v ps P) (o : Obj) : RowX K (w.alloc o) base e v ps P :=
  h.below ((Below.refl _ _).alloc (Nat.le_refl _) _)
theorem RowX.setCell {α : Type} {K : KindX α} {w : World} {base : Nat} {e : TypeId} {v : Value} {ps : List α} {P : Nat → Prop} (h : RowX K w base e v ps P) {a : Addr} (ha : a.block < base) (hP : ∀ b, P b → b ≠ a.block) (u : Value) : RowX K (w.setCell a u) base e v ps P :=
  h.kept (by simp [World.setCell]) (ownsRow_setCell_below h.row ha u) (fun b hb => Below.heap_setCell w a u b (hP b hb))
theorem RowX.push {α : Type} {K : KindX α} {w w' : World} {base : Nat} {e : TypeId} {v v' : Value} {ps : List α} {P Pn : Nat → Prop} {p : α} (h : RowX K w base e v ps P)
    (hn : K.inn w Pn p) (hf : ∀ b, Pn b → b < w.heap.size ∧ v.ownBlock ≠ some b)
    (hr : w'.ownsRow base e K.sz v' (ps.length + 1) (flatX K ps ++ K.cells p)) (hg : w.grownBy w' v.ownBlock) (ho : v'.ownBlock = v.ownBlock ∨ v'.ownBlock = some w.heap.size) : RowX K w' base e v' (ps ++ [p]) (fun b => P b ∨ Pn b) := by
  have hb : ∀ b, P b ∨ Pn b → b < w.heap.size ∧ v.ownBlock ≠ some b := fun b hb => hb.elim (h.far b) (hf b)
  have hcell : ∀ b o, P b ∨ Pn b → w'.cell? ⟨b, o, none⟩ = w.cell? ⟨b, o, none⟩ := fun b o hb' => World.cell?_of_block (a := ⟨b, o, none⟩) (hg.block b (hb b hb').1 (fun e => (hb b hb').2 e.symm))
  refine ⟨by rw [flatX_snoc, List.length_append]; exact hr, fun b hb' => ⟨Nat.lt_of_lt_of_le (hb b hb').1 hg.size, fun e => ?_⟩, fun q hq => ?_⟩
  · rcases ho with ho | ho
    · exact (hb b hb').2 (ho.symm.trans e)
    · have := (hb b hb').1
      rw [ho] at e
      injection e with e
      omega
  · rcases List.mem_append.1 hq with hq | hq
    · exact K.imp (fun b o hb' => hcell b o (.inl hb')) (fun b hb' => .inl hb') q (h.node q hq)
    · obtain rfl : q = p := by simpa using hq
      exact K.imp (fun b o hb' => hcell b o (.inr hb')) (fun b hb' => .inr hb') q hn
/-- What stands at each place. -/
theorem RowX.bounds {α : Type} {K : KindX α} {w : World} {base : Nat} {e : TypeId} {A : Option Addr} {cap : Nat} {ps : List α} {P : Nat → Prop} (h : RowX K w base e (.slice A ps.length cap) ps P) : ps.length ≤ cap ∧ cap ≤ maxLen := by
  rcases h.row.2 with ⟨h1, h2⟩ | ⟨g, c, cur, h1, _, _, h2, h3, _⟩
  · injection h1 with _ h3 h4
    subst h4; omega
  · injection h1 with _ _ h4
    subst h4; exact ⟨h2, h3⟩
theorem RowX.at_ {α : Type} {K : KindX α} {w : World} {base : Nat} {e : TypeId} {A : Option Addr} {cap : Nat} {ps : List α} {P : Nat → Prop} (h : RowX K w base e (.slice A ps.length cap) ps P) (i : Nat) (hi : i < ps.length) :
    ∃ b, A = some ⟨b, 0, none⟩ ∧ base ≤ b ∧ b < w.heap.size ∧ (∀ r, r < K.sz → w.cell? ⟨b, i * K.sz + r, none⟩ = (K.cells ps[i])[r]?) ∧ K.inn w P ps[i] := by
  have hin := h.node _ (List.getElem_mem hi)
  have hrow := h.row
  rcases h.row.2 with ⟨h1, h2⟩ | ⟨g, c, cur, h1, hbg, hg, _⟩
  · omega
  · injection h1 with h1 _ _
    subst h1
    refine ⟨g, rfl, hbg, ?_, fun r hr => ?_, hin⟩
    · rcases Nat.lt_or_ge g w.heap.size with hlt | hge
      · exact hlt
      · rw [Array.getElem?_eq_none hge] at hg; cases hg
    · have hlt : i * K.sz + r < ps.length * K.sz := by
        have : (i + 1) * K.sz ≤ ps.length * K.sz := Nat.mul_le_mul_right _ hi
        rw [Nat.add_mul, Nat.one_mul] at this
        omega
      exact (hrow.cellAt (i * K.sz + r) hlt).trans (flatX_at K ps i r hi hr)

/-- Bindings; rows. -/
def kindB : KindX (BT × Option Addr × Nat) where
  sz := 7
  cells p := [.string p.1.s, .int .i64 p.1.a, .int .i64 p.1.t.k, .int .i64 p.1.t.a, .string p.1.t.s, .int .i64 p.1.t.n, .slice p.2.1 p.1.t.l.length p.2.2]
  len p := rfl
  inn w P p := p.1.s.size ≤ maxLen ∧ NodeIn w P p.1.t p.2.1 p.2.2
  imp hw hP p h := ⟨h.1, h.2.imp hw hP⟩

end Go.Proofs.YteaojmcfppbgiaaGreatDoor

/- Bindings, rows, declarations as kinds of structs in a row; one after the other, of any kind. No program. -/
namespace Go.Proofs.YteaojmcfppbgiaaGreatDoor
open Go.RowKit
set_option linter.unusedVariables false
set_option maxRecDepth 100000

section
variable {w w' : World} {lo hi lo' hi' : Nat}
theorem IsNode.to {t : RT} {A : Option Addr} {c : Nat} (h : IsNode w lo hi t A c) (hc : ∀ b o, lo ≤ b → b < hi → w'.cell? ⟨b, o, none⟩ = w.cell? ⟨b, o, none⟩) (hP : ∀ b, lo ≤ b → b < hi → lo' ≤ b ∧ b < hi') : IsNode w' lo' hi' t A c :=
  NodeIn.imp (fun b o hb => hc b o hb.1 hb.2) (fun b hb => hP b hb.1 hb.2) h
theorem Cells5.to {b o : Nat} {t : RT} {A : Option Addr} {c : Nat} (h : Cells5 w b o t A c) (hc : ∀ o, w'.cell? ⟨b, o, none⟩ = w.cell? ⟨b, o, none⟩) : Cells5 w' b o t A c := by
  obtain ⟨x0, x1, x2, x3, x4⟩ := h
  exact ⟨by rw [hc, x0], by rw [hc, x1], by rw [hc, x2], by rw [hc, x3], by rw [hc, x4]⟩
theorem NodesAt.to {A : Option Addr} {l : List RT} (h : NodesAt w lo hi A l) (hc : ∀ b o, lo ≤ b → b < hi → w'.cell? ⟨b, o, none⟩ = w.cell? ⟨b, o, none⟩) (hP : ∀ b, lo ≤ b → b < hi → lo' ≤ b ∧ b < hi') : NodesAt w' lo' hi' A l := by
  intro i hi0
  obtain ⟨b, o, F, C, hA, h3, h4, h5, h6⟩ := h i hi0
  exact ⟨b, o, F, C, hA, (hP b h3 h4).1, (hP b h3 h4).2, h5.to (fun o => hc b o h3 h4), h6.to hc hP⟩
theorem IsBind.to {x : BT} {F : Option Addr} {C : Nat} (h : IsBind w lo hi x F C) (hc : ∀ b o, lo ≤ b → b < hi → w'.cell? ⟨b, o, none⟩ = w.cell? ⟨b, o, none⟩) (hP : ∀ b, lo ≤ b → b < hi → lo' ≤ b ∧ b < hi') : IsBind w' lo' hi' x F C := ⟨h.hs, h.hn.to hc hP⟩
theorem IsRow.to {x : CT} {A : Option Addr} {c : Nat} {F : Option Addr} {C : Nat} (h : IsRow w lo hi x A c F C) (hc : ∀ b o, lo ≤ b → b < hi → w'.cell? ⟨b, o, none⟩ = w.cell? ⟨b, o, none⟩) (hP : ∀ b, lo ≤ b → b < hi → lo' ≤ b ∧ b < hi') : IsRow w' lo' hi' x A c F C := ⟨h.hl, h.hc, h.hp.to hc hP, h.hn.to hc hP⟩
theorem BindsAt.to {A : Option Addr} {l : List BT} (h : BindsAt w lo hi A l) (hc : ∀ b o, lo ≤ b → b < hi → w'.cell? ⟨b, o, none⟩ = w.cell? ⟨b, o, none⟩) (hP : ∀ b, lo ≤ b → b < hi → lo' ≤ b ∧ b < hi') : BindsAt w' lo' hi' A l := by
  intro i hi0
  obtain ⟨b, o, F, C, hA, h3, h4, ⟨x0, x1, x2, x3, x4, x5, x6⟩, h6⟩ := h i hi0
  have e := fun o => hc b o h3 h4
  exact ⟨b, o, F, C, hA, (hP b h3 h4).1, (hP b h3 h4).2, ⟨by rw [e, x0], by rw [e, x1], by rw [e, x2], by rw [e, x3], by rw [e, x4], by rw [e, x5], by rw [e, x6]⟩, h6.to hc hP⟩
theorem RowsAt.to {A : Option Addr} {l : List CT} (h : RowsAt w lo hi A l) (hc : ∀ b o, lo ≤ b → b < hi → w'.cell? ⟨b, o, none⟩ = w.cell? ⟨b, o, none⟩) (hP : ∀ b, lo ≤ b → b < hi → lo' ≤ b ∧ b < hi') : RowsAt w' lo' hi' A l := by
  intro i hi0
  obtain ⟨b, o, A', c, F, C, hA, h3, h4, ⟨x0, x1, x2, x3, x4, x5, x6, x7⟩, h6⟩ := h i hi0
  have e := fun o => hc b o h3 h4
  exact ⟨b, o, A', c, F, C, hA, (hP b h3 h4).1, (hP b h3 h4).2, ⟨by rw [e, x0], by rw [e, x1], by rw [e, x2], by rw [e, x3], by rw [e, x4], by rw [e, x5], by rw [e, x6], by rw [e, x7]⟩, h6.to hc hP⟩
theorem IsDecl.to {x : DT} {p : DP} (h : IsDecl w lo hi x p) (hc : ∀ b o, lo ≤ b → b < hi → w'.cell? ⟨b, o, none⟩ = w.cell? ⟨b, o, none⟩) (hP : ∀ b, lo ≤ b → b < hi → lo' ≤ b ∧ b < hi') : IsDecl w' lo' hi' x p :=
  ⟨h.hs, h.la, h.ma, h.lb, h.mb, h.ld, h.md, h.te.to hc hP, h.t.to hc hP, h.co.to hc hP, h.ro.to hc hP⟩
end

/-- Something lies in blocks of which P holds. -/
def InP (P : Nat → Prop) (I : Nat → Nat → Prop) : Prop := ∃ lo hi, (∀ b, lo ≤ b → b < hi → P b) ∧ I lo hi
def kdB : KindX (BT × Option Addr × Nat) where
  sz := 7
  cells p := [.string p.1.s, .int .i64 p.1.a, .int .i64 p.1.t.k, .int .i64 p.1.t.a, .string p.1.t.s, .int .i64 p.1.t.n, .slice p.2.1 p.1.t.l.length p.2.2]
  len p := rfl
  inn w P p := InP P fun lo hi => IsBind w lo hi p.1 p.2.1 p.2.2
  imp hw hP p h := by
    obtain ⟨lo, hi, h1, h2⟩ := h
    exact ⟨lo, hi, fun b h3 h4 => hP b (h1 b h3 h4), h2.to (fun b o h3 h4 => hw b o (h1 b h3 h4)) (fun b h3 h4 => ⟨h3, h4⟩)⟩
def kdR : KindX (CT × (Option Addr × Nat) × Option Addr × Nat) where
  sz := 8
  cells p := [.int .i64 p.1.a, .slice p.2.1.1 p.1.ps.length p.2.1.2, .bool p.1.h, .int .i64 p.1.t.k, .int .i64 p.1.t.a, .string p.1.t.s, .int .i64 p.1.t.n, .slice p.2.2.1 p.1.t.l.length p.2.2.2]
  len p := rfl
  inn w P p := InP P fun lo hi => IsRow w lo hi p.1 p.2.1.1 p.2.1.2 p.2.2.1 p.2.2.2
  imp hw hP p h := by
    obtain ⟨lo, hi, h1, h2⟩ := h
    exact ⟨lo, hi, fun b h3 h4 => hP b (h1 b h3 h4), h2.to (fun b o h3 h4 => hw b o (h1 b h3 h4)) (fun b h3 h4 => ⟨h3, h4⟩)⟩
def kdD : KindX (DT × DP) where
  sz := 11
  cells q := [.int .i64 q.1.k, .int .i64 q.1.a, .string q.1.s, .slice q.2.A q.1.te.length q.2.a, .int .i64 q.1.t.k, .int .i64 q.1.t.a, .string q.1.t.s, .int .i64 q.1.t.n, .slice q.2.F q.1.t.l.length q.2.C, .slice q.2.B q.1.co.length q.2.b, .slice q.2.D q.1.ro.length q.2.d]
  len p := rfl
  inn w P p := InP P fun lo hi => IsDecl w lo hi p.1 p.2
  imp hw hP p h := by
    obtain ⟨lo, hi, h1, h2⟩ := h
    exact ⟨lo, hi, fun b h3 h4 => hP b (h1 b h3 h4), h2.to (fun b o h3 h4 => hw b o (h1 b h3 h4)) (fun b h3 h4 => ⟨h3, h4⟩)⟩
theorem RowX.kp {α : Type} {K : KindX α} {w w' : World} {base r : Nat} {e : TypeId} {v : Value} {ps : List α} {P : Nat → Prop} (h : RowX K w base e v ps P) (hk : Kp r w w') (hr : r < base) (hP : ∀ b, P b → base ≤ b) : RowX K w' base e v ps P :=
  h.kept hk.size (h.row.kept (row := some r) hk (by
    cases hv : v.ownBlock with
    | none => simp
    | some k =>
      have := (h.row.lt k hv).1
      simp
      omega)) (fun b hb => hk.block b (h.far b hb).1 (fun e => by injection e with e; have := hP b hb; omega))
theorem RowX.nil {α : Type} (K : KindX α) (w : World) (base : Nat) (e : TypeId) : RowX K w base e (.slice none 0 0) [] (fun _ => False) :=
  ⟨World.ownsRow_nil _ _ _ _, fun _ h => h.elim, fun _ h => by cases h⟩
theorem own_shapeX {w : World} {base : Nat} {e : TypeId} {size : Nat} {v : Value} {n : Nat} {xs : List Value} (h : w.ownsRow base e size v n xs) : ∃ a cap, v = .slice a n cap := by
  rcases h.2 with ⟨rfl, rfl⟩ | ⟨g, cap, cur, rfl, _⟩
  · exact ⟨_, _, rfl⟩
  · exact ⟨_, _, rfl⟩

/-- One after the other, of any kind. -/
inductive ChainX {α : Type} (L : List Tk) (one : St → α → St → Prop) (more : Nat → Bool) (most : Nat) : Nat → St → List α → St → Prop
  | stop {n : Nat} {s : St} : ¬ (s.e = 0 ∧ more s.k = true) → ChainX L one more most n s [] s
  | full {n : Nat} {s : St} : s.e = 0 → more s.k = true → n = most → ChainX L one more most n s [] (failS L s (tk L s.k).2.2 2)
  | next {n : Nat} {s s1 s2 : St} {t : α} {l : List α} : s.e = 0 → more s.k = true → n ≠ most → one s t s1 → ChainX L one more most (n + 1) s1 l s2 → ChainX L one more most n s (t :: l) s2
theorem chainX_inv {α : Type} {L : List Tk} {one : St → α → St → Prop} {more : Nat → Bool} {most n : Nat} {s s' : St} {l : List α} (h : ChainX L one more most n s l s') :
    (¬ (s.e = 0 ∧ more s.k = true) ∧ l = [] ∧ s = s') ∨ (s.e = 0 ∧ more s.k = true ∧ n = most ∧ l = [] ∧ failS L s (tk L s.k).2.2 2 = s') ∨ (s.e = 0 ∧ more s.k = true ∧ n ≠ most ∧ ∃ t l' s1, l = t :: l' ∧ one s t s1 ∧ ChainX L one more most (n + 1) s1 l' s') := by
  cases h with
  | stop h => exact .inl ⟨h, rfl, rfl⟩
  | full h1 h2 h3 => exact .inr (.inl ⟨h1, h2, h3, rfl, rfl⟩)
  | next h1 h2 h3 h4 h5 => exact .inr (.inr ⟨h1, h2, h3, _, _, _, rfl, h4, h5⟩)
theorem chainX_most {α : Type} {L : List Tk} {one : St → α → St → Prop} {more : Nat → Bool} {most n : Nat} {s s' : St} {l : List α} (h : ChainX L one more most n s l s') : n ≤ most → n + l.length ≤ most := by
  induction h with
  | stop h => intro hn; simpa using hn
  | full h1 h2 h3 => intro hn; simpa using hn
  | next h1 h2 h3 h4 h5 ih => intro hn; have := ih (by omega); simp; omega

theorem inp_wide {P : Nat → Prop} {w : World} {base : Nat} (hP : ∀ b, P b → base ≤ b) (hf : ∀ b, P b → b < w.heap.size) {lo hi : Nat} (h : ∀ b, lo ≤ b → b < hi → P b) : ∀ b, lo ≤ b → b < hi → base ≤ b ∧ b < w.heap.size := fun b h1 h2 => ⟨hP b (h b h1 h2), hf b (h b h1 h2)⟩
theorem binds_of {w : World} {base : Nat} {e : TypeId} {A : Option Addr} {c : Nat} {ps : List (BT × Option Addr × Nat)} {P : Nat → Prop} (h : RowX kdB w base e (.slice A ps.length c) ps P) (hP : ∀ b, P b → base ≤ b) : BindsAt w base w.heap.size A (ps.map (·.1)) := by
  intro i hi
  have hi' : i < ps.length := by simpa using hi
  obtain ⟨b, hA, h1, h2, hc, lo, hi2, h3, h4⟩ := h.at_ i hi'
  have hx : (ps.map (·.1))[i] = ps[i].1 := List.getElem_map _
  refine ⟨b, 0, ps[i].2.1, ps[i].2.2, hA, h1, h2, ?_, by rw [hx]; exact h4.to (fun _ _ _ _ => rfl) (inp_wide hP (fun b hb => (h.far b hb).1) h3)⟩
  rw [hx]
  have c := fun r (hr : r < 7) => hc r hr
  exact ⟨by rw [Nat.zero_add]; exact c 0 (by omega), by rw [Nat.zero_add]; exact c 1 (by omega), by rw [Nat.zero_add]; exact c 2 (by omega), by rw [Nat.zero_add]; exact c 3 (by omega), by rw [Nat.zero_add]; exact c 4 (by omega), by rw [Nat.zero_add]; exact c 5 (by omega), by rw [Nat.zero_add]; exact c 6 (by omega)⟩
theorem rows_of {w : World} {base : Nat} {e : TypeId} {A : Option Addr} {c : Nat} {ps : List (CT × (Option Addr × Nat) × Option Addr × Nat)} {P : Nat → Prop} (h : RowX kdR w base e (.slice A ps.length c) ps P) (hP : ∀ b, P b → base ≤ b) : RowsAt w base w.heap.size A (ps.map (·.1)) := by
  intro i hi
  have hi' : i < ps.length := by simpa using hi
  obtain ⟨b, hA, h1, h2, hc, lo, hi2, h3, h4⟩ := h.at_ i hi'
  have hx : (ps.map (·.1))[i] = ps[i].1 := List.getElem_map _
  refine ⟨b, 0, ps[i].2.1.1, ps[i].2.1.2, ps[i].2.2.1, ps[i].2.2.2, hA, h1, h2, ?_, by rw [hx]; exact h4.to (fun _ _ _ _ => rfl) (inp_wide hP (fun b hb => (h.far b hb).1) h3)⟩
  rw [hx]
  have c := fun r (hr : r < 8) => hc r hr
  exact ⟨by rw [Nat.zero_add]; exact c 0 (by omega), by rw [Nat.zero_add]; exact c 1 (by omega), by rw [Nat.zero_add]; exact c 2 (by omega), by rw [Nat.zero_add]; exact c 3 (by omega), by rw [Nat.zero_add]; exact c 4 (by omega), by rw [Nat.zero_add]; exact c 5 (by omega), by rw [Nat.zero_add]; exact c 6 (by omega), by rw [Nat.zero_add]; exact c 7 (by omega)⟩

end Go.Proofs.YteaojmcfppbgiaaGreatDoor
