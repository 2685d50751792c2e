/- Types of functions, functions, laid around a term: tele.Pis, tele.Lams. -/
import Derived.Test.YtofmoggjpgjdgaaDoorVPlain
import Derived.Test.YtofmoggjpgjdgaaDoorTRenew
import Derived.Test.YtofmoggjpgjdgaaDoorM2
import Derived.Test.YtofmoggjpgjdgaaDoorLTerms
import Derived.Test.YtofmoggjpgjdgaaDoorLCalls
import Derived.Deep.RegionLaw
import Derived.Deep.RegionWith
namespace Go.Proofs.YtofmoggjpgjdgaaDoor
open Go.RowKit
set_option linter.unusedVariables false
set_option maxRecDepth 100000

/-- A call that gives a term, wherever it lies, and an error. -/
def GivesL (p : TM × Int) (w : World) (e : Ending) (w' : World) : Prop :=
  ∃ A cap, e = .returned (.tuple #[termV p.1 A cap, .int .i64 p.2]) ∧ IsTerm w' 0 w'.heap.size p.1 A cap ∧ Below w.heap.size w w'
theorem GivesT.any {p : TM × Int} {w w' : World} {e : Ending} (h : GivesT p w e w') : GivesL p w e w' := by
  obtain ⟨A, c, h1, h2, h3⟩ := h
  exact ⟨A, c, h1, h2.wide (Nat.zero_le _) (Nat.le_refl _), h3⟩
theorem GivesL.kept {p q : TM × Int} {w w' : World} {e : Ending} (h : GivesL p w e w') (hq : p = q) : GivesL q w e w' := hq ▸ h
theorem givel_zero {w w1 : World} {g : Nat} {c : Int} (hb : Below w.heap.size w w1) (hg : w.heap.size ≤ g) : GivesL (.node 0 0 [], c) w (.returned (.tuple #[.agg #[.int .i64 0, .int .i64 0, .slice none 0 0], .int .i64 c])) (((w1.setCell ⟨g, 0, none⟩ (.int .i64 0)).setCell ⟨g, 1, none⟩ (.int .i64 0)).setCell ⟨g, 2, none⟩ (.slice none 0 0)) :=
  (give_zero hb hg).any

theorem cl_laid (t : TM) (lo hi : Nat) (A : Option Addr) (cap : Nat) (w : World) (h : IsTerm w lo hi t A cap) (hhi : hi ≤ w.heap.size) (hS : ShapesM w) :
    Calls Tryd.prog 52 #[termV t A cap] w fun e w' => e = .returned (.bool (!shapedB t)) ∧ Below w.heap.size w w' := by
  have HW := Lib.hid (show Below w.heap.size w (w.alloc (.cells #[.int .i64 t.k, .int .i64 t.n, .slice A t.l.length cap] 24)) from (Below.refl _ _).alloc (Nat.le_refl _) _)
  have HC := Lib.hid (shaped_any t lo hi A cap (w.alloc (.cells #[.int .i64 t.k, .int .i64 t.n, .slice A t.l.length cap] 24)) (h.kept HW.out hhi) (by simp; omega) (hS.kept HW.out))
  obtain ⟨b, hb⟩ : ∃ b, shapedB t = b := ⟨_, rfl⟩
  rw [hb] at HC ⊢
  clear h hS hb
  unfold termV at HC ⊢
  go_enter Tryd.func52, Tryd.ntmps52
  go_wp2_with fail
  refine HC.out.mono ?_
  rintro e w1 ⟨rfl, hb1⟩
  have HB1 := Lib.hid (HW.out.trans (hb1.mono (by simp)))
  clear hb1
  cases b
  all_goals
    go_wp2_with fail
    go_ret
    exact ⟨rfl, HB1.out⟩

theorem tindexL_any (l : List TM) (A : Option Addr) (cap lo hi : Nat) (Q : Nat → Bool) (w : World) (hl : l.length ≤ maxLen) (hn : TermsAt w lo hi A l) (hhi : hi ≤ w.heap.size) (ht : TestT w 52 [] l Q) :
    Calls Tryd.prog 67 #[.slice A l.length cap, .func (.func 52) #[] #[]] w (SomeIdx Q l.length w) := by
  have HN := Lib.hid hn
  have HT := Lib.hid ht
  unfold maxLen at hl
  clear hn ht
  go_enter Tryd.func67, Tryd.ntmps67
  go_wp2_with fail
  go_loopw [8] (fun iv wr => ∃ i : Nat, i ≤ l.length ∧ iv = .int .i64 i ∧ Below w.heap.size w wr ∧ Hid (∀ j, j < i → Q j = false)) (fun iv _ => l.length - (intOf iv).toNat)
  case atStart => exact ⟨0, Nat.zero_le _, rfl, Below.refl _ _, Lib.hid (fun j hj => by omega)⟩
  case round =>
    obtain ⟨i, hi1, rfl, hB, HQ⟩ := hrel
    have hz := hB.size
    by_cases hil : i < l.length
    · obtain ⟨b, o, F, C, rfl, hb1, hb2, hx, hnode⟩ := (HN.out i hil).kept hB hhi
      obtain ⟨x0, x1, x2⟩ := hx
      have HR := Lib.hid (HT.out i hil lo hi F C wr hB hnode (by omega))
      clear HT HN
      cases hq : Q i with
      | true =>
        rw [hq] at HR
        have HQ2 := Lib.hid hq
        clear hq
        go_wp2_with fail
        refine HR.out.mono ?_
        rintro e w1 ⟨rfl, hb1⟩
        go_wp2_with fail
        go_ret
        exact ⟨_, rfl, .inr ⟨by omega, i, hil, HQ2.out⟩, hB.trans (hb1.mono hz)⟩
      | false =>
        rw [hq] at HR
        have HQ2 := Lib.hid hq
        clear hq
        go_wp2_with fail
        refine HR.out.mono ?_
        rintro e w1 ⟨rfl, hb1⟩
        go_wp2_with fail
        go_roundw
        case rel =>
          refine ⟨i + 1, by omega, rfl, hB.trans (hb1.mono hz), Lib.hid (fun j hj => ?_)⟩
          by_cases e : j < i
          · exact HQ.out j e
          · obtain rfl : j = i := by omega
            exact HQ2.out
        case measure => simp [intOf]; omega
    · obtain rfl : i = l.length := by omega
      clear HT HN
      go_wp2_with fail
      go_ret
      exact ⟨_, rfl, .inl ⟨rfl, HQ.out⟩, hB⟩


theorem containsL_any (l : List TM) (lo hi : Nat) (A : Option Addr) (cap : Nat) (w : World) (h : IsTerms w lo hi l A cap) (hhi : hi ≤ w.heap.size) (hS : ShapesM w) :
    Calls Tryd.prog 51 #[.slice A l.length cap, .func (.func 52) #[] #[]] w fun e w' => e = .returned (.bool (!l.all shapedB)) ∧ Below w.heap.size w w' := by
  obtain ⟨hl, hm⟩ := h.bounds
  have HI := Lib.hid (tindexL_any l A cap lo hi (tatB (fun t => !shapedB t) l) w (by omega) (fun i hi' => h.sub i hi') hhi (fun i hi' lo2 hi2 F C V hV hx hz => by
    rw [tatB_of _ hi']
    exact cl_laid l[i] lo2 hi2 F C V hx hz (hS.kept hV)))
  have hno : (∀ j, j < l.length → tatB (fun t => !shapedB t) l j = false) → l.all shapedB = true := fun hq => by
    rw [List.all_eq_true]
    intro x hx
    obtain ⟨i, hi, rfl⟩ := List.mem_iff_getElem.1 hx
    have := hq i hi
    rw [tatB_of _ hi] at this
    simpa using this
  have hyes : (∃ i, i < l.length ∧ tatB (fun t => !shapedB t) l i = true) → l.all shapedB = false := fun ⟨i, hi, hq⟩ => by
    rw [tatB_of _ hi] at hq
    cases e : l.all shapedB with
    | false => rfl
    | true =>
      rw [List.all_eq_true] at e
      rw [e _ (List.getElem_mem hi)] at hq
      cases hq
  have HNO := Lib.hid hno
  have HYES := Lib.hid hyes
  clear h hS hno hyes hl hm
  go_enter Tryd.func51, Tryd.ntmps51
  go_wp2_with fail
  refine HI.out.mono ?_
  rintro e w1 ⟨r, rfl, hr, hb⟩
  have HB := Lib.hid hb
  clear hb
  rcases hr with ⟨rfl, hall⟩ | ⟨h0, i, hi, hq⟩
  · have HE := Lib.hid (HNO.out hall)
    clear hall
    go_wp2_with fail
    go_ret
    exact ⟨by rw [HE.out]; rfl, HB.out⟩
  · have HE := Lib.hid (HYES.out ⟨i, hi, hq⟩)
    have t0 : decide (0 ≤ r) = true := decide_eq_true h0
    have t1 : decide (r ≥ 0) = true := decide_eq_true h0
    clear hq hi h0
    go_wp2_with fail
    go_ret
    exact ⟨by rw [HE.out]; rfl, HB.out⟩

/-- Where the loop stands: so many, from the last one on, are laid; the term lies outside the boxes. -/
def LaidRel (κ : Int) (l : List TM) (t : TM) (w : World) (iv : Value) (wr : World) : Prop :=
  ∃ (i : Nat) (u : TM) (A : Option Addr) (cap : Nat), i ≤ l.length ∧ iv = .int .i64 i ∧ Below w.heap.size w wr ∧ Bk wr w.heap.size 24 #[.int .i64 u.k, .int .i64 u.n, .slice A u.l.length cap] ∧
    Bk wr (w.heap.size + 1) 24 #[.int .i64 0, .int .i64 0, .slice none 0 0] ∧ TermIn wr (fun b => b < wr.heap.size ∧ b ≠ w.heap.size ∧ b ≠ w.heap.size + 1) u A cap ∧ u = aroundT κ (l.drop (l.length - i)) t
theorem around_step (κ : Int) (l : List TM) (t : TM) (i : Nat) (h : i < l.length) : aroundT κ (l.drop (l.length - (i + 1))) t = .node κ 0 [l[l.length - 1 - i]'(by omega), aroundT κ (l.drop (l.length - i)) t] := by
  have e : l.length - (i + 1) < l.length := by omega
  rw [List.drop_eq_getElem_cons e, aroundT_cons]
  have e2 : l.length - (i + 1) + 1 = l.length - i := by omega
  have e3 : l.length - (i + 1) = l.length - 1 - i := by omega
  rw [e2]
  simp only [e3]
theorem around_24 {κ : Int} {l : List TM} {t : TM} (h : 24 < l.length) : aroundX κ l t = (.node 0 0 [], 2) := by unfold aroundX; rw [if_pos h]
theorem around_no {κ : Int} {l : List TM} {t : TM} (h : ¬ 24 < l.length) (h2 : (shapedB t && l.all shapedB) = false) : aroundX κ l t = (.node 0 0 [], 5) := by unfold aroundX; rw [if_neg h, h2]; rfl
theorem around_yes {κ : Int} {l : List TM} {t : TM} (h : ¬ 24 < l.length) (h2 : (shapedB t && l.all shapedB) = true) : aroundX κ l t = gotX (aroundT κ l t) := by unfold aroundX; rw [if_neg h, h2, if_pos rfl]
theorem gotX_no {u : TM} (h : shapedB u = false) : gotX u = (.node 0 0 [], 2) := by unfold gotX; rw [h]; rfl
theorem gotX_yes {u : TM} (h : shapedB u = true) : gotX u = (u, 0) := by unfold gotX; rw [h, if_pos rfl]

set_option maxHeartbeats 4000000 in
theorem laid_pi (l : List TM) (A_l : Option Addr) (c_l : Nat) (t : TM) (A_t : Option Addr) (c_t : Nat) (w : World) (hl : IsTerms w 0 w.heap.size l A_l c_l) (ht : IsTerm w 0 w.heap.size t A_t c_t) (hS : ShapesM w) :
    Calls Tryd.prog 29 #[.slice A_l l.length c_l, termV t A_t c_t, .func (.func 30) #[] #[]] w (GivesT (aroundX 3 l t) w) := by
  obtain ⟨hlb, hlm⟩ := hl.bounds
  have HW := Lib.hid (show Below w.heap.size w ((w.alloc (.cells #[.int .i64 t.k, .int .i64 t.n, .slice A_t t.l.length c_t] 24)).alloc (.cells #[.int .i64 0, .int .i64 0, .slice none 0 0] 24)) from ((Below.refl w.heap.size w).alloc (by simp <;> omega) (.cells #[.int .i64 t.k, .int .i64 t.n, .slice A_t t.l.length c_t] 24)).alloc (by simp <;> omega) (.cells #[.int .i64 0, .int .i64 0, .slice none 0 0] 24))
  have KB := Lib.hid (fun (V : World) (hV : Below ((w.alloc (.cells #[.int .i64 t.k, .int .i64 t.n, .slice A_t t.l.length c_t] 24)).alloc (.cells #[.int .i64 0, .int .i64 0, .slice none 0 0] 24)).heap.size ((w.alloc (.cells #[.int .i64 t.k, .int .i64 t.n, .slice A_t t.l.length c_t] 24)).alloc (.cells #[.int .i64 0, .int .i64 0, .slice none 0 0] 24)) V) => (show Bk V w.heap.size 24 #[.int .i64 t.k, .int .i64 t.n, .slice A_t t.l.length c_t] ∧ Bk V (w.heap.size + 1) 24 #[.int .i64 0, .int .i64 0, .slice none 0 0] from ⟨((Bk.new w 24 _).alloc _).below hV (by simp <;> omega), (Bk.last (w.alloc (.cells #[.int .i64 t.k, .int .i64 t.n, .slice A_t t.l.length c_t] 24)) 24 #[.int .i64 0, .int .i64 0, .slice none 0 0] (g := w.heap.size + 1) (by simp)).below hV (by simp <;> omega)⟩))
  have CC0 := Lib.hid (fun (V : World) (hV : Below w.heap.size w V) => shaped_any t 0 w.heap.size A_t c_t V (ht.kept hV (Nat.le_refl _)) hV.size (hS.kept hV))
  have CC1 := Lib.hid (fun (V : World) (hV : Below w.heap.size w V) => containsL_any l 0 w.heap.size A_l c_l V (hl.kept hV (Nat.le_refl _)) hV.size (hS.kept hV))
  have HSS := Lib.hid (fun (V : World) (hV : Below w.heap.size w V) => hS.kept hV)
  have HT := Lib.hid ht
  have HN := Lib.hid hl.sub
  unfold maxLen at hlm
  have HXX : Hid (∀ u, u = aroundT 3 l t → u = aroundT 3 l t) := Lib.hid (fun _ h => h)
  obtain ⟨RR, hRR⟩ : ∃ RR, aroundX 3 l t = RR := ⟨_, rfl⟩
  rw [hRR]
  obtain ⟨bt, hbt⟩ : ∃ b, shapedB t = b := ⟨_, rfl⟩
  rw [hbt] at CC0
  obtain ⟨bl, hbl⟩ : ∃ b, l.all shapedB = b := ⟨_, rfl⟩
  rw [hbl] at CC1
  have HLE := Lib.hid (Below.refl ((w.alloc (.cells #[.int .i64 t.k, .int .i64 t.n, .slice A_t t.l.length c_t] 24)).alloc (.cells #[.int .i64 0, .int .i64 0, .slice none 0 0] 24)).heap.size ((w.alloc (.cells #[.int .i64 t.k, .int .i64 t.n, .slice A_t t.l.length c_t] 24)).alloc (.cells #[.int .i64 0, .int .i64 0, .slice none 0 0] 24)))
  clear hl ht hS
  unfold termV at CC0 ⊢
  by_cases h24 : 24 < l.length
  · have t0 : decide ((24 : Int) < (l.length : Int)) = true := decide_eq_true (by omega)
    have HE := Lib.hid (hRR.symm.trans (around_24 h24))
    clear h24 hRR hbt hbl
    go_enter Tryd.func29, Tryd.ntmps29
    have HBF := Lib.hid HW.out
    go_wp2_with fail
    refine bodyPost_ret (v := .tuple #[.agg #[.int .i64 0, .int .i64 0, .slice none 0 0], .int .i64 2]) (by simp [results, Tryd.results29, go_sem]) rfl ?_
    rw [HE.out]
    refine ⟨none, 0, rfl, leaf_in _ _ 0 0, ?_⟩
    first | exact HBF.out | exact ((HBF.out.setCell (by simp) _).setCell (by simp) _).setCell (by simp) _
  have t0 : decide ((24 : Int) < (l.length : Int)) = false := decide_eq_false (by omega)
  have HX0 := Lib.hid (fun (h : (bt && bl) = false) => hRR.symm.trans (around_no h24 (by rw [hbt, hbl]; exact h)))
  have HX1 := Lib.hid (fun (h : (bt && bl) = true) => hRR.symm.trans (around_yes h24 (by rw [hbt, hbl]; exact h)))
  have HL24 := Lib.hid (show l.length ≤ 24 by omega)
  clear h24 hRR hbt hbl
  go_enter Tryd.func29, Tryd.ntmps29
  go_wp2_with fail
  refine (CC0.out _ HW.out).mono ?_
  rintro e w0 ⟨rfl, hc0⟩
  have hb0 := Lib.hid (hc0.mono (Nat.le_refl _))
  clear hc0
  have b00 : w0.cell? ⟨w.heap.size, 0, none⟩ = some (.int .i64 t.k) := (KB.out _ hb0.out).1.cell 0
  have b01 : w0.cell? ⟨w.heap.size, 1, none⟩ = some (.int .i64 t.n) := (KB.out _ hb0.out).1.cell 1
  have b02 : w0.cell? ⟨w.heap.size, 2, none⟩ = some (.slice A_t t.l.length c_t) := (KB.out _ hb0.out).1.cell 2
  have b10 : w0.cell? ⟨w.heap.size + 1, 0, none⟩ = some (.int .i64 0) := (KB.out _ hb0.out).2.cell 0
  have b11 : w0.cell? ⟨w.heap.size + 1, 1, none⟩ = some (.int .i64 0) := (KB.out _ hb0.out).2.cell 1
  have b12 : w0.cell? ⟨w.heap.size + 1, 2, none⟩ = some (.slice none 0 0) := (KB.out _ hb0.out).2.cell 2
  have hfz : ∀ o, w0.frozen? ⟨w.heap.size + 1, o, none⟩ = false := fun o => (KB.out _ hb0.out).2.cold o
  cases bt with
  | false =>
    have HE := Lib.hid (HX0.out (by simp))
    have B5 := (((KB.out _ hb0.out).2.at_ 0 (.int .i64 0)).at_ 1 (.int .i64 0)).at_ 2 (.slice none 0 0)
    have HS0 := Lib.hid (B5.cell 0)
    have HS1 := Lib.hid (B5.cell 1)
    have HS2 := Lib.hid (B5.cell 2)
    have HBF := Lib.hid (HW.out.trans (hb0.out.mono (by simp <;> omega)))
    clear B5
    go_wp2_with fail
    refine bodyPost_ret (v := .tuple #[.agg #[.int .i64 0, .int .i64 0, .slice none 0 0], .int .i64 5]) (by simp [results, Tryd.results29, go_sem, HS0.out, HS1.out, HS2.out]) rfl ?_
    rw [HE.out]
    exact give_zero HBF.out (by omega)
  | true =>
  go_wp2_with fail
  refine (CC1.out _ (HW.out.trans (hb0.out.mono (by simp <;> omega)))).mono ?_
  rintro e w1 ⟨rfl, hc1⟩
  have hb1 := Lib.hid (hb0.out.trans (hc1.mono hb0.out.size))
  clear hc1
  clear b00 b01 b02 b10 b11 b12 hfz
  have b00 : w1.cell? ⟨w.heap.size, 0, none⟩ = some (.int .i64 t.k) := (KB.out _ hb1.out).1.cell 0
  have b01 : w1.cell? ⟨w.heap.size, 1, none⟩ = some (.int .i64 t.n) := (KB.out _ hb1.out).1.cell 1
  have b02 : w1.cell? ⟨w.heap.size, 2, none⟩ = some (.slice A_t t.l.length c_t) := (KB.out _ hb1.out).1.cell 2
  have b10 : w1.cell? ⟨w.heap.size + 1, 0, none⟩ = some (.int .i64 0) := (KB.out _ hb1.out).2.cell 0
  have b11 : w1.cell? ⟨w.heap.size + 1, 1, none⟩ = some (.int .i64 0) := (KB.out _ hb1.out).2.cell 1
  have b12 : w1.cell? ⟨w.heap.size + 1, 2, none⟩ = some (.slice none 0 0) := (KB.out _ hb1.out).2.cell 2
  have hfz : ∀ o, w1.frozen? ⟨w.heap.size + 1, o, none⟩ = false := fun o => (KB.out _ hb1.out).2.cold o
  cases bl with
  | false =>
    have HE := Lib.hid (HX0.out (by simp))
    have B5 := (((KB.out _ hb1.out).2.at_ 0 (.int .i64 0)).at_ 1 (.int .i64 0)).at_ 2 (.slice none 0 0)
    have HS0 := Lib.hid (B5.cell 0)
    have HS1 := Lib.hid (B5.cell 1)
    have HS2 := Lib.hid (B5.cell 2)
    have HBF := Lib.hid (HW.out.trans (hb1.out.mono (by simp <;> omega)))
    clear B5
    go_wp2_with fail
    refine bodyPost_ret (v := .tuple #[.agg #[.int .i64 0, .int .i64 0, .slice none 0 0], .int .i64 5]) (by simp [results, Tryd.results29, go_sem, HS0.out, HS1.out, HS2.out]) rfl ?_
    rw [HE.out]
    exact give_zero HBF.out (by omega)
  | true =>
  have HE1 := Lib.hid (HX1.out rfl)
  have hst := hb1.out.size
  simp at hst
  clear HX0 HX1 CC0 CC1
  go_wp2_with fail
  go_loopw [23] (LaidRel 3 l t w) (fun iv _ => l.length - (intOf iv).toNat)
  case atStart =>
    exact ⟨0, t, A_t, c_t, Nat.zero_le _, rfl, HW.out.trans (hb1.out.mono (by simp <;> omega)), (KB.out _ hb1.out).1, (KB.out _ hb1.out).2, TermIn.imp (fun b o hb => (HW.out.trans (hb1.out.mono (by simp <;> omega))).cell (p := ⟨b, o, none⟩) hb.2) (fun b hb => ⟨by have := hb.2; omega, by have := hb.2; omega, by have := hb.2; omega⟩) HT.out, by rw [Nat.sub_zero, List.drop_length]; rfl⟩
  case round =>
    clear b00 b01 b02 b10 b11 b12 hfz hst
    obtain ⟨i, u, A1, c1, hi1, rfl, hB, b1, b2, hu, hue⟩ := hrel
    have hz := hB.size
    have hlt2 := b2.lt
    have HB1 := Lib.hid b1
    have HB2 := Lib.hid b2
    have HU := Lib.hid hu
    have HUE := Lib.hid hue
    have HBB := Lib.hid hB
    have hfz1 : ∀ q, wr.frozen? ⟨w.heap.size, q, none⟩ = false := fun q => b1.cold q
    obtain ⟨y0, y1, y2, yl⟩ := (TBox.of b1 : TBox wr w.heap.size u.k u.n (.slice A1 u.l.length c1))
    clear b1 b2 hu hue
    by_cases hil : i < l.length
    · obtain ⟨bk, o, F, C, hA, hb1, hb2, hx, hnode⟩ := (HN.out (l.length - 1 - i) (by omega)).kept hB (Nat.le_refl _)
      subst hA
      obtain ⟨x0', x1', x2'⟩ := hx
      have hi1' : (i : Int) < (l.length : Int) := by omega
      have hi0' : (0 : Int) ≤ (i : Int) := by omega
      have hbw : bk < wr.heap.size := by omega
      have hst := around_step 3 l t i hil
      rw [← HUE.out] at hst
      obtain ⟨v, hv⟩ : ∃ v, l[l.length - 1 - i]'(by omega) = v := ⟨_, rfl⟩
      rw [hv] at hst hnode x0' x1' x2'
      obtain ⟨q, hq⟩ : ∃ q, l.length - 1 - i = q := ⟨_, rfl⟩
      rw [hq] at x0' x1' x2'
      have e1 : (l.length : Int) - 1 - (i : Int) = (q : Int) := by omega
      have hq1 : (q : Int) < (l.length : Int) := by omega
      have hq2 : q < l.length := by omega
      have hlm2 : (l.length : Int) ≤ 24 := by have := HL24.out; omega
      have w1' : IntKind.i64.wrap ((l.length : Int) - 1) = (l.length : Int) - 1 := IntWalk.i64_in _ (by omega)
      have w2' : IntKind.i64.wrap ((l.length : Int) - 1 - (i : Int)) = (q : Int) := by rw [IntWalk.i64_in _ (by omega)]; exact e1
      have HST := Lib.hid hst
      have HNO := Lib.hid hnode
      have HFIN : Hid (∀ (V w2 : World) (g : Nat), Below wr.heap.size wr V → V.heap.size ≤ g → Bk w2 g 24 #[.int .i64 v.k, .int .i64 v.n, .slice F v.l.length C, .int .i64 u.k, .int .i64 u.n, .slice A1 u.l.length c1] → Below V.heap.size V w2 →
          Bk w2 w.heap.size 24 #[.int .i64 u.k, .int .i64 u.n, .slice A1 u.l.length c1] ∧ Hid (LaidRel 3 l t w (.int .i64 ((i + 1 : Nat) : Int)) (((w2.setCell ⟨w.heap.size, 0, none⟩ (.int .i64 3)).setCell ⟨w.heap.size, 1, none⟩ (.int .i64 0)).setCell ⟨w.heap.size, 2, none⟩ (.slice (some ⟨g, 0, none⟩) 2 2)))) := Lib.hid (by
        intro V w2 g hV hg hb hb2
        have hbb := hV.trans (hb2.mono hV.size)
        have hgl := hb.lt
        have hVz := hV.size
        have hbz := hbb.size
        have K1 := HB1.out.below hbb (by omega)
        have K2 := HB2.out.below hbb (by omega)
        refine ⟨K1, ⟨i + 1, .node 3 0 [v, u], some ⟨g, 0, none⟩, 2, by omega, rfl, ?_, ?_, ?_, ?_, HST.out.symm⟩⟩
        · exact (((HBB.out.trans (hbb.mono hz)).setCell (by simp) _).setCell (by simp) _).setCell (by simp) _
        · exact ((K1.at_ 0 (.int .i64 3)).at_ 1 (.int .i64 0)).at_ 2 (.slice (some ⟨g, 0, none⟩) 2 2)
        · exact ((K2.far (by simp) _).far (by simp) _).far (by simp) _
        · have q1 : TermIn w2 (fun b => b < w2.heap.size ∧ b ≠ w.heap.size ∧ b ≠ w.heap.size + 1) u A1 c1 := HU.out.imp (fun b o hq => hbb.cell (p := ⟨b, o, none⟩) hq.1) (fun b hq => ⟨by omega, hq.2⟩)
          have q2 : TermIn w2 (fun b => b < w2.heap.size ∧ b ≠ w.heap.size ∧ b ≠ w.heap.size + 1) v F C := TermIn.imp (fun b o hq => hbb.cell (p := ⟨b, o, none⟩) (by show b < _; omega)) (fun b hq => ⟨by omega, by omega, by omega⟩) HNO.out
          have q3 := two_in q2 q1 hb (show g < w2.heap.size ∧ g ≠ w.heap.size ∧ g ≠ w.heap.size + 1 from ⟨hgl, by omega, by omega⟩) 3 0
          have q4 := q3.three (g := w.heap.size) (fun b hq => hq.2.1) (.int .i64 3) (.int .i64 0) (.slice (some ⟨g, 0, none⟩) 2 2)
          refine q4.imp (fun _ _ _ => rfl) (fun b hq => ⟨by rw [size_three]; exact hq.1, hq.2⟩))
      have HD1 := Lib.hid ((Below.refl wr.heap.size wr).drew)
      clear hst hnode hv hq e1 hi1 hil
      go_wp2_with fail
      go_region_with (first
        | (go_at_call 30
           refine (mk_pi _ _ _ _ _ _ _ _ _ _ _).mono ?_
           rintro e w2 ⟨g, rfl, hg, hb, hb2'⟩
           obtain ⟨K1, HR⟩ := HFIN.out _ w2 g HD1.out hg hb hb2'
           have hfz : ∀ q, w2.frozen? ⟨w.heap.size, q, none⟩ = false := fun q => K1.cold q
           have d0 : w2.cell? ⟨w.heap.size, 0, none⟩ = some (.int .i64 u.k) := K1.cell 0
           have d1 : w2.cell? ⟨w.heap.size, 1, none⟩ = some (.int .i64 u.n) := K1.cell 1
           have d2 : w2.cell? ⟨w.heap.size, 2, none⟩ = some (.slice A1 u.l.length c1) := K1.cell 2
           clear K1 hb hb2' hg))
      all_goals
        go_wp2_with fail
        go_roundw
        case rel => exact HR.out
        case measure => simp [intOf]; omega
    · obtain rfl : i = l.length := by omega
      have hfull : u = aroundT 3 l t := by rw [HUE.out, Nat.sub_self, List.drop_zero]
      rw [← hfull] at HE1
      have HU2 := Lib.hid (show IsTerm wr 0 wr.heap.size u A1 c1 from HU.out.imp (fun _ _ _ => rfl) (fun b hb => ⟨Nat.zero_le _, hb.1⟩))
      have CF := Lib.hid (shaped_any u 0 wr.heap.size A1 c1 wr HU2.out (Nat.le_refl _) (HSS.out _ HBB.out))
      have CP := Lib.hid (fun (V : World) (hV : Below wr.heap.size wr V) => tcopy_any u 0 wr.heap.size A1 c1 V (HU2.out.kept hV (Nat.le_refl _)) hV.size (HSS.out _ (HBB.out.trans (hV.mono HBB.out.size))))
      obtain ⟨bu, hbu⟩ : ∃ b, shapedB u = b := ⟨_, rfl⟩
      rw [hbu] at CF
      have HBU := Lib.hid hbu
      have hlt1 : w.heap.size < wr.heap.size := by omega
      unfold termV at CF CP
      clear hfull hbu
      go_wp2_with fail
      refine CF.out.mono ?_
      rintro e w2 ⟨rfl, hb2⟩
      have K1 := HB1.out.below hb2 hlt1
      have K2 := HB2.out.below hb2 hlt2
      have hz2 := hb2.size
      have HBF := Lib.hid (HBB.out.trans (hb2.mono hz))
      have HBX := Lib.hid hb2
      have HK2 := Lib.hid K2
      clear y0 y1 y2 yl hfz1 hb2
      have y0 : w2.cell? ⟨w.heap.size, 0, none⟩ = some (.int .i64 u.k) := K1.cell 0
      have y1 : w2.cell? ⟨w.heap.size, 1, none⟩ = some (.int .i64 u.n) := K1.cell 1
      have y2 : w2.cell? ⟨w.heap.size, 2, none⟩ = some (.slice A1 u.l.length c1) := K1.cell 2
      clear K1
      cases bu with
      | false =>
        have HE := Lib.hid (HE1.out.trans (gotX_no HBU.out))
        have hfz : ∀ q, w2.frozen? ⟨w.heap.size + 1, q, none⟩ = false := fun q => K2.cold q
        have d0 : w2.cell? ⟨w.heap.size + 1, 0, none⟩ = some (.int .i64 0) := K2.cell 0
        have d1 : w2.cell? ⟨w.heap.size + 1, 1, none⟩ = some (.int .i64 0) := K2.cell 1
        have d2 : w2.cell? ⟨w.heap.size + 1, 2, none⟩ = some (.slice none 0 0) := K2.cell 2
        have B5 := ((K2.at_ 0 (.int .i64 0)).at_ 1 (.int .i64 0)).at_ 2 (.slice none 0 0)
        have HS0 := Lib.hid (B5.cell 0)
        have HS1 := Lib.hid (B5.cell 1)
        have HS2 := Lib.hid (B5.cell 2)
        clear B5 K2
        go_wp2_with fail
        refine bodyPost_ret (v := .tuple #[.agg #[.int .i64 0, .int .i64 0, .slice none 0 0], .int .i64 2]) (by simp [results, Tryd.results29, go_sem, HS0.out, HS1.out, HS2.out]) rfl ?_
        rw [HE.out]
        exact give_zero HBF.out (by omega)
      | true =>
        have HE := Lib.hid (HE1.out.trans (gotX_yes HBU.out))
        clear K2
        go_wp2_with fail
        refine (CP.out _ HBX.out).mono ?_
        rintro e w3 (⟨hs, A', cap', P, rfl, hn, hp, hc, hb3⟩ | ⟨hs, _⟩)
        rotate_left
        · exact absurd (HBU.out.symm.trans hs) (by decide)
        have K2 := HK2.out.below hb3 (by omega)
        have hfz : ∀ q, w3.frozen? ⟨w.heap.size + 1, q, none⟩ = false := fun q => K2.cold q
        have d0 : w3.cell? ⟨w.heap.size + 1, 0, none⟩ = some (.int .i64 0) := K2.cell 0
        have d1 : w3.cell? ⟨w.heap.size + 1, 1, none⟩ = some (.int .i64 0) := K2.cell 1
        have d2 : w3.cell? ⟨w.heap.size + 1, 2, none⟩ = some (.slice none 0 0) := K2.cell 2
        have B5 := ((K2.at_ 0 (.int .i64 u.k)).at_ 1 (.int .i64 u.n)).at_ 2 (.slice A' u.l.length cap')
        have HS0 := Lib.hid (B5.cell 0)
        have HS1 := Lib.hid (B5.cell 1)
        have HS2 := Lib.hid (B5.cell 2)
        have HN3 := Lib.hid hn
        have HP3 := Lib.hid hp
        have HBG := Lib.hid (HBF.out.trans (hb3.mono HBF.out.size))
        clear B5 K2 hn hp hc hb3
        rw [termV]
        go_wp2_with fail
        refine bodyPost_ret (v := .tuple #[.agg #[.int .i64 u.k, .int .i64 u.n, .slice A' u.l.length cap'], .int .i64 0]) (by simp [results, Tryd.results29, go_sem, HS0.out, HS1.out, HS2.out]) rfl ?_
        rw [HE.out]
        exact ⟨A', cap', rfl, (HN3.out.term.three (g := w.heap.size + 1) (fun b hq e => by have := HP3.out b hq; omega) _ _ _).imp (fun _ _ _ => rfl) (fun b hq => ⟨by have := HP3.out b hq; have := HBF.out.size; omega, by rw [size_three]; exact (HP3.out b hq).2⟩), ((HBG.out.setCell (by simp) _).setCell (by simp) _).setCell (by simp) _⟩

set_option maxHeartbeats 4000000 in
theorem laid_lam (l : List TM) (A_l : Option Addr) (c_l : Nat) (t : TM) (A_t : Option Addr) (c_t : Nat) (w : World) (hl : IsTerms w 0 w.heap.size l A_l c_l) (ht : IsTerm w 0 w.heap.size t A_t c_t) (hS : ShapesM w) :
    Calls Tryd.prog 29 #[.slice A_l l.length c_l, termV t A_t c_t, .func (.func 32) #[] #[]] w (GivesT (aroundX 4 l t) w) := by
  obtain ⟨hlb, hlm⟩ := hl.bounds
  have HW := Lib.hid (show Below w.heap.size w ((w.alloc (.cells #[.int .i64 t.k, .int .i64 t.n, .slice A_t t.l.length c_t] 24)).alloc (.cells #[.int .i64 0, .int .i64 0, .slice none 0 0] 24)) from ((Below.refl w.heap.size w).alloc (by simp <;> omega) (.cells #[.int .i64 t.k, .int .i64 t.n, .slice A_t t.l.length c_t] 24)).alloc (by simp <;> omega) (.cells #[.int .i64 0, .int .i64 0, .slice none 0 0] 24))
  have KB := Lib.hid (fun (V : World) (hV : Below ((w.alloc (.cells #[.int .i64 t.k, .int .i64 t.n, .slice A_t t.l.length c_t] 24)).alloc (.cells #[.int .i64 0, .int .i64 0, .slice none 0 0] 24)).heap.size ((w.alloc (.cells #[.int .i64 t.k, .int .i64 t.n, .slice A_t t.l.length c_t] 24)).alloc (.cells #[.int .i64 0, .int .i64 0, .slice none 0 0] 24)) V) => (show Bk V w.heap.size 24 #[.int .i64 t.k, .int .i64 t.n, .slice A_t t.l.length c_t] ∧ Bk V (w.heap.size + 1) 24 #[.int .i64 0, .int .i64 0, .slice none 0 0] from ⟨((Bk.new w 24 _).alloc _).below hV (by simp <;> omega), (Bk.last (w.alloc (.cells #[.int .i64 t.k, .int .i64 t.n, .slice A_t t.l.length c_t] 24)) 24 #[.int .i64 0, .int .i64 0, .slice none 0 0] (g := w.heap.size + 1) (by simp)).below hV (by simp <;> omega)⟩))
  have CC0 := Lib.hid (fun (V : World) (hV : Below w.heap.size w V) => shaped_any t 0 w.heap.size A_t c_t V (ht.kept hV (Nat.le_refl _)) hV.size (hS.kept hV))
  have CC1 := Lib.hid (fun (V : World) (hV : Below w.heap.size w V) => containsL_any l 0 w.heap.size A_l c_l V (hl.kept hV (Nat.le_refl _)) hV.size (hS.kept hV))
  have HSS := Lib.hid (fun (V : World) (hV : Below w.heap.size w V) => hS.kept hV)
  have HT := Lib.hid ht
  have HN := Lib.hid hl.sub
  unfold maxLen at hlm
  have HXX : Hid (∀ u, u = aroundT 4 l t → u = aroundT 4 l t) := Lib.hid (fun _ h => h)
  obtain ⟨RR, hRR⟩ : ∃ RR, aroundX 4 l t = RR := ⟨_, rfl⟩
  rw [hRR]
  obtain ⟨bt, hbt⟩ : ∃ b, shapedB t = b := ⟨_, rfl⟩
  rw [hbt] at CC0
  obtain ⟨bl, hbl⟩ : ∃ b, l.all shapedB = b := ⟨_, rfl⟩
  rw [hbl] at CC1
  have HLE := Lib.hid (Below.refl ((w.alloc (.cells #[.int .i64 t.k, .int .i64 t.n, .slice A_t t.l.length c_t] 24)).alloc (.cells #[.int .i64 0, .int .i64 0, .slice none 0 0] 24)).heap.size ((w.alloc (.cells #[.int .i64 t.k, .int .i64 t.n, .slice A_t t.l.length c_t] 24)).alloc (.cells #[.int .i64 0, .int .i64 0, .slice none 0 0] 24)))
  clear hl ht hS
  unfold termV at CC0 ⊢
  by_cases h24 : 24 < l.length
  · have t0 : decide ((24 : Int) < (l.length : Int)) = true := decide_eq_true (by omega)
    have HE := Lib.hid (hRR.symm.trans (around_24 h24))
    clear h24 hRR hbt hbl
    go_enter Tryd.func29, Tryd.ntmps29
    have HBF := Lib.hid HW.out
    go_wp2_with fail
    refine bodyPost_ret (v := .tuple #[.agg #[.int .i64 0, .int .i64 0, .slice none 0 0], .int .i64 2]) (by simp [results, Tryd.results29, go_sem]) rfl ?_
    rw [HE.out]
    refine ⟨none, 0, rfl, leaf_in _ _ 0 0, ?_⟩
    first | exact HBF.out | exact ((HBF.out.setCell (by simp) _).setCell (by simp) _).setCell (by simp) _
  have t0 : decide ((24 : Int) < (l.length : Int)) = false := decide_eq_false (by omega)
  have HX0 := Lib.hid (fun (h : (bt && bl) = false) => hRR.symm.trans (around_no h24 (by rw [hbt, hbl]; exact h)))
  have HX1 := Lib.hid (fun (h : (bt && bl) = true) => hRR.symm.trans (around_yes h24 (by rw [hbt, hbl]; exact h)))
  have HL24 := Lib.hid (show l.length ≤ 24 by omega)
  clear h24 hRR hbt hbl
  go_enter Tryd.func29, Tryd.ntmps29
  go_wp2_with fail
  refine (CC0.out _ HW.out).mono ?_
  rintro e w0 ⟨rfl, hc0⟩
  have hb0 := Lib.hid (hc0.mono (Nat.le_refl _))
  clear hc0
  have b00 : w0.cell? ⟨w.heap.size, 0, none⟩ = some (.int .i64 t.k) := (KB.out _ hb0.out).1.cell 0
  have b01 : w0.cell? ⟨w.heap.size, 1, none⟩ = some (.int .i64 t.n) := (KB.out _ hb0.out).1.cell 1
  have b02 : w0.cell? ⟨w.heap.size, 2, none⟩ = some (.slice A_t t.l.length c_t) := (KB.out _ hb0.out).1.cell 2
  have b10 : w0.cell? ⟨w.heap.size + 1, 0, none⟩ = some (.int .i64 0) := (KB.out _ hb0.out).2.cell 0
  have b11 : w0.cell? ⟨w.heap.size + 1, 1, none⟩ = some (.int .i64 0) := (KB.out _ hb0.out).2.cell 1
  have b12 : w0.cell? ⟨w.heap.size + 1, 2, none⟩ = some (.slice none 0 0) := (KB.out _ hb0.out).2.cell 2
  have hfz : ∀ o, w0.frozen? ⟨w.heap.size + 1, o, none⟩ = false := fun o => (KB.out _ hb0.out).2.cold o
  cases bt with
  | false =>
    have HE := Lib.hid (HX0.out (by simp))
    have B5 := (((KB.out _ hb0.out).2.at_ 0 (.int .i64 0)).at_ 1 (.int .i64 0)).at_ 2 (.slice none 0 0)
    have HS0 := Lib.hid (B5.cell 0)
    have HS1 := Lib.hid (B5.cell 1)
    have HS2 := Lib.hid (B5.cell 2)
    have HBF := Lib.hid (HW.out.trans (hb0.out.mono (by simp <;> omega)))
    clear B5
    go_wp2_with fail
    refine bodyPost_ret (v := .tuple #[.agg #[.int .i64 0, .int .i64 0, .slice none 0 0], .int .i64 5]) (by simp [results, Tryd.results29, go_sem, HS0.out, HS1.out, HS2.out]) rfl ?_
    rw [HE.out]
    exact give_zero HBF.out (by omega)
  | true =>
  go_wp2_with fail
  refine (CC1.out _ (HW.out.trans (hb0.out.mono (by simp <;> omega)))).mono ?_
  rintro e w1 ⟨rfl, hc1⟩
  have hb1 := Lib.hid (hb0.out.trans (hc1.mono hb0.out.size))
  clear hc1
  clear b00 b01 b02 b10 b11 b12 hfz
  have b00 : w1.cell? ⟨w.heap.size, 0, none⟩ = some (.int .i64 t.k) := (KB.out _ hb1.out).1.cell 0
  have b01 : w1.cell? ⟨w.heap.size, 1, none⟩ = some (.int .i64 t.n) := (KB.out _ hb1.out).1.cell 1
  have b02 : w1.cell? ⟨w.heap.size, 2, none⟩ = some (.slice A_t t.l.length c_t) := (KB.out _ hb1.out).1.cell 2
  have b10 : w1.cell? ⟨w.heap.size + 1, 0, none⟩ = some (.int .i64 0) := (KB.out _ hb1.out).2.cell 0
  have b11 : w1.cell? ⟨w.heap.size + 1, 1, none⟩ = some (.int .i64 0) := (KB.out _ hb1.out).2.cell 1
  have b12 : w1.cell? ⟨w.heap.size + 1, 2, none⟩ = some (.slice none 0 0) := (KB.out _ hb1.out).2.cell 2
  have hfz : ∀ o, w1.frozen? ⟨w.heap.size + 1, o, none⟩ = false := fun o => (KB.out _ hb1.out).2.cold o
  cases bl with
  | false =>
    have HE := Lib.hid (HX0.out (by simp))
    have B5 := (((KB.out _ hb1.out).2.at_ 0 (.int .i64 0)).at_ 1 (.int .i64 0)).at_ 2 (.slice none 0 0)
    have HS0 := Lib.hid (B5.cell 0)
    have HS1 := Lib.hid (B5.cell 1)
    have HS2 := Lib.hid (B5.cell 2)
    have HBF := Lib.hid (HW.out.trans (hb1.out.mono (by simp <;> omega)))
    clear B5
    go_wp2_with fail
    refine bodyPost_ret (v := .tuple #[.agg #[.int .i64 0, .int .i64 0, .slice none 0 0], .int .i64 5]) (by simp [results, Tryd.results29, go_sem, HS0.out, HS1.out, HS2.out]) rfl ?_
    rw [HE.out]
    exact give_zero HBF.out (by omega)
  | true =>
  have HE1 := Lib.hid (HX1.out rfl)
  have hst := hb1.out.size
  simp at hst
  clear HX0 HX1 CC0 CC1
  go_wp2_with fail
  go_loopw [23] (LaidRel 4 l t w) (fun iv _ => l.length - (intOf iv).toNat)
  case atStart =>
    exact ⟨0, t, A_t, c_t, Nat.zero_le _, rfl, HW.out.trans (hb1.out.mono (by simp <;> omega)), (KB.out _ hb1.out).1, (KB.out _ hb1.out).2, TermIn.imp (fun b o hb => (HW.out.trans (hb1.out.mono (by simp <;> omega))).cell (p := ⟨b, o, none⟩) hb.2) (fun b hb => ⟨by have := hb.2; omega, by have := hb.2; omega, by have := hb.2; omega⟩) HT.out, by rw [Nat.sub_zero, List.drop_length]; rfl⟩
  case round =>
    clear b00 b01 b02 b10 b11 b12 hfz hst
    obtain ⟨i, u, A1, c1, hi1, rfl, hB, b1, b2, hu, hue⟩ := hrel
    have hz := hB.size
    have hlt2 := b2.lt
    have HB1 := Lib.hid b1
    have HB2 := Lib.hid b2
    have HU := Lib.hid hu
    have HUE := Lib.hid hue
    have HBB := Lib.hid hB
    have hfz1 : ∀ q, wr.frozen? ⟨w.heap.size, q, none⟩ = false := fun q => b1.cold q
    obtain ⟨y0, y1, y2, yl⟩ := (TBox.of b1 : TBox wr w.heap.size u.k u.n (.slice A1 u.l.length c1))
    clear b1 b2 hu hue
    by_cases hil : i < l.length
    · obtain ⟨bk, o, F, C, hA, hb1, hb2, hx, hnode⟩ := (HN.out (l.length - 1 - i) (by omega)).kept hB (Nat.le_refl _)
      subst hA
      obtain ⟨x0', x1', x2'⟩ := hx
      have hi1' : (i : Int) < (l.length : Int) := by omega
      have hi0' : (0 : Int) ≤ (i : Int) := by omega
      have hbw : bk < wr.heap.size := by omega
      have hst := around_step 4 l t i hil
      rw [← HUE.out] at hst
      obtain ⟨v, hv⟩ : ∃ v, l[l.length - 1 - i]'(by omega) = v := ⟨_, rfl⟩
      rw [hv] at hst hnode x0' x1' x2'
      obtain ⟨q, hq⟩ : ∃ q, l.length - 1 - i = q := ⟨_, rfl⟩
      rw [hq] at x0' x1' x2'
      have e1 : (l.length : Int) - 1 - (i : Int) = (q : Int) := by omega
      have hq1 : (q : Int) < (l.length : Int) := by omega
      have hq2 : q < l.length := by omega
      have hlm2 : (l.length : Int) ≤ 24 := by have := HL24.out; omega
      have w1' : IntKind.i64.wrap ((l.length : Int) - 1) = (l.length : Int) - 1 := IntWalk.i64_in _ (by omega)
      have w2' : IntKind.i64.wrap ((l.length : Int) - 1 - (i : Int)) = (q : Int) := by rw [IntWalk.i64_in _ (by omega)]; exact e1
      have HST := Lib.hid hst
      have HNO := Lib.hid hnode
      have HFIN : Hid (∀ (V w2 : World) (g : Nat), Below wr.heap.size wr V → V.heap.size ≤ g → Bk w2 g 24 #[.int .i64 v.k, .int .i64 v.n, .slice F v.l.length C, .int .i64 u.k, .int .i64 u.n, .slice A1 u.l.length c1] → Below V.heap.size V w2 →
          Bk w2 w.heap.size 24 #[.int .i64 u.k, .int .i64 u.n, .slice A1 u.l.length c1] ∧ Hid (LaidRel 4 l t w (.int .i64 ((i + 1 : Nat) : Int)) (((w2.setCell ⟨w.heap.size, 0, none⟩ (.int .i64 4)).setCell ⟨w.heap.size, 1, none⟩ (.int .i64 0)).setCell ⟨w.heap.size, 2, none⟩ (.slice (some ⟨g, 0, none⟩) 2 2)))) := Lib.hid (by
        intro V w2 g hV hg hb hb2
        have hbb := hV.trans (hb2.mono hV.size)
        have hgl := hb.lt
        have hVz := hV.size
        have hbz := hbb.size
        have K1 := HB1.out.below hbb (by omega)
        have K2 := HB2.out.below hbb (by omega)
        refine ⟨K1, ⟨i + 1, .node 4 0 [v, u], some ⟨g, 0, none⟩, 2, by omega, rfl, ?_, ?_, ?_, ?_, HST.out.symm⟩⟩
        · exact (((HBB.out.trans (hbb.mono hz)).setCell (by simp) _).setCell (by simp) _).setCell (by simp) _
        · exact ((K1.at_ 0 (.int .i64 4)).at_ 1 (.int .i64 0)).at_ 2 (.slice (some ⟨g, 0, none⟩) 2 2)
        · exact ((K2.far (by simp) _).far (by simp) _).far (by simp) _
        · have q1 : TermIn w2 (fun b => b < w2.heap.size ∧ b ≠ w.heap.size ∧ b ≠ w.heap.size + 1) u A1 c1 := HU.out.imp (fun b o hq => hbb.cell (p := ⟨b, o, none⟩) hq.1) (fun b hq => ⟨by omega, hq.2⟩)
          have q2 : TermIn w2 (fun b => b < w2.heap.size ∧ b ≠ w.heap.size ∧ b ≠ w.heap.size + 1) v F C := TermIn.imp (fun b o hq => hbb.cell (p := ⟨b, o, none⟩) (by show b < _; omega)) (fun b hq => ⟨by omega, by omega, by omega⟩) HNO.out
          have q3 := two_in q2 q1 hb (show g < w2.heap.size ∧ g ≠ w.heap.size ∧ g ≠ w.heap.size + 1 from ⟨hgl, by omega, by omega⟩) 4 0
          have q4 := q3.three (g := w.heap.size) (fun b hq => hq.2.1) (.int .i64 4) (.int .i64 0) (.slice (some ⟨g, 0, none⟩) 2 2)
          refine q4.imp (fun _ _ _ => rfl) (fun b hq => ⟨by rw [size_three]; exact hq.1, hq.2⟩))
      have HD1 := Lib.hid ((Below.refl wr.heap.size wr).drew)
      clear hst hnode hv hq e1 hi1 hil
      go_wp2_with fail
      go_region_with (first
        | (go_at_call 32
           refine (mk_lam _ _ _ _ _ _ _ _ _ _ _).mono ?_
           rintro e w2 ⟨g, rfl, hg, hb, hb2'⟩
           obtain ⟨K1, HR⟩ := HFIN.out _ w2 g HD1.out hg hb hb2'
           have hfz : ∀ q, w2.frozen? ⟨w.heap.size, q, none⟩ = false := fun q => K1.cold q
           have d0 : w2.cell? ⟨w.heap.size, 0, none⟩ = some (.int .i64 u.k) := K1.cell 0
           have d1 : w2.cell? ⟨w.heap.size, 1, none⟩ = some (.int .i64 u.n) := K1.cell 1
           have d2 : w2.cell? ⟨w.heap.size, 2, none⟩ = some (.slice A1 u.l.length c1) := K1.cell 2
           clear K1 hb hb2' hg))
      all_goals
        go_wp2_with fail
        go_roundw
        case rel => exact HR.out
        case measure => simp [intOf]; omega
    · obtain rfl : i = l.length := by omega
      have hfull : u = aroundT 4 l t := by rw [HUE.out, Nat.sub_self, List.drop_zero]
      rw [← hfull] at HE1
      have HU2 := Lib.hid (show IsTerm wr 0 wr.heap.size u A1 c1 from HU.out.imp (fun _ _ _ => rfl) (fun b hb => ⟨Nat.zero_le _, hb.1⟩))
      have CF := Lib.hid (shaped_any u 0 wr.heap.size A1 c1 wr HU2.out (Nat.le_refl _) (HSS.out _ HBB.out))
      have CP := Lib.hid (fun (V : World) (hV : Below wr.heap.size wr V) => tcopy_any u 0 wr.heap.size A1 c1 V (HU2.out.kept hV (Nat.le_refl _)) hV.size (HSS.out _ (HBB.out.trans (hV.mono HBB.out.size))))
      obtain ⟨bu, hbu⟩ : ∃ b, shapedB u = b := ⟨_, rfl⟩
      rw [hbu] at CF
      have HBU := Lib.hid hbu
      have hlt1 : w.heap.size < wr.heap.size := by omega
      unfold termV at CF CP
      clear hfull hbu
      go_wp2_with fail
      refine CF.out.mono ?_
      rintro e w2 ⟨rfl, hb2⟩
      have K1 := HB1.out.below hb2 hlt1
      have K2 := HB2.out.below hb2 hlt2
      have hz2 := hb2.size
      have HBF := Lib.hid (HBB.out.trans (hb2.mono hz))
      have HBX := Lib.hid hb2
      have HK2 := Lib.hid K2
      clear y0 y1 y2 yl hfz1 hb2
      have y0 : w2.cell? ⟨w.heap.size, 0, none⟩ = some (.int .i64 u.k) := K1.cell 0
      have y1 : w2.cell? ⟨w.heap.size, 1, none⟩ = some (.int .i64 u.n) := K1.cell 1
      have y2 : w2.cell? ⟨w.heap.size, 2, none⟩ = some (.slice A1 u.l.length c1) := K1.cell 2
      clear K1
      cases bu with
      | false =>
        have HE := Lib.hid (HE1.out.trans (gotX_no HBU.out))
        have hfz : ∀ q, w2.frozen? ⟨w.heap.size + 1, q, none⟩ = false := fun q => K2.cold q
        have d0 : w2.cell? ⟨w.heap.size + 1, 0, none⟩ = some (.int .i64 0) := K2.cell 0
        have d1 : w2.cell? ⟨w.heap.size + 1, 1, none⟩ = some (.int .i64 0) := K2.cell 1
        have d2 : w2.cell? ⟨w.heap.size + 1, 2, none⟩ = some (.slice none 0 0) := K2.cell 2
        have B5 := ((K2.at_ 0 (.int .i64 0)).at_ 1 (.int .i64 0)).at_ 2 (.slice none 0 0)
        have HS0 := Lib.hid (B5.cell 0)
        have HS1 := Lib.hid (B5.cell 1)
        have HS2 := Lib.hid (B5.cell 2)
        clear B5 K2
        go_wp2_with fail
        refine bodyPost_ret (v := .tuple #[.agg #[.int .i64 0, .int .i64 0, .slice none 0 0], .int .i64 2]) (by simp [results, Tryd.results29, go_sem, HS0.out, HS1.out, HS2.out]) rfl ?_
        rw [HE.out]
        exact give_zero HBF.out (by omega)
      | true =>
        have HE := Lib.hid (HE1.out.trans (gotX_yes HBU.out))
        clear K2
        go_wp2_with fail
        refine (CP.out _ HBX.out).mono ?_
        rintro e w3 (⟨hs, A', cap', P, rfl, hn, hp, hc, hb3⟩ | ⟨hs, _⟩)
        rotate_left
        · exact absurd (HBU.out.symm.trans hs) (by decide)
        have K2 := HK2.out.below hb3 (by omega)
        have hfz : ∀ q, w3.frozen? ⟨w.heap.size + 1, q, none⟩ = false := fun q => K2.cold q
        have d0 : w3.cell? ⟨w.heap.size + 1, 0, none⟩ = some (.int .i64 0) := K2.cell 0
        have d1 : w3.cell? ⟨w.heap.size + 1, 1, none⟩ = some (.int .i64 0) := K2.cell 1
        have d2 : w3.cell? ⟨w.heap.size + 1, 2, none⟩ = some (.slice none 0 0) := K2.cell 2
        have B5 := ((K2.at_ 0 (.int .i64 u.k)).at_ 1 (.int .i64 u.n)).at_ 2 (.slice A' u.l.length cap')
        have HS0 := Lib.hid (B5.cell 0)
        have HS1 := Lib.hid (B5.cell 1)
        have HS2 := Lib.hid (B5.cell 2)
        have HN3 := Lib.hid hn
        have HP3 := Lib.hid hp
        have HBG := Lib.hid (HBF.out.trans (hb3.mono HBF.out.size))
        clear B5 K2 hn hp hc hb3
        rw [termV]
        go_wp2_with fail
        refine bodyPost_ret (v := .tuple #[.agg #[.int .i64 u.k, .int .i64 u.n, .slice A' u.l.length cap'], .int .i64 0]) (by simp [results, Tryd.results29, go_sem, HS0.out, HS1.out, HS2.out]) rfl ?_
        rw [HE.out]
        exact ⟨A', cap', rfl, (HN3.out.term.three (g := w.heap.size + 1) (fun b hq e => by have := HP3.out b hq; omega) _ _ _).imp (fun _ _ _ => rfl) (fun b hq => ⟨by have := HP3.out b hq; have := HBF.out.size; omega, by rw [size_three]; exact (HP3.out b hq).2⟩), ((HBG.out.setCell (by simp) _).setCell (by simp) _).setCell (by simp) _⟩

set_option maxHeartbeats 1000000 in
theorem pis_any (l : List TM) (A_l : Option Addr) (c_l : Nat) (t : TM) (A_t : Option Addr) (c_t : Nat) (w : World) (hl : IsTerms w 0 w.heap.size l A_l c_l) (ht : IsTerm w 0 w.heap.size t A_t c_t) (hS : ShapesM w) :
    Calls Tryd.prog 10 #[.slice A_l l.length c_l, termV t A_t c_t] w (GivesT (aroundX 3 l t) w) := by
  have HW := Lib.hid (show Below w.heap.size w ((w.alloc (.cells #[.int .i64 t.k, .int .i64 t.n, .slice A_t t.l.length c_t] 24)).alloc (.cells #[.int .i64 0, .int .i64 0, .slice none 0 0] 24)) from ((Below.refl w.heap.size w).alloc (by simp <;> omega) (.cells #[.int .i64 t.k, .int .i64 t.n, .slice A_t t.l.length c_t] 24)).alloc (by simp <;> omega) (.cells #[.int .i64 0, .int .i64 0, .slice none 0 0] 24))
  have KB := Lib.hid (fun (V : World) (hV : Below ((w.alloc (.cells #[.int .i64 t.k, .int .i64 t.n, .slice A_t t.l.length c_t] 24)).alloc (.cells #[.int .i64 0, .int .i64 0, .slice none 0 0] 24)).heap.size ((w.alloc (.cells #[.int .i64 t.k, .int .i64 t.n, .slice A_t t.l.length c_t] 24)).alloc (.cells #[.int .i64 0, .int .i64 0, .slice none 0 0] 24)) V) => (show Bk V (w.heap.size + 1) 24 #[.int .i64 0, .int .i64 0, .slice none 0 0] from (Bk.last (w.alloc (.cells #[.int .i64 t.k, .int .i64 t.n, .slice A_t t.l.length c_t] 24)) 24 #[.int .i64 0, .int .i64 0, .slice none 0 0] (g := w.heap.size + 1) (by simp)).below hV (by simp <;> omega)))
  have CF := Lib.hid (laid_pi l A_l c_l t A_t c_t ((w.alloc (.cells #[.int .i64 t.k, .int .i64 t.n, .slice A_t t.l.length c_t] 24)).alloc (.cells #[.int .i64 0, .int .i64 0, .slice none 0 0] 24)) ((hl.kept HW.out (Nat.le_refl _)).wide (Nat.le_refl _) (by simp <;> omega)) ((ht.kept HW.out (Nat.le_refl _)).wide (Nat.le_refl _) (by simp <;> omega)) (hS.kept HW.out))
  obtain ⟨x, c, hxc⟩ : ∃ x c, aroundX 3 l t = (x, c) := ⟨_, _, rfl⟩
  rw [hxc] at CF ⊢
  unfold GivesT termV at CF
  unfold termV
  clear hl ht hS hxc
  go_enter Tryd.func10, Tryd.ntmps10
  go_wp2_with fail
  refine CF.out.mono ?_
  rintro e wf ⟨A', cap', rfl, hxf, hcf⟩
  have HBF := Lib.hid (HW.out.trans (hcf.mono (by simp <;> omega)))
  have HXF := Lib.hid hxf
  have K2 := KB.out _ hcf
  have hfz : ∀ o, wf.frozen? ⟨w.heap.size + 1, o, none⟩ = false := fun o => K2.cold o
  have d0 : wf.cell? ⟨w.heap.size + 1, 0, none⟩ = some (.int .i64 0) := K2.cell 0
  have d1 : wf.cell? ⟨w.heap.size + 1, 1, none⟩ = some (.int .i64 0) := K2.cell 1
  have d2 : wf.cell? ⟨w.heap.size + 1, 2, none⟩ = some (.slice none 0 0) := K2.cell 2
  have B5 := ((K2.at_ 0 (.int .i64 x.k)).at_ 1 (.int .i64 x.n)).at_ 2 (.slice A' x.l.length cap')
  have HS0 := Lib.hid (B5.cell 0)
  have HS1 := Lib.hid (B5.cell 1)
  have HS2 := Lib.hid (B5.cell 2)
  clear B5 K2 hcf hxf
  go_wp2_with fail
  refine bodyPost_ret (v := .tuple #[.agg #[.int .i64 x.k, .int .i64 x.n, .slice A' x.l.length cap'], .int .i64 c]) (by simp [results, Tryd.results10, go_sem, HS0.out, HS1.out, HS2.out]) rfl ?_
  exact give_term HBF.out (by omega) HXF.out (by simp)

set_option maxHeartbeats 1000000 in
theorem lams_any (l : List TM) (A_l : Option Addr) (c_l : Nat) (t : TM) (A_t : Option Addr) (c_t : Nat) (w : World) (hl : IsTerms w 0 w.heap.size l A_l c_l) (ht : IsTerm w 0 w.heap.size t A_t c_t) (hS : ShapesM w) :
    Calls Tryd.prog 12 #[.slice A_l l.length c_l, termV t A_t c_t] w (GivesT (aroundX 4 l t) w) := by
  have HW := Lib.hid (show Below w.heap.size w ((w.alloc (.cells #[.int .i64 t.k, .int .i64 t.n, .slice A_t t.l.length c_t] 24)).alloc (.cells #[.int .i64 0, .int .i64 0, .slice none 0 0] 24)) from ((Below.refl w.heap.size w).alloc (by simp <;> omega) (.cells #[.int .i64 t.k, .int .i64 t.n, .slice A_t t.l.length c_t] 24)).alloc (by simp <;> omega) (.cells #[.int .i64 0, .int .i64 0, .slice none 0 0] 24))
  have KB := Lib.hid (fun (V : World) (hV : Below ((w.alloc (.cells #[.int .i64 t.k, .int .i64 t.n, .slice A_t t.l.length c_t] 24)).alloc (.cells #[.int .i64 0, .int .i64 0, .slice none 0 0] 24)).heap.size ((w.alloc (.cells #[.int .i64 t.k, .int .i64 t.n, .slice A_t t.l.length c_t] 24)).alloc (.cells #[.int .i64 0, .int .i64 0, .slice none 0 0] 24)) V) => (show Bk V (w.heap.size + 1) 24 #[.int .i64 0, .int .i64 0, .slice none 0 0] from (Bk.last (w.alloc (.cells #[.int .i64 t.k, .int .i64 t.n, .slice A_t t.l.length c_t] 24)) 24 #[.int .i64 0, .int .i64 0, .slice none 0 0] (g := w.heap.size + 1) (by simp)).below hV (by simp <;> omega)))
  have CF := Lib.hid (laid_lam l A_l c_l t A_t c_t ((w.alloc (.cells #[.int .i64 t.k, .int .i64 t.n, .slice A_t t.l.length c_t] 24)).alloc (.cells #[.int .i64 0, .int .i64 0, .slice none 0 0] 24)) ((hl.kept HW.out (Nat.le_refl _)).wide (Nat.le_refl _) (by simp <;> omega)) ((ht.kept HW.out (Nat.le_refl _)).wide (Nat.le_refl _) (by simp <;> omega)) (hS.kept HW.out))
  obtain ⟨x, c, hxc⟩ : ∃ x c, aroundX 4 l t = (x, c) := ⟨_, _, rfl⟩
  rw [hxc] at CF ⊢
  unfold GivesT termV at CF
  unfold termV
  clear hl ht hS hxc
  go_enter Tryd.func12, Tryd.ntmps12
  go_wp2_with fail
  refine CF.out.mono ?_
  rintro e wf ⟨A', cap', rfl, hxf, hcf⟩
  have HBF := Lib.hid (HW.out.trans (hcf.mono (by simp <;> omega)))
  have HXF := Lib.hid hxf
  have K2 := KB.out _ hcf
  have hfz : ∀ o, wf.frozen? ⟨w.heap.size + 1, o, none⟩ = false := fun o => K2.cold o
  have d0 : wf.cell? ⟨w.heap.size + 1, 0, none⟩ = some (.int .i64 0) := K2.cell 0
  have d1 : wf.cell? ⟨w.heap.size + 1, 1, none⟩ = some (.int .i64 0) := K2.cell 1
  have d2 : wf.cell? ⟨w.heap.size + 1, 2, none⟩ = some (.slice none 0 0) := K2.cell 2
  have B5 := ((K2.at_ 0 (.int .i64 x.k)).at_ 1 (.int .i64 x.n)).at_ 2 (.slice A' x.l.length cap')
  have HS0 := Lib.hid (B5.cell 0)
  have HS1 := Lib.hid (B5.cell 1)
  have HS2 := Lib.hid (B5.cell 2)
  clear B5 K2 hcf hxf
  go_wp2_with fail
  refine bodyPost_ret (v := .tuple #[.agg #[.int .i64 x.k, .int .i64 x.n, .slice A' x.l.length cap'], .int .i64 c]) (by simp [results, Tryd.results12, go_sem, HS0.out, HS1.out, HS2.out]) rfl ?_
  exact give_term HBF.out (by omega) HXF.out (by simp)

end Go.Proofs.YtofmoggjpgjdgaaDoor
