/- print.Decl, print.File: the text of declarations, or why there is none. -/
import Derived.Test.YteaojmcfppbgiaaGreatDoorPrD
import Derived.Test.YteaojmcfppbgiaaGreatDoorD3
import Derived.Test.YteaojmcfppbgiaaGreatDoorDRight
namespace Go.Proofs.YteaojmcfppbgiaaGreatDoor
open Go.RowKit
set_option linter.unusedVariables false
set_option maxRecDepth 100000

theorem allB_mem2 {α : Type} {f : α → Bool} {l : List α} (h : allB (fun i => (l[i]?.map f).getD true) l.length = true) : ∀ x ∈ l, f x = true := by
  intro x hx
  obtain ⟨i, hi, rfl⟩ := List.getElem_of_mem hx
  have := allB_true.1 h i hi
  rwa [mapAt f hi] at this
theorem allB_of_mem {α : Type} {f : α → Bool} {l : List α} (h : ∀ x ∈ l, f x = true) : allB (fun i => (l[i]?.map f).getD true) l.length = true :=
  allB_true.2 (fun i hi => by rw [mapAt f hi]; exact h _ (List.getElem_mem hi))
theorem declB_parts {x : DT} (h : declB x = true) : ∃ K : Nat, x.k = K ∧ 1 ≤ K ∧ K ≤ 3 ∧ x.s.size ≤ 65535 ∧ (∀ y ∈ x.te, y.s.size ≤ 65535 ∧ goodB y.t false = true) ∧ goodB x.t false = true ∧ (∀ y ∈ x.co, y.s.size ≤ 65535 ∧ goodB y.t false = true) ∧
    ∀ y ∈ x.ro, (∀ t ∈ y.ps, goodB t true = true) ∧ (y.h = true → goodB y.t false = true) := by
  unfold declB at h
  simp only [Bool.and_eq_true, decide_eq_true_eq] at h
  obtain ⟨h1, h2, h3, h4, h5, h6, h7, h8⟩ := h
  have hb : ∀ l : List BT, bindsB l = true → ∀ y ∈ l, y.s.size ≤ 65535 ∧ goodB y.t false = true := fun l hl y hy => by
    have := allB_mem2 hl y hy
    unfold bindB exprB at this
    simp only [Bool.and_eq_true] at this
    exact ⟨nm_size this.1, this.2.2⟩
  unfold exprB at h6
  rw [Bool.and_eq_true] at h6
  refine ⟨x.k.toNat, by omega, by omega, by omega, nm_size h3, hb _ h5, h6.2, hb _ h7, fun y hy => ?_⟩
  have := allB_mem2 h8 y hy
  unfold rowB at this
  simp only [Bool.and_eq_true] at this
  obtain ⟨-, h9, h10⟩ := this
  refine ⟨fun t ht => ?_, fun hh => ?_⟩
  · have := allB_mem2 h9 t ht
    unfold patB at this
    rw [Bool.and_eq_true] at this
    exact this.2
  · rw [hh, if_pos rfl] at h10
    unfold exprB at h10
    rw [Bool.and_eq_true] at h10
    exact h10.2

/-- What decl does with a right declaration. -/
theorem declw_any (x : DT) (p : DP) {lo hi b : Nat} {T : Tx} {w : World} (hd : declB x = true) (h : IsDecl w lo hi x p) (hhi : hi ≤ b) (hg : 2 < b) (hgw : 1 < b) (hbr : Bare w) (hwd : Words w) (hw : WrAt w b T) :
    Calls Tryz.prog 29 #[.pointer (some ⟨b, 0, none⟩), declV x p] w (PutIs b T (declX x) w) := by
  obtain ⟨K, h1, h2, h3, h4, h5, h6, h7, h8⟩ := declB_parts hd
  obtain ⟨k, a, s, te, u, co, ro⟩ := x
  obtain rfl : k = (K : Int) := h1
  exact decl_is K h2 h3 a s te u co ro p.A p.a p.F p.C p.B p.b p.D p.d h hhi hg hgw hbr hwd hw h4 h5 h6 h7 h8

/-- Declarations as they lie one behind the other. -/
def CellsD (w : World) (b o : Nat) (x : DT) (p : DP) : Prop :=
  w.cell? ⟨b, o, none⟩ = some (.int .i64 x.k) ∧ w.cell? ⟨b, o + 1, none⟩ = some (.int .i64 x.a) ∧ w.cell? ⟨b, o + 2, none⟩ = some (.string x.s) ∧ w.cell? ⟨b, o + 3, none⟩ = some (.slice p.A x.te.length p.a) ∧ w.cell? ⟨b, o + 4, none⟩ = some (.int .i64 x.t.k) ∧ w.cell? ⟨b, o + 5, none⟩ = some (.int .i64 x.t.a) ∧
  w.cell? ⟨b, o + 6, none⟩ = some (.string x.t.s) ∧ w.cell? ⟨b, o + 7, none⟩ = some (.int .i64 x.t.n) ∧ w.cell? ⟨b, o + 8, none⟩ = some (.slice p.F x.t.l.length p.C) ∧ w.cell? ⟨b, o + 9, none⟩ = some (.slice p.B x.co.length p.b) ∧ w.cell? ⟨b, o + 10, none⟩ = some (.slice p.D x.ro.length p.d)
def DeclsIn (w : World) (lo hi : Nat) (A : Option Addr) (l : List DT) : Prop := ∀ i (h : i < l.length), ∃ b o p, A = some ⟨b, o, none⟩ ∧ lo ≤ b ∧ b < hi ∧ CellsD w b (o + i * 11) l[i] p ∧ IsDecl w lo hi l[i] p
theorem CellsD.kept {w w' : World} {b o B : Nat} {x : DT} {p : DP} (h : CellsD w b o x p) (hb : Below B w w') (hB : b < B) : CellsD w' b o x p := by
  have e : ∀ q, w'.cell? ⟨b, q, none⟩ = w.cell? ⟨b, q, none⟩ := fun q => hb.cell (p := ⟨b, q, none⟩) hB
  unfold CellsD at h ⊢
  simp only [e]
  exact h
theorem DeclsIn.kept {w w' : World} {lo hi B : Nat} {A : Option Addr} {l : List DT} (h : DeclsIn w lo hi A l) (hb : Below B w w') (hB : hi ≤ B) : DeclsIn w' lo hi A l := fun i hi' => by
  obtain ⟨b, o, p, hA, h1, h2, h3, h4⟩ := h i hi'
  exact ⟨b, o, p, hA, h1, h2, h3.kept hb (by omega), h4.kept hb hB⟩

set_option maxHeartbeats 1000000 in
theorem wrong_any (x : DT) (lo hi : Nat) (p : DP) (w : World) (h : IsDecl w lo hi x p) (hhi : hi ≤ w.heap.size) (hS : Shapes w) (hR : Rooms w) :
    Calls Tryz.prog 25 #[declV x p] w fun e w' => e = .returned (.bool (!declB x)) ∧ Below w.heap.size w w' := by
  have hB : ∀ o, Below w.heap.size w (w.alloc o) := fun o => (Below.refl _ _).alloc (Nat.le_refl _) o
  have HR := Lib.hid (fun o => declRight_any x lo hi p (w.alloc o) (h.kept (hB o) hhi) (by simp; omega) (hS.below (hB o)) (hR.below (hB o)))
  have HB := Lib.hid hB
  obtain ⟨r, hr⟩ : ∃ r, declB x = r := ⟨_, rfl⟩
  rw [hr] at HR ⊢
  unfold declV at HR ⊢
  clear hB h hhi hS hR hr
  go_enter Tryz.func25, Tryz.ntmps25
  go_wp2_with fail
  refine (HR.out _).mono ?_; rintro e w1 ⟨rfl, hb⟩
  go_wp2_with fail
  go_ret
  exact ⟨rfl, (HB.out _).trans (hb.mono (by simp))⟩

set_option maxHeartbeats 2000000 in
theorem index_decl (l : List DT) (A : Option Addr) (cap lo hi : Nat) (Q : Nat → Bool) (w : World) (hl : l.length ≤ maxLen) (hn : DeclsIn w lo hi A l) (hhi : hi ≤ w.heap.size)
    (ht : ∀ i (h : i < l.length) p w', Below w.heap.size w w' → IsDecl w' lo hi l[i] p → Calls Tryz.prog 25 #[declV l[i] p] w' fun e w'' => e = .returned (.bool (Q i)) ∧ Below w'.heap.size w' w'') :
    Calls Tryz.prog 54 #[.slice A l.length cap, .func (.func 25) #[] #[]] w (SomeIdx Q l.length w) := by
  have HN := Lib.hid hn
  have HT := Lib.hid ht
  unfold maxLen at hl
  clear hn ht
  go_enter Tryz.func54, Tryz.ntmps54
  go_wp2_with fail
  go_loopw [8] (fun iv wr => ∃ i : Nat, i ≤ l.length ∧ iv = .int .i64 i ∧ Below w.heap.size w wr ∧ Hid (∀ j, j < i → Q j = false)) (fun iv _ => l.length - (intOf iv).toNat)
  case atStart => exact ⟨0, Nat.zero_le _, rfl, Below.refl _ _, Lib.hid (fun j hj => by omega)⟩
  case round =>
    obtain ⟨i, hi1, rfl, hB, HQ⟩ := hrel
    have hz := hB.size
    by_cases hil : i < l.length
    · obtain ⟨b, o, p, rfl, hb1, hb2, hx, hnode⟩ := (HN.out.kept hB hhi) i hil
      have HR := Lib.hid (HT.out i hil p wr hB hnode)
      obtain ⟨y, hy⟩ : ∃ y, l[i] = y := ⟨_, rfl⟩
      rw [hy] at hx HR
      unfold declV at HR
      obtain ⟨x0, x1, x2, x3, x4, x5, x6, x7, x8, x9, x10⟩ := hx
      clear HT HN hnode hy
      cases hq : Q i with
      | true =>
        rw [hq] at HR
        have HQ2 := Lib.hid hq
        clear hq
        go_wp2_with fail
        refine HR.out.mono ?_
        rintro e w1 ⟨rfl, hb1⟩
        go_wp2_with fail
        go_ret
        exact ⟨_, rfl, .inr ⟨by omega, i, hil, HQ2.out⟩, hB.trans (hb1.mono hz)⟩
      | false =>
        rw [hq] at HR
        have HQ2 := Lib.hid hq
        clear hq
        go_wp2_with fail
        refine HR.out.mono ?_
        rintro e w1 ⟨rfl, hb1⟩
        go_wp2_with fail
        go_roundw
        case rel =>
          refine ⟨i + 1, by omega, rfl, hB.trans (hb1.mono hz), Lib.hid (fun j hj => ?_)⟩
          by_cases e : j < i
          · exact HQ.out j e
          · obtain rfl : j = i := by omega
            exact HQ2.out
        case measure => simp [intOf]; omega
    · obtain rfl : i = l.length := by omega
      clear HT HN
      go_wp2_with fail
      go_ret
      exact ⟨_, rfl, .inl ⟨rfl, HQ.out⟩, hB⟩
noncomputable def declsB (l : List DT) : Bool := allB (fun i => (l[i]?.map declB).getD true) l.length
theorem contains_decl (l : List DT) (A : Option Addr) (cap lo hi : Nat) (w : World) (hl : l.length ≤ maxLen) (hn : DeclsIn w lo hi A l) (hhi : hi ≤ w.heap.size) (hS : Shapes w) (hR : Rooms w) :
    Calls Tryz.prog 24 #[.slice A l.length cap, .func (.func 25) #[] #[]] w fun e w' => e = .returned (.bool (!declsB l)) ∧ Below w.heap.size w w' := by
  have HC := Lib.hid (index_decl l A cap lo hi (fun i => !((l[i]?.map declB).getD true)) w hl hn hhi (fun i h p w' hb hd => by
    rw [mapAt declB h]
    exact wrong_any l[i] lo hi p w' hd (Nat.le_trans hhi hb.size) (hS.below hb) (hR.below hb)))
  clear hl hn hhi hS hR
  unfold declsB
  go_enter Tryz.func24, Tryz.ntmps24
  go_wp2_with fail
  refine HC.out.mono ?_
  rintro e w1 ⟨r, rfl, hr, hb⟩
  have HR := Lib.hid (idx_all hr)
  clear hr
  go_wp2_with fail
  go_ret
  exact ⟨by rw [HR.out]; rfl, hb⟩

set_option maxHeartbeats 2000000 in
theorem written_Decl (r : Bool) (X : Tx) (p : Value) (w : World) (h : r = true → ∀ V b, Below w.heap.size w V → w.heap.size ≤ b → WrAt V b [] → Calls Tryz.prog 32 #[.pointer (some ⟨b, 0, none⟩), p] V (PutIs b [] X V)) :
    Calls Tryz.prog 27 #[.bool r, .func (.func 32) #[] #[p]] w (TextIs r X w) := by
  cases r with
  | false =>
    obtain ⟨S, hS⟩ : ∃ S, textS false X = S := ⟨_, rfl⟩
    obtain ⟨E, hE⟩ : ∃ E, textE false X = E := ⟨_, rfl⟩
    have HS : Hid (S = ⟨#[]⟩) := Lib.hid (by rw [← hS]; rfl)
    have HE : Hid (E = 5) := Lib.hid (by rw [← hE]; rfl)
    unfold TextIs
    rw [hS, hE]
    clear h hS hE
    go_enter Tryz.func27, Tryz.ntmps27
    go_wp2_with fail
    go_ret2
    exact ⟨by rw [HS.out, HE.out]; rfl, Below.refl _ _⟩
  | true =>
    have H := Lib.hid (h rfl (w.alloc (.cells #[.pointer none, .slice none 0 0] 117)) w.heap.size ((Below.refl _ _).alloc (Nat.le_refl _) _) (Nat.le_refl _) (WrAt.new w))
    obtain ⟨S, hS⟩ : ∃ S, textS true X = S := ⟨_, rfl⟩
    obtain ⟨E, hE⟩ : ∃ E, textE true X = E := ⟨_, rfl⟩
    have HS := Lib.hid hS
    have HE := Lib.hid hE
    unfold TextIs
    rw [hS, hE]
    clear h hS hE
    go_enter Tryz.func27, Tryz.ntmps27
    go_wp2_with fail
    refine H.out.mono ?_; rintro e w1 ⟨rfl, T1, hx, hw, hk⟩
    have hs1 := hk.size
    try simp at hs1
    have HX := Lib.hid hx
    have HW := Lib.hid hw
    have HB := Lib.hid ((Wk.of ((Below.refl w.heap.size w).alloc (Nat.le_refl _) (.cells #[.pointer none, .slice none 0 0] 117)) (Nat.le_refl _)).trans hk).below
    have hbl := hw.lt
    have HF := Lib.hid (full_any hw)
    clear hx hw hk H
    by_cases hf : 65535 < T1.length
    · rw [decide_eq_true hf] at HF
      have hX := HX.out.long hf
      have HS2 : Hid (S = ⟨#[]⟩) := Lib.hid (by rw [← HS.out]; unfold textS; rw [if_neg (by omega)])
      have HE2 : Hid (E = 2) := Lib.hid (by rw [← HE.out]; unfold textE; rw [if_pos rfl, if_neg (by omega)])
      clear hf hX HX HS HE HW
      go_wp2_with fail
      refine HF.out.mono ?_; rintro e w2 ⟨rfl, rfl⟩
      go_wp2_with fail
      go_ret2
      exact ⟨by rw [HS2.out, HE2.out]; rfl, HB.out⟩
    · rw [decide_eq_false hf] at HF
      obtain ⟨hX1, hX2⟩ := HX.out.told hf
      have HS2 : Hid (S = ⟨T1.toArray⟩) := Lib.hid (by rw [← HS.out, hX1]; unfold textS; rw [if_pos ⟨rfl, hX2⟩])
      have HE2 : Hid (E = 0) := Lib.hid (by rw [← HE.out]; unfold textE; rw [if_pos rfl, if_pos hX2])
      have HST := Lib.hid (string_any HW.out (by omega))
      obtain ⟨R, hR⟩ : ∃ R : ByteArray, ⟨T1.toArray⟩ = R := ⟨_, rfl⟩
      rw [hR] at HST HS2
      clear hf hX1 hX2 HX HS HE HW hR
      go_wp2_with fail
      refine HF.out.mono ?_; rintro e w2 ⟨rfl, rfl⟩
      go_wp2_with fail
      refine HST.out.mono ?_; rintro e w3 ⟨rfl, hb3⟩
      go_wp2_with fail
      go_ret2
      exact ⟨by rw [HS2.out, HE2.out]; rfl, HB.out.trans (hb3.mono (by omega))⟩

set_option maxHeartbeats 2000000 in
theorem written_File (r : Bool) (X : Tx) (p : Value) (w : World) (h : r = true → ∀ V b, Below w.heap.size w V → w.heap.size ≤ b → WrAt V b [] → Calls Tryz.prog 28 #[.pointer (some ⟨b, 0, none⟩), p] V (PutIs b [] X V)) :
    Calls Tryz.prog 27 #[.bool r, .func (.func 28) #[] #[p]] w (TextIs r X w) := by
  cases r with
  | false =>
    obtain ⟨S, hS⟩ : ∃ S, textS false X = S := ⟨_, rfl⟩
    obtain ⟨E, hE⟩ : ∃ E, textE false X = E := ⟨_, rfl⟩
    have HS : Hid (S = ⟨#[]⟩) := Lib.hid (by rw [← hS]; rfl)
    have HE : Hid (E = 5) := Lib.hid (by rw [← hE]; rfl)
    unfold TextIs
    rw [hS, hE]
    clear h hS hE
    go_enter Tryz.func27, Tryz.ntmps27
    go_wp2_with fail
    go_ret2
    exact ⟨by rw [HS.out, HE.out]; rfl, Below.refl _ _⟩
  | true =>
    have H := Lib.hid (h rfl (w.alloc (.cells #[.pointer none, .slice none 0 0] 117)) w.heap.size ((Below.refl _ _).alloc (Nat.le_refl _) _) (Nat.le_refl _) (WrAt.new w))
    obtain ⟨S, hS⟩ : ∃ S, textS true X = S := ⟨_, rfl⟩
    obtain ⟨E, hE⟩ : ∃ E, textE true X = E := ⟨_, rfl⟩
    have HS := Lib.hid hS
    have HE := Lib.hid hE
    unfold TextIs
    rw [hS, hE]
    clear h hS hE
    go_enter Tryz.func27, Tryz.ntmps27
    go_wp2_with fail
    refine H.out.mono ?_; rintro e w1 ⟨rfl, T1, hx, hw, hk⟩
    have hs1 := hk.size
    try simp at hs1
    have HX := Lib.hid hx
    have HW := Lib.hid hw
    have HB := Lib.hid ((Wk.of ((Below.refl w.heap.size w).alloc (Nat.le_refl _) (.cells #[.pointer none, .slice none 0 0] 117)) (Nat.le_refl _)).trans hk).below
    have hbl := hw.lt
    have HF := Lib.hid (full_any hw)
    clear hx hw hk H
    by_cases hf : 65535 < T1.length
    · rw [decide_eq_true hf] at HF
      have hX := HX.out.long hf
      have HS2 : Hid (S = ⟨#[]⟩) := Lib.hid (by rw [← HS.out]; unfold textS; rw [if_neg (by omega)])
      have HE2 : Hid (E = 2) := Lib.hid (by rw [← HE.out]; unfold textE; rw [if_pos rfl, if_neg (by omega)])
      clear hf hX HX HS HE HW
      go_wp2_with fail
      refine HF.out.mono ?_; rintro e w2 ⟨rfl, rfl⟩
      go_wp2_with fail
      go_ret2
      exact ⟨by rw [HS2.out, HE2.out]; rfl, HB.out⟩
    · rw [decide_eq_false hf] at HF
      obtain ⟨hX1, hX2⟩ := HX.out.told hf
      have HS2 : Hid (S = ⟨T1.toArray⟩) := Lib.hid (by rw [← HS.out, hX1]; unfold textS; rw [if_pos ⟨rfl, hX2⟩])
      have HE2 : Hid (E = 0) := Lib.hid (by rw [← HE.out]; unfold textE; rw [if_pos rfl, if_pos hX2])
      have HST := Lib.hid (string_any HW.out (by omega))
      obtain ⟨R, hR⟩ : ∃ R : ByteArray, ⟨T1.toArray⟩ = R := ⟨_, rfl⟩
      rw [hR] at HST HS2
      clear hf hX1 hX2 HX HS HE HW hR
      go_wp2_with fail
      refine HF.out.mono ?_; rintro e w2 ⟨rfl, rfl⟩
      go_wp2_with fail
      refine HST.out.mono ?_; rintro e w3 ⟨rfl, hb3⟩
      go_wp2_with fail
      go_ret2
      exact ⟨by rw [HS2.out, HE2.out]; rfl, HB.out.trans (hb3.mono (by omega))⟩

set_option maxHeartbeats 2000000 in
theorem closure_Decl {x : DT} {lo hi : Nat} {p : DP} (g : Nat) {w : World} (h : IsDecl w lo hi x p) (hhi : hi ≤ w.heap.size) (hbr : Bare w) (hwd : Words w) (hg : Bk w g 39 #[.int .i64 x.k, .int .i64 x.a, .string x.s, .slice p.A x.te.length p.a, .int .i64 x.t.k, .int .i64 x.t.a, .string x.t.s, .int .i64 x.t.n, .slice p.F x.t.l.length p.C, .slice p.B x.co.length p.b, .slice p.D x.ro.length p.d]) (hgd : declB x = true) :
    ∀ V b, Below w.heap.size w V → w.heap.size ≤ b → WrAt V b [] → Calls Tryz.prog 32 #[.pointer (some ⟨b, 0, none⟩), .pointer (some ⟨g, 0, none⟩)] V (PutIs b [] (declX x) V) := by
  intro V b hV hb hw
  have HT := Lib.hid (declw_any x p (T := []) hgd (h.kept hV hhi) (show hi ≤ b by omega) (by have := hbr.lt; omega) (by have := hwd.lt; omega) (hbr.kept hV hbr.lt) (hwd.kept hV hwd.lt) hw)
  have HB := hg.below hV hg.lt
  obtain ⟨c0, c1, c2, c3, c4, c5, c6, c7, c8, c9, c10⟩ := HB.q11
  have hl := HB.lt
  obtain ⟨X, hX⟩ : ∃ X, declX x = X := ⟨_, rfl⟩
  rw [hX] at HT ⊢
  unfold declV at HT
  clear h hhi hbr hwd hg hgd hX HB hw
  go_enter Tryz.func32, Tryz.ntmps32
  go_wp2_with fail
  refine HT.out.mono ?_; rintro e w1 ⟨rfl, T1, hx, hw, hk⟩
  have HX := Lib.hid hx
  have HW := Lib.hid hw
  have HK := Lib.hid hk
  clear hx hw hk
  go_wp2_with fail
  go_end0
  exact ⟨rfl, T1, HX.out, HW.out, HK.out⟩
theorem fileX_append : ∀ (l r : List DT), fileX (l ++ r) = fileX l ++ fileX r
  | [], r => rfl
  | t :: l, r => by rw [List.cons_append, fileX, fileX, fileX_append l r, List.append_assoc]
theorem fileX_one (x : DT) : fileX [x] = declX x := by rw [fileX, fileX, List.append_nil]

set_option maxHeartbeats 4000000 in
theorem closure_File {l : List DT} {lo hi : Nat} {A : Option Addr} {c : Nat} (hl : l.length ≤ maxLen) (g : Nat) {w : World} (h : DeclsIn w lo hi A l) (hhi : hi ≤ w.heap.size) (hbr : Bare w) (hwd : Words w) (hg : Bk w g 22 #[.slice A l.length c]) (hgd : ∀ x ∈ l, declB x = true) :
    ∀ V b, Below w.heap.size w V → w.heap.size ≤ b → WrAt V b [] → Calls Tryz.prog 28 #[.pointer (some ⟨b, 0, none⟩), .pointer (some ⟨g, 0, none⟩)] V (PutIs b [] (fileX l) V) := by
  intro V b hV hb hw
  have HSUB := Lib.hid (h.kept hV hhi)
  have HT := Lib.hid (fun (x : DT) (hx : x ∈ l) (p : DP) (hd : IsDecl V lo hi x p) (U : World) T1 (hU : Below b V U) (hw : WrAt U b T1) => declw_any x p (hgd x hx) (hd.kept hU (show hi ≤ b by omega)) (show hi ≤ b by omega) (by have := hbr.lt; omega) (by have := hwd.lt; omega) ((hbr.kept hV hbr.lt).kept hU (by have := hbr.lt; omega)) ((hwd.kept hV hwd.lt).kept hU (by have := hwd.lt; omega)) hw)
  unfold declV at HT
  have HB := hg.below hV hg.lt
  have c0 : V.cell? ⟨g, 0, none⟩ = some (.slice A l.length c) := HB.cell 0
  have hgl := HB.lt
  have hbl := hw.lt
  have HW := Lib.hid hw
  have HHB : Hid (hi ≤ b) := Lib.hid (by omega)
  unfold maxLen at hl
  have HLEN := Lib.hid hl
  clear h hhi hbr hwd hg hgd HB hw hl
  go_enter Tryz.func28, Tryz.ntmps28
  go_wp2_with fail
  go_loopw [7] (fun iv wr => ∃ (i : Nat) (T2 : Tx), i ≤ l.length ∧ iv = .int .i64 i ∧ Hid (Wrote [] (fileX (l.take i)) T2) ∧ Hid (WrAt wr b T2) ∧ Hid (Wk b V wr)) (fun iv _ => l.length - (intOf iv).toNat)
  case atStart => exact ⟨0, [], Nat.zero_le _, rfl, Lib.hid (Wrote.nil []), HW, Lib.hid (Wk.refl b V)⟩
  case round =>
    obtain ⟨i, T2, hi1, rfl, HXR, HWR, HKR⟩ := hrel
    have hblr := HWR.out.lt
    by_cases hlt : i < l.length
    · obtain ⟨bs, o, p, hA, hb1, hbs, x0, n0⟩ := HSUB.out i hlt
      subst hA
      have hbsb : bs < b := by have := HHB.out; omega
      have hbsr : bs < wr.heap.size := by omega
      obtain ⟨y, hy⟩ : ∃ y, l[i] = y := ⟨_, rfl⟩
      rw [hy] at x0 n0
      obtain ⟨c0, c1, c2, c3, c4, c5, c6, c7, c8, c9, c10⟩ := x0.kept HKR.out.below hbsb
      have HT := Lib.hid (HT.out y (by rw [← hy]; exact List.getElem_mem _) p n0)
      have HXN : Hid (fileX (l.take (i + 1)) = fileX (l.take i) ++ declX y) := Lib.hid (by rw [take_snocG hlt, fileX_append, hy, fileX_one])
      obtain ⟨X0, hX0⟩ : ∃ X, declX y = X := ⟨_, rfl⟩
      rw [hX0] at HT HXN
      have hi2 : i + 1 ≤ l.length := hlt
      have hiL : (i : Int) < 9223372036854775807 := by have := HLEN.out; omega
      have HAL := Lib.hid (fun o => (Wk.refl b wr).alloc (Nat.le_of_lt hblr) o)
      clear x0 n0 hy hX0 HSUB
      go_wp2_with fail
      refine (HT.out _ _ (HKR.out.trans (HAL.out _)).below (HWR.out.alloc _)).mono ?_; rintro e w1 ⟨rfl, T3, hx, hw, hk⟩
      have HX3 := Lib.hid (HXR.out.trans hx)
      have HW3 := Lib.hid hw
      have HK3 := Lib.hid (HKR.out.trans ((HAL.out _).trans hk))
      clear hx hw hk
      go_wp2_with fail
      go_roundw
      case rel => exact ⟨i + 1, T3, hi2, by go_num, Lib.hid (by rw [HXN.out]; exact HX3.out), HW3, HK3⟩
      case measure => simp [intOf]; omega
    · obtain rfl : i = l.length := by omega
      have HXE : Hid (Wrote [] (fileX l) T2) := Lib.hid (by have := HXR.out; rwa [List.take_length] at this)
      clear HSUB HT HXR
      go_wp2_with fail
      go_end0
      exact ⟨rfl, T2, HXE.out, HWR.out, HKR.out⟩

set_option maxHeartbeats 2000000 in
theorem printDecl_any (x : DT) (lo hi : Nat) (p : DP) (w : World) (h : IsDecl w lo hi x p) (hhi : hi ≤ w.heap.size) (hS : Shapes w) (hR : Rooms w) (hbr : Bare w) (hwd : Words w) :
    Calls Tryz.prog 10 #[declV x p] w (TextIs (declB x) (declX x) w) := by
  have HE := Lib.hid (fun V (hV : Below w.heap.size w V) => declRight_any x lo hi p V (h.kept hV hhi) (Nat.le_trans hhi hV.size) (hS.below hV) (hR.below hV))
  have HC := Lib.hid (fun V (hV : Below w.heap.size w V) (hB : Bk V w.heap.size 39 #[.int .i64 x.k, .int .i64 x.a, .string x.s, .slice p.A x.te.length p.a, .int .i64 x.t.k, .int .i64 x.t.a, .string x.t.s, .int .i64 x.t.n, .slice p.F x.t.l.length p.C, .slice p.B x.co.length p.b, .slice p.D x.ro.length p.d]) (hr : declB x = true) => closure_Decl w.heap.size (h.kept hV hhi) (Nat.le_trans hhi hV.size) (hbr.kept hV hbr.lt) (hwd.kept hV hwd.lt) hB hr)
  obtain ⟨r, hr⟩ : ∃ r, declB x = r := ⟨_, rfl⟩
  obtain ⟨X, hX⟩ : ∃ X, declX x = X := ⟨_, rfl⟩
  rw [hr] at HE HC ⊢
  rw [hX] at HC ⊢
  have HB := Lib.hid (Bk.new w 39 #[.int .i64 x.k, .int .i64 x.a, .string x.s, .slice p.A x.te.length p.a, .int .i64 x.t.k, .int .i64 x.t.a, .string x.t.s, .int .i64 x.t.n, .slice p.F x.t.l.length p.C, .slice p.B x.co.length p.b, .slice p.D x.ro.length p.d])
  unfold declV at HE ⊢
  obtain ⟨S, hS1⟩ : ∃ S, textS r X = S := ⟨_, rfl⟩
  obtain ⟨E, hE1⟩ : ∃ E, textE r X = E := ⟨_, rfl⟩
  have HSE := Lib.hid (And.intro hS1 hE1)
  unfold TextIs
  rw [hS1, hE1]
  clear h hhi hS hR hbr hwd hr hX hS1 hE1
  go_enter Tryz.func10, Tryz.ntmps10
  go_wp2_with fail
  refine (HE.out _ ((Below.refl _ _).alloc (Nat.le_refl _) _)).mono ?_; rintro e w1 ⟨rfl, hb1⟩
  have hs1 := hb1.size
  try simp at hs1
  have HB1 := Lib.hid (HB.out.below hb1 (by simp))
  have HBL := Lib.hid (((Below.refl w.heap.size w).alloc (Nat.le_refl _) (.cells #[.int .i64 x.k, .int .i64 x.a, .string x.s, .slice p.A x.te.length p.a, .int .i64 x.t.k, .int .i64 x.t.a, .string x.t.s, .int .i64 x.t.n, .slice p.F x.t.l.length p.C, .slice p.B x.co.length p.b, .slice p.D x.ro.length p.d] 39)).trans (hb1.mono (by simp)))
  have HWR := Lib.hid (written_Decl r X (.pointer (some ⟨w.heap.size, 0, none⟩)) w1 (HC.out w1 HBL.out HB1.out))
  unfold TextIs at HWR
  rw [HSE.out.1, HSE.out.2] at HWR
  clear hb1 HE HC
  go_wp2_with fail
  refine HWR.out.mono ?_; rintro e w2 ⟨rfl, hb2⟩
  go_wp2_with fail
  go_ret2
  exact ⟨rfl, HBL.out.trans (hb2.mono (by omega))⟩

set_option maxHeartbeats 2000000 in
theorem printFile_any (l : List DT) (lo hi : Nat) (A : Option Addr) (c : Nat) (w : World) (hl : l.length ≤ maxLen) (h : DeclsIn w lo hi A l) (hhi : hi ≤ w.heap.size) (hS : Shapes w) (hR : Rooms w) (hbr : Bare w) (hwd : Words w) :
    Calls Tryz.prog 8 #[.slice A l.length c] w (TextIs (declsB l) (fileX l) w) := by
  have HE := Lib.hid (fun V (hV : Below w.heap.size w V) => contains_decl l A c lo hi V hl (h.kept hV hhi) (Nat.le_trans hhi hV.size) (hS.below hV) (hR.below hV))
  have HC := Lib.hid (fun V (hV : Below w.heap.size w V) (hB : Bk V w.heap.size 22 #[.slice A l.length c]) (hr : declsB l = true) => closure_File hl w.heap.size (h.kept hV hhi) (Nat.le_trans hhi hV.size) (hbr.kept hV hbr.lt) (hwd.kept hV hwd.lt) hB (allB_mem2 hr))
  obtain ⟨r, hr⟩ : ∃ r, declsB l = r := ⟨_, rfl⟩
  obtain ⟨X, hX⟩ : ∃ X, fileX l = X := ⟨_, rfl⟩
  rw [hr] at HE HC ⊢
  rw [hX] at HC ⊢
  have HB := Lib.hid (Bk.new w 22 #[.slice A l.length c])
  obtain ⟨S, hS1⟩ : ∃ S, textS r X = S := ⟨_, rfl⟩
  obtain ⟨E, hE1⟩ : ∃ E, textE r X = E := ⟨_, rfl⟩
  have HSE := Lib.hid (And.intro hS1 hE1)
  unfold TextIs
  rw [hS1, hE1]
  clear h hhi hS hR hbr hwd hr hX hS1 hE1 hl
  go_enter Tryz.func8, Tryz.ntmps8
  go_wp2_with fail
  refine (HE.out _ ((Below.refl _ _).alloc (Nat.le_refl _) _)).mono ?_; rintro e w1 ⟨rfl, hb1⟩
  have hs1 := hb1.size
  try simp at hs1
  have HB1 := Lib.hid (HB.out.below hb1 (by simp))
  have HBL := Lib.hid (((Below.refl w.heap.size w).alloc (Nat.le_refl _) (.cells #[.slice A l.length c] 22)).trans (hb1.mono (by simp)))
  have HWR := Lib.hid (written_File r X (.pointer (some ⟨w.heap.size, 0, none⟩)) w1 (HC.out w1 HBL.out HB1.out))
  unfold TextIs at HWR
  rw [HSE.out.1, HSE.out.2] at HWR
  have hnn : (!(!r)) = r := by cases r <;> rfl
  clear hb1 HE HC
  go_wp2_with fail
  try rw [hnn]
  refine HWR.out.mono ?_; rintro e w2 ⟨rfl, hb2⟩
  go_wp2_with fail
  go_ret2
  exact ⟨rfl, HBL.out.trans (hb2.mono (by omega))⟩

end Go.Proofs.YteaojmcfppbgiaaGreatDoor
