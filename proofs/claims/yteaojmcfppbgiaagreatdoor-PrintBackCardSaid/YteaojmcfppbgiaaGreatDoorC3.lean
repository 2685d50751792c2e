/- parse.read of declarations, parse.File: a text cut, and read to its end. -/
import Derived.Test.YteaojmcfppbgiaaGreatDoorC2
import Derived.Test.YteaojmcfppbgiaaGreatDoorB7
import Derived.BigRegion
import Derived.Test.YteaojmcfppbgiaaGreatDoorB8
namespace Go.Proofs.YteaojmcfppbgiaaGreatDoor
open Go.RowKit
set_option linter.unusedVariables false
set_option maxRecDepth 100000

/-- What File comes back with: the declarations, or the first error. -/
def DeclsOut (l : List DT) (z : St) (n : Nat) (w : World) (e : Ending) (w' : World) : Prop :=
  Below w.heap.size w w' ∧ (z.e = 0 → ∃ A c, e = .returned (.tuple #[.slice A l.length c, .int .i64 n, .int .i64 0]) ∧ l.length ≤ c ∧ c ≤ maxLen ∧ DeclsAt w' w.heap.size w'.heap.size A l) ∧
  (z.e ≠ 0 → e = .returned (.tuple #[.slice none 0 0, .int .i64 z.f, .int .i64 z.e]))
theorem DeclsAt.wide {w : World} {lo hi lo' hi' : Nat} {A : Option Addr} {l : List DT} (h : DeclsAt w lo hi A l) (h1 : lo' ≤ lo) (h2 : hi ≤ hi') : DeclsAt w lo' hi' A l := by
  intro i hi0
  obtain ⟨b, o, p, hA, h3, h4, h5, h6⟩ := h i hi0
  exact ⟨b, o, p, hA, by omega, by omega, h5, h6.to (fun _ _ _ _ => rfl) (fun b h1 h2 => ⟨by omega, by omega⟩)⟩

set_option maxHeartbeats 4000000 in
theorem read_decls {s : ByteArray} {ns : List Int} {w : World} {l : List Tk} {stop : Nat} {lp : List DT} {s' : St} (hs : s.size ≤ 65535) (hp : Parse (bytesL s) ns []) (hx : Lex s (skipL (bytesL s)) 0 l stop 0)
    (hc : ∀ r g cap, ChainX (withEnd l s.size) (OneD 87 r g (withEnd l s.size) cap) (nxGo (withEnd l s.size)) 8192 0 s0 lp s') :
    Calls Tryz.prog 47 #[.string s, .func (.func 48) #[] #[]] w (DeclsOut lp (endS (withEnd l s.size) s') s.size w) := by
  have hstop : stop = s.size := by rcases lex_err hx with ⟨_, h⟩ | h | h <;> first | exact h | cases h
  subst hstop
  have HALL := Lib.hid (fun (V : World) => tokAll_any s ns V l s.size 0 hs hp hx)
  have HT := Lib.hid (fun (V V' : World) (v : Value) (h : AllOut V V' v l s.size 0) => toks_of hs hx h)
  obtain ⟨L, hL⟩ : ∃ L, withEnd l s.size = L := ⟨_, rfl⟩
  have HLN : Hid (L.length = l.length + 1) := Lib.hid (by rw [← hL, withEnd_length])
  rw [hL] at hc HT ⊢
  have HW := Lib.hid (fun (V : World) (r g cap : Nat) (h : Rd V r g L cap s0) => decls_c h (hc r g cap))
  unfold ListDR at HW
  clear hp hx hc hL
  go_enter Tryz.func47, Tryz.ntmps47
  go_wp2_with fail
  refine (HALL.out _).mono ?_; rintro e w1 ⟨v, rfl, hall, hb1⟩
  obtain ⟨g, cap, rfl, hg, htk⟩ := HT.out _ _ _ hall
  have hs1 := hb1.size
  have HB1 := Lib.hid hb1
  have hl0 := HLN.out
  have HRD : Hid (Rd (w1.alloc (.cells #[.slice (some ⟨g, 0, none⟩) (l.length + 1) cap, .int .i64 0, .int .i64 0] 133)) w1.heap.size g L cap s0) := Lib.hid (by
    refine ⟨?_, by show 0 < _; omega, htk.lt, htk.kept (r := w1.heap.size) (Kp.of ((Below.refl _ _).alloc (Nat.le_refl _) _)) (by have := htk.lt; omega)⟩
    have := Bk.new w1 133 #[.slice (some ⟨g, 0, none⟩) (l.length + 1) cap, .int .i64 0, .int .i64 0]
    show Bk _ _ _ #[.slice (some ⟨g, 0 * 3, none⟩) (L.length - 0) (cap - 0), .int .i64 0, .int .i64 0]
    rw [Nat.zero_mul, Nat.sub_zero, Nat.sub_zero, hl0]
    exact this)
  clear hall htk hb1 HALL HT hl0
  go_wp2_with fail
  refine (HW.out _ _ _ _ HRD.out).mono ?_; rintro e w2 ⟨A, c, rfl, hl1, hl2, hns, hr2, hk2⟩
  have hs2 := hk2.size
  simp at hs2
  have HB2 : Hid (Below w.heap.size w w2) := Lib.hid ((HB1.out.alloc hs1 _).trans (hk2.under hs1 (by simp; omega)))
  have HLA := Lib.hid hl1
  have HLB := Lib.hid hl2
  have HNS := Lib.hid hns
  have HR2 := Lib.hid hr2
  have HGO := Lib.hid (goesOn_tells hr2)
  have HBAD := Lib.hid (bad_moves hr2)
  clear hl1 hl2 hns hk2 HRD HW
  have hc2 : w2.cell? ⟨w1.heap.size, 2, none⟩ = some (.int .i64 s'.e) := hr2.bk.cell 2
  have hc1 : w2.cell? ⟨w1.heap.size, 1, none⟩ = some (.int .i64 s'.f) := hr2.bk.cell 1
  have hlt2 := hr2.bk.lt
  cases hen : enB L s'.k with
  | true =>
    rw [hen] at HGO
    have hE : endS L s' = s' := by unfold endS; rw [if_pos hen]
    by_cases he : s'.e = 0
    · have hb : (s'.e != 0) = false := by simpa using he
      have HOUT : Hid (DeclsOut lp (endS L s') s.size w (.returned (.tuple #[.slice A lp.length c, .int .i64 s.size, .int .i64 0])) w2) := Lib.hid (by rw [hE]; exact ⟨HB2.out, fun _ => ⟨A, c, rfl, HLA.out, HLB.out, HNS.out.wide (by simp; omega) (Nat.le_refl _)⟩, fun h => absurd he h⟩)
      clear hE hen hr2 he HBAD HNS HR2 HB2 HLA HLB
      go_wp2_with fail
      refine HGO.out.mono ?_; rintro e w' ⟨rfl, rfl⟩
      go_wp2_with fail
      refine bodyPost_ret (v := .tuple #[.slice A lp.length c, .int .i64 s.size, .int .i64 0]) (by simp [results, Tryz.results47, go_sem]) rfl ?_
      exact HOUT.out
    · have hb : (s'.e != 0) = true := by simpa using he
      have HOUT : Hid (DeclsOut lp (endS L s') s.size w (.returned (.tuple #[.slice none 0 0, .int .i64 s'.f, .int .i64 s'.e])) w2) := Lib.hid (by rw [hE]; exact ⟨HB2.out, fun h => absurd h he, fun _ => rfl⟩)
      have HOUTD : Hid (DeclsOut lp (endS L s') s.size w (.returned (.tuple #[.slice none 0 0, .int .i64 s'.f, .int .i64 s'.e])) w2.drew) := Lib.hid (by rw [hE]; exact ⟨HB2.out.drew, fun h => absurd h he, fun _ => rfl⟩)
      clear hE hen hr2 he HBAD HNS HR2 HB2 HLA HLB
      go_wp2_with fail
      refine HGO.out.mono ?_; rintro e w' ⟨rfl, rfl⟩
      go_wp2_with fail
      go_region
      all_goals
        go_wp2_with fail
        refine bodyPost_ret (v := .tuple #[.slice none 0 0, .int .i64 s'.f, .int .i64 s'.e]) (by simp [results, Tryz.results47, go_sem]) rfl ?_
        first | exact HOUT.out | exact HOUTD.out
  | false =>
    rw [hen] at HGO
    have hE0 : endS L s' = badS L s' := by unfold endS; rw [if_neg (by rw [hen]; simp)]
    obtain ⟨z, hz⟩ : ∃ z, badS L s' = z := ⟨_, rfl⟩
    rw [hz] at HBAD hE0
    have HE := Lib.hid hE0
    clear hE0
    have hze : z.e ≠ 0 := by
      rw [← hz]; unfold badS failS
      show (if s'.e = 0 then (1 : Int) else s'.e) ≠ 0
      split
      · decide
      · assumption
    clear hen hr2 hz HNS HR2 HLA HLB hc1 hc2
    go_wp2_with fail
    refine HGO.out.mono ?_; rintro e w' ⟨rfl, rfl⟩
    go_wp2_with fail
    refine HBAD.out.mono ?_; rintro e w3 ⟨rfl, hr3, hk3⟩
    have hb : (z.e != 0) = true := by simpa using hze
    have HB3 := Lib.hid (HB2.out.trans (hk3.under hs1 (by omega)))
    have HOUT : Hid (DeclsOut lp (endS L s') s.size w (.returned (.tuple #[.slice none 0 0, .int .i64 z.f, .int .i64 z.e])) w3) := Lib.hid (by rw [HE.out]; exact ⟨HB3.out, fun h => absurd h hze, fun _ => rfl⟩)
    have HOUTD : Hid (DeclsOut lp (endS L s') s.size w (.returned (.tuple #[.slice none 0 0, .int .i64 z.f, .int .i64 z.e])) w3.drew) := Lib.hid (by rw [HE.out]; exact ⟨HB3.out.drew, fun h => absurd h hze, fun _ => rfl⟩)
    have hd2 : w3.cell? ⟨w1.heap.size, 2, none⟩ = some (.int .i64 z.e) := hr3.bk.cell 2
    have hd1 : w3.cell? ⟨w1.heap.size, 1, none⟩ = some (.int .i64 z.f) := hr3.bk.cell 1
    have hlt3 := hr3.bk.lt
    clear hr3 hk3 hze
    go_wp2_with fail
    go_region
    all_goals
      go_wp2_with fail
      refine bodyPost_ret (v := .tuple #[.slice none 0 0, .int .i64 z.f, .int .i64 z.e]) (by simp [results, Tryz.results47, go_sem]) rfl ?_
      first | exact HOUT.out | exact HOUTD.out

set_option maxHeartbeats 1000000 in
theorem file_c {s : ByteArray} {ns : List Int} {w : World} {l : List Tk} {stop : Nat} {lp : List DT} {s' : St} (hs : s.size ≤ 65535) (hp : Parse (bytesL s) ns []) (hx : Lex s (skipL (bytesL s)) 0 l stop 0)
    (hc : ∀ r g cap, ChainX (withEnd l s.size) (OneD 87 r g (withEnd l s.size) cap) (nxGo (withEnd l s.size)) 8192 0 s0 lp s') :
    Calls Tryz.prog 18 #[.string s] w (DeclsOut lp (endS (withEnd l s.size) s') s.size w) := by
  have H := Lib.hid (read_decls (w := w) hs hp hx hc)
  obtain ⟨z, hz⟩ : ∃ z, endS (withEnd l s.size) s' = z := ⟨_, rfl⟩
  rw [hz] at H ⊢
  clear hp hx hc hz
  go_enter Tryz.func18, Tryz.ntmps18
  go_wp2_with fail
  refine H.out.mono ?_; rintro e w1 hx
  have HX := Lib.hid hx
  obtain ⟨-, h1, h2⟩ := hx
  by_cases he : z.e = 0
  · obtain ⟨A, c, rfl, -⟩ := h1 he
    clear h1 h2 he
    go_wp2_with fail
    refine bodyPost_ret (v := .tuple #[.slice A lp.length c, .int .i64 s.size, .int .i64 0]) (by simp [results, Tryz.results18, go_sem]) rfl ?_
    exact HX.out
  · obtain rfl := h2 he
    clear h1 h2 he
    go_wp2_with fail
    refine bodyPost_ret (v := .tuple #[.slice none 0 0, .int .i64 z.f, .int .i64 z.e]) (by simp [results, Tryz.results18, go_sem]) rfl ?_
    exact HX.out

end Go.Proofs.YteaojmcfppbgiaaGreatDoor

/- What a file's declarations are, as relations over the tokens: the program's functions do just this; there is one at every state; tokens of the same kinds and texts give the same but for offsets. -/
namespace Go.Proofs.YteaojmcfppbgiaaGreatDoor
open Go.RowKit
set_option linter.unusedVariables false
set_option maxRecDepth 100000

def semiT : ByteArray := ⟨#[59]⟩
def eqT : ByteArray := ⟨#[61]⟩
def lbT : ByteArray := ⟨#[123]⟩
def rbT : ByteArray := ⟨#[125]⟩
def TypedR (L : List Tk) (s : St) (x : BT) (s' : St) : Prop :=
  ∃ t, x = ⟨(tk L (nameS L s).k).2.1, (tk L (nameS L s).k).2.2, t⟩ ∧ ExprR L (takeS L ⟨#[58]⟩ (stepS L (nameS L s))) t s'
def BindRl (L : List Tk) (s : St) (x : BT) (s' : St) : Prop := ∃ s2, TypedR L (takeS L ⟨#[40]⟩ s) x s2 ∧ takeS L ⟨#[41]⟩ s2 = s'
def ConRl (L : List Tk) (s : St) (x : BT) (s' : St) : Prop := ∃ s2, TypedR L s x s2 ∧ takeS L ⟨#[59]⟩ s2 = s'
def RowRl (L : List Tk) (s : St) (x : CT) (s' : St) : Prop :=
  ∃ l s1, PatsR L 0 s l s1 ∧ ((mkB L s1.k ⟨#[61]⟩ = true ∧ ∃ t s3, ExprR L (stepS L s1) t s3 ∧ x = ⟨(tk L s.k).2.2, l, true, t⟩ ∧ takeS L ⟨#[59]⟩ s3 = s') ∨
    (mkB L s1.k ⟨#[61]⟩ = false ∧ x = ⟨(tk L s.k).2.2, l, false, zeroT⟩ ∧ takeS L ⟨#[59]⟩ s1 = s'))
def DeclRl (L : List Tk) (s : St) (x : DT) (s' : St) : Prop :=
  ∃ v s1, KindR L s v s1 ∧
    ((v ≠ 3 ∧ ∃ te s4 t s6 co s8, ChainX L (BindRl L) (nxOp L) 24 0 (stepS L (nameS L (stepS L s1))) te s4 ∧ ExprR L (takeS L ⟨#[58]⟩ s4) t s6 ∧ ChainX L (ConRl L) (nxIn L) 16 0 (takeS L ⟨#[123]⟩ s6) co s8 ∧ takeS L ⟨#[125]⟩ s8 = s' ∧
      x = ⟨v, (tk L s1.k).2.2, (tk L (nameS L (stepS L s1)).k).2.1, te, t, co, []⟩) ∨
     (v = 3 ∧ ∃ t s6 ro s8, ExprR L (takeS L ⟨#[58]⟩ (stepS L (nameS L (stepS L s1)))) t s6 ∧ ChainX L (RowRl L) (nxIn L) 32 0 (takeS L ⟨#[123]⟩ s6) ro s8 ∧ takeS L ⟨#[125]⟩ s8 = s' ∧
      x = ⟨v, (tk L s1.k).2.2, (tk L (nameS L (stepS L s1)).k).2.1, [], t, [], ro⟩))
def FileR (L : List Tk) (s : St) (l : List DT) (s' : St) : Prop := ChainX L (DeclRl L) (nxGo L) 8192 0 s l s'

theorem chainX_map {α : Type} {L : List Tk} {one one' : St → α → St → Prop} {more : Nat → Bool} {most n : Nat} {s s' : St} {l : List α} (hm : ∀ s x s', one s x s' → one' s x s') (h : ChainX L one more most n s l s') : ChainX L one' more most n s l s' := by
  induction h with
  | stop h => exact .stop h
  | full h1 h2 h3 => exact .full h1 h2 h3
  | next h1 h2 h3 h4 _ ih => exact .next h1 h2 h3 (hm _ _ _ h4) ih

section
variable {L : List Tk} {s s' : St} (r g cap : Nat)
theorem typedR_one {x : BT} (h : TypedR L s x s') : OneB 169 r g L cap s x s' := by
  obtain ⟨t, rfl, he⟩ := h
  exact typed_c rfl rfl rfl (exprR_one he r g cap)
theorem bindR_one {x : BT} (h : BindRl L s x s') : OneB 132 r g L cap s x s' := by
  obtain ⟨s2, ht, h3⟩ := h
  exact bind_c rfl (typedR_one r g cap ht) h3
theorem conR_one {x : BT} (h : ConRl L s x s') : OneB 137 r g L cap s x s' := by
  obtain ⟨s2, ht, h3⟩ := h
  exact con_c (s1 := s) (typedR_one r g cap ht) h3
theorem rowR_one {x : CT} (h : RowRl L s x s') : OneR 136 r g L cap s x s' := by
  obtain ⟨l, s1, hp, ⟨hm, t, s3, he, rfl, h4⟩ | ⟨hm, rfl, h4⟩⟩ := h
  · exact row_body (patsR_chain hp r g cap) hm (exprR_one he r g cap) rfl h4
  · exact row_none (s2 := s1) (s3 := s1) (t := zeroT) (patsR_chain hp r g cap) hm h4
theorem declR_one {x : DT} (h : DeclRl L s x s') : OneD 87 r g L cap s x s' := by
  obtain ⟨v, s1, hk, ⟨hv, te, s4, t, s6, co, s8, ht, he, hl, h9, rfl⟩ | ⟨hv, t, s6, ro, s8, he, hl, h9, rfl⟩⟩ := h
  · exact decl_data (ro := []) hk rfl rfl rfl (chainX_map (fun _ _ _ h => bindR_one r g cap h) ht) rfl (exprR_one he r g cap) rfl (chainX_map (fun _ _ _ h => conR_one r g cap h) hl) h9 hv
  · exact decl_def (s4 := s1) (te := []) (co := []) hk rfl rfl rfl rfl (exprR_one he r g cap) rfl (chainX_map (fun _ _ _ h => rowR_one r g cap h) hl) h9 hv
end
/-- parse.File of a text that is cut into tokens: what the grammar says of them. -/
theorem file_of {s : ByteArray} {ns : List Int} {w : World} {l : List Tk} {stop : Nat} {ld : List DT} {s' : St} (hs : s.size ≤ 65535) (hp : Parse (bytesL s) ns []) (hx : Lex s (skipL (bytesL s)) 0 l stop 0)
    (hr : FileR (withEnd l s.size) s0 ld s') : Calls Tryz.prog 18 #[.string s] w (DeclsOut ld (endS (withEnd l s.size) s') s.size w) :=
  file_c hs hp hx (fun r g cap => chainX_map (fun _ _ _ h => declR_one r g cap h) hr)

/-! ### there is one at every state -/
section
variable {L : List Tk} (hL : EndAt L)
include hL
omit hL in
end

/-! ### tokens of the same kinds and texts -/
inductive All2 {α : Type} (E : α → α → Prop) : List α → List α → Prop
  | nil : All2 E [] []
  | cons {x y : α} {l l' : List α} : E x y → All2 E l l' → All2 E (x :: l) (y :: l')
theorem All2.length {α : Type} {E : α → α → Prop} {l l' : List α} (h : All2 E l l') : l.length = l'.length := by
  induction h with
  | nil => rfl
  | cons _ _ ih => simp [ih]
def EqvB (x y : BT) : Prop := x.s = y.s ∧ Eqv x.t y.t
def EqvR (x y : CT) : Prop := x.h = y.h ∧ EqvL x.ps y.ps ∧ Eqv x.t y.t
def EqvD (x y : DT) : Prop := x.k = y.k ∧ x.s = y.s ∧ All2 EqvB x.te y.te ∧ Eqv x.t y.t ∧ All2 EqvB x.co y.co ∧ All2 EqvR x.ro y.ro
section
variable {L M : List Tk} (hS : SameTk L M)
include hS
end

end Go.Proofs.YteaojmcfppbgiaaGreatDoor
