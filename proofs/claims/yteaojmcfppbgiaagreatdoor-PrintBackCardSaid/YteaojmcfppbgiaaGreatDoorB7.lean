/- What token.All hands back, as the tokens of a reader. No program. -/
import Derived.Test.YteaojmcfppbgiaaGreatDoorB6
import Derived.ProofKit
import Derived.BigRegion
namespace Go.Proofs.YteaojmcfppbgiaaGreatDoor
open Go.RowKit
set_option linter.unusedVariables false
set_option maxRecDepth 100000

theorem tk_cons (t : Tk) (L : List Tk) (k : Nat) : tk (t :: L) (k + 1) = tk L k := rfl
theorem cellsL_at : ∀ (L : List Tk) (i : Nat), i < L.length → (cellsL L)[i * 3]? = some (.int .i64 (tk L i).1) ∧ (cellsL L)[i * 3 + 1]? = some (.string (tk L i).2.1) ∧ (cellsL L)[i * 3 + 2]? = some (.int .i64 (tk L i).2.2)
  | (k, u, a) :: L, 0, _ => ⟨rfl, rfl, rfl⟩
  | (k, u, a) :: L, i + 1, h => by
    obtain ⟨h1, h2, h3⟩ := cellsL_at L i (by simpa using h)
    have e : (i + 1) * 3 = i * 3 + 1 + 1 + 1 := by omega
    rw [tk_cons, e]
    refine ⟨?_, ?_, ?_⟩
    · rw [cellsL]; simp only [List.getElem?_cons_succ]; exact h1
    · rw [cellsL, show i * 3 + 1 + 1 + 1 + 1 = (i * 3 + 1) + 1 + 1 + 1 by omega]; simp only [List.getElem?_cons_succ]; exact h2
    · rw [cellsL, show i * 3 + 1 + 1 + 1 + 2 = (i * 3 + 2) + 1 + 1 + 1 by omega]; simp only [List.getElem?_cons_succ]; exact h3
/-- The tokens with the end behind. -/
def withEnd (l : List Tk) (n : Nat) : List Tk := l ++ [(5, ⟨#[]⟩, n)]
theorem withEnd_length (l : List Tk) (n : Nat) : (withEnd l n).length = l.length + 1 := by simp [withEnd]
theorem withEnd_at {l : List Tk} {n i : Nat} (h : i < l.length) : tk (withEnd l n) i = l[i] := by
  unfold tk withEnd
  rw [List.getD_eq_getElem?_getD, List.getElem?_append_left h, List.getElem?_eq_getElem h]; rfl
theorem withEnd_last (l : List Tk) (n : Nat) : tk (withEnd l n) l.length = (5, ⟨#[]⟩, n) := by
  unfold tk withEnd
  rw [List.getD_eq_getElem?_getD, List.getElem?_append_right (Nat.le_refl _), Nat.sub_self]; rfl

theorem one_size {u : ByteArray} {n : Int} (h : bytesL u = [n]) : u.size = 1 := by
  have := congrArg List.length h
  rw [bytesL_length] at this
  simpa using this
theorem tok_kind {t u : ByteArray} {k : Int} {m : Nat} (h : TokOf t k u m) : k ≠ 5 := by
  obtain ⟨_, n, _, ⟨_, _, hw, _⟩ | ⟨_, rfl, _⟩⟩ := h
  · rcases hw with ⟨_, rfl⟩ | ⟨_, _, rfl⟩ | ⟨_, _, _, rfl⟩ | ⟨_, _, _, _, rfl⟩ <;> decide
  · decide
theorem tok_text {t u : ByteArray} {k : Int} {m : Nat} (h : TokOf t k u m) : u.size ≤ t.size + 2 := by
  obtain ⟨_, n, _, ⟨_, _, _, ⟨ns, r, _, rfl⟩, _⟩ | ⟨_, _, hm⟩⟩ := h
  · simp; omega
  · rcases hm with ⟨_, hu, _⟩ | ⟨_, rfl, _⟩ | ⟨_, rfl, _⟩ | ⟨_, _, rfl, _⟩
    · rw [one_size hu]; omega
    · show 1 ≤ _; omega
    · show 2 ≤ _; omega
    · show 2 ≤ _; omega
theorem lex_toks {s : ByteArray} (hs : s.size ≤ 65535) {a c stop : Nat} {l : List Tk} {e : Int} (h : Lex s a c l stop e) : (∀ t ∈ l, t.1 ≠ 5 ∧ t.2.1.size ≤ 65537) ∧ (c ≤ 8192 → c + l.length ≤ 8192) := by
  induction h with
  | done h => exact ⟨fun t ht => absurd ht (by simp), fun h => by simpa using h⟩
  | long _ _ => exact ⟨fun t ht => absurd ht (by simp), fun h => by simpa using h⟩
  | form _ _ _ => exact ⟨fun t ht => absurd ht (by simp), fun h => by simpa using h⟩
  | tok h1 h2 h3 _ ih =>
    refine ⟨fun t ht => ?_, fun hc => ?_⟩
    · rcases List.mem_cons.1 ht with rfl | ht
      · refine ⟨tok_kind h3, ?_⟩
        have h4 := tok_text h3
        simp only [ByteArray.size_extract] at h4
        exact Nat.le_trans h4 (by omega)
      · exact ih.1 t ht
    · have := ih.2 (by omega)
      simp; omega
theorem toks_of {w w' : World} {v : Value} {s : ByteArray} {l : List Tk} {a stop : Nat} (hs : s.size ≤ 65535) (hx : Lex s a 0 l stop 0) (h : AllOut w w' v l s.size 0) :
    ∃ g cap, v = .slice (some ⟨g, 0, none⟩) (l.length + 1) cap ∧ w.heap.size ≤ g ∧ Toks w' g (withEnd l s.size) cap := by
  obtain ⟨hk, hn⟩ := lex_toks hs hx
  have hn := hn (by omega)
  have hrow := h.1 rfl
  rcases hrow.2 with ⟨_, h0⟩ | ⟨g, cap, cur, rfl, hg, hb, h1, h2, _⟩
  · omega
  · refine ⟨g, cap, rfl, hg, by rw [withEnd_length]; exact h1, h2, ?_, fun i hi => ?_, fun i hi => ?_, fun i hi => ?_, by rw [withEnd_length]; omega⟩
    · rcases Nat.lt_or_ge g w'.heap.size with hlt | hge
      · exact hlt
      · rw [Array.getElem?_eq_none hge] at hb; cases hb
    · rw [withEnd_length] at hi
      have e : cellsL l ++ [.int .i64 5, .string ⟨#[]⟩, .int .i64 s.size] = cellsL (withEnd l s.size) := by unfold withEnd; rw [cellsL_append]; rfl
      rw [e] at hrow
      obtain ⟨q1, q2, q3⟩ := cellsL_at (withEnd l s.size) i (by rw [withEnd_length]; exact hi)
      exact ⟨(hrow.cellAt _ (by omega)).trans q1, (hrow.cellAt _ (by omega)).trans q2, (hrow.cellAt _ (by omega)).trans q3⟩
    · rw [withEnd_length] at hi
      rcases Nat.lt_or_ge i l.length with hlt | hge
      · rw [withEnd_at hlt]
        have := (hk _ (List.getElem_mem hlt)).2
        unfold maxLen; omega
      · obtain rfl : i = l.length := by omega
        rw [withEnd_last]
        show (⟨#[]⟩ : ByteArray).size ≤ maxLen
        decide
    · rw [withEnd_length] at hi ⊢
      rcases Nat.lt_or_ge i l.length with hlt | hge
      · rw [withEnd_at hlt]
        have := (hk _ (List.getElem_mem hlt)).1
        exact ⟨fun h => absurd h this, fun h => by omega⟩
      · obtain rfl : i = l.length := by omega
        rw [withEnd_last]
        exact ⟨fun _ => rfl, fun _ => rfl⟩
end Go.Proofs.YteaojmcfppbgiaaGreatDoor

/- parse.read of patterns: a text cut, and read to its end. -/
namespace Go.Proofs.YteaojmcfppbgiaaGreatDoor
open Go.RowKit
set_option linter.unusedVariables false
set_option maxRecDepth 100000

theorem Kp.under {r B : Nat} {w w' : World} (h : Kp r w w') (hr : B ≤ r) (hB : B ≤ w.heap.size) : Below B w w' := ⟨h.os, h.tape, h.output, h.size, fun k hk => h.block k (by omega) (fun e => by injection e; omega)⟩
/-- What is left at the end is none's. -/
def endS (L : List Tk) (s : St) : St := if enB L s.k then s else badS L s
def s0 : St := ⟨0, 0, 0⟩
/-- What read comes back with: the whole's, or the first error. -/
def PatsOut (l : List RT) (z : St) (n : Nat) (w : World) (e : Ending) (w' : World) : Prop :=
  Below w.heap.size w w' ∧ (z.e = 0 → ∃ A c, e = .returned (.tuple #[.slice A l.length c, .int .i64 n, .int .i64 0]) ∧ l.length ≤ c ∧ c ≤ maxLen ∧ NodesAt w' w.heap.size w'.heap.size A l) ∧
  (z.e ≠ 0 → e = .returned (.tuple #[.slice none 0 0, .int .i64 z.f, .int .i64 z.e]))
theorem NodesAt.wide {w : World} {lo hi lo' hi' : Nat} {A : Option Addr} {l : List RT} (h : NodesAt w lo hi A l) (h1 : lo' ≤ lo) (h2 : hi ≤ hi') : NodesAt w lo' hi' A l := by
  intro i hi0
  obtain ⟨b, o, F, C, hA, h3, h4, h5, h6⟩ := h i hi0
  exact ⟨b, o, F, C, hA, by omega, by omega, h5, h6.wide h1 h2⟩

set_option maxHeartbeats 4000000 in
theorem read_pats {s : ByteArray} {ns : List Int} {w : World} {l : List Tk} {stop : Nat} {lp : List RT} {s' : St} (hs : s.size ≤ 65535) (hp : Parse (bytesL s) ns []) (hx : Lex s (skipL (bytesL s)) 0 l stop 0)
    (hc : ∀ r g cap, Chain (withEnd l s.size) (One 82 r g (withEnd l s.size) cap) (ptB (withEnd l s.size)) 24 0 s0 lp s') :
    Calls Tryz.prog 44 #[.string s, .func (.func 45) #[] #[]] w (PatsOut lp (endS (withEnd l s.size) s') s.size w) := by
  have hstop : stop = s.size := by rcases lex_err hx with ⟨_, h⟩ | h | h <;> first | exact h | cases h
  subst hstop
  have HALL := Lib.hid (fun (V : World) => tokAll_any s ns V l s.size 0 hs hp hx)
  have HT := Lib.hid (fun (V V' : World) (v : Value) (h : AllOut V V' v l s.size 0) => toks_of hs hx h)
  obtain ⟨L, hL⟩ : ∃ L, withEnd l s.size = L := ⟨_, rfl⟩
  have HLN : Hid (L.length = l.length + 1) := Lib.hid (by rw [← hL, withEnd_length])
  rw [hL] at hc HT ⊢
  have HW := Lib.hid (fun (V : World) (r g cap : Nat) (h : Rd V r g L cap s0) => patterns_c h (hc r g cap))
  unfold ListR at HW
  clear hp hx hc hL
  go_enter Tryz.func44, Tryz.ntmps44
  go_wp2_with fail
  refine (HALL.out _).mono ?_; rintro e w1 ⟨v, rfl, hall, hb1⟩
  obtain ⟨g, cap, rfl, hg, htk⟩ := HT.out _ _ _ hall
  have hs1 := hb1.size
  have HB1 := Lib.hid hb1
  have hl0 := HLN.out
  have HRD : Hid (Rd (w1.alloc (.cells #[.slice (some ⟨g, 0, none⟩) (l.length + 1) cap, .int .i64 0, .int .i64 0] 133)) w1.heap.size g L cap s0) := Lib.hid (by
    refine ⟨?_, by show 0 < _; omega, htk.lt, htk.kept (r := w1.heap.size) (Kp.of ((Below.refl _ _).alloc (Nat.le_refl _) _)) (by have := htk.lt; omega)⟩
    have := Bk.new w1 133 #[.slice (some ⟨g, 0, none⟩) (l.length + 1) cap, .int .i64 0, .int .i64 0]
    show Bk _ _ _ #[.slice (some ⟨g, 0 * 3, none⟩) (L.length - 0) (cap - 0), .int .i64 0, .int .i64 0]
    rw [Nat.zero_mul, Nat.sub_zero, Nat.sub_zero, hl0]
    exact this)
  clear hall htk hb1 HALL HT hl0
  go_wp2_with fail
  refine (HW.out _ _ _ _ HRD.out).mono ?_; rintro e w2 ⟨A, c, rfl, hl1, hl2, hns, hr2, hk2⟩
  have hs2 := hk2.size
  simp at hs2
  have HB2 : Hid (Below w.heap.size w w2) := Lib.hid ((HB1.out.alloc hs1 _).trans (hk2.under hs1 (by simp; omega)))
  have HLA := Lib.hid hl1
  have HLB := Lib.hid hl2
  have HNS := Lib.hid hns
  have HR2 := Lib.hid hr2
  have HGO := Lib.hid (goesOn_tells hr2)
  have HBAD := Lib.hid (bad_moves hr2)
  clear hl1 hl2 hns hk2 HRD HW
  have hc2 : w2.cell? ⟨w1.heap.size, 2, none⟩ = some (.int .i64 s'.e) := hr2.bk.cell 2
  have hc1 : w2.cell? ⟨w1.heap.size, 1, none⟩ = some (.int .i64 s'.f) := hr2.bk.cell 1
  have hlt2 := hr2.bk.lt
  cases hen : enB L s'.k with
  | true =>
    rw [hen] at HGO
    have hE : endS L s' = s' := by unfold endS; rw [if_pos hen]
    by_cases he : s'.e = 0
    · have hb : (s'.e != 0) = false := by simpa using he
      have HOUT : Hid (PatsOut lp (endS L s') s.size w (.returned (.tuple #[.slice A lp.length c, .int .i64 s.size, .int .i64 0])) w2) := Lib.hid (by rw [hE]; exact ⟨HB2.out, fun _ => ⟨A, c, rfl, HLA.out, HLB.out, HNS.out.wide (by simp; omega) (Nat.le_refl _)⟩, fun h => absurd he h⟩)
      clear hE hen hr2 he HBAD HNS HR2 HB2 HLA HLB
      go_wp2_with fail
      refine HGO.out.mono ?_; rintro e w' ⟨rfl, rfl⟩
      go_wp2_with fail
      refine bodyPost_ret (v := .tuple #[.slice A lp.length c, .int .i64 s.size, .int .i64 0]) (by simp [results, Tryz.results44, go_sem]) rfl ?_
      exact HOUT.out
    · have hb : (s'.e != 0) = true := by simpa using he
      have HOUT : Hid (PatsOut lp (endS L s') s.size w (.returned (.tuple #[.slice none 0 0, .int .i64 s'.f, .int .i64 s'.e])) w2) := Lib.hid (by rw [hE]; exact ⟨HB2.out, fun h => absurd h he, fun _ => rfl⟩)
      have HOUTD : Hid (PatsOut lp (endS L s') s.size w (.returned (.tuple #[.slice none 0 0, .int .i64 s'.f, .int .i64 s'.e])) w2.drew) := Lib.hid (by rw [hE]; exact ⟨HB2.out.drew, fun h => absurd h he, fun _ => rfl⟩)
      clear hE hen hr2 he HBAD HNS HR2 HB2 HLA HLB
      go_wp2_with fail
      refine HGO.out.mono ?_; rintro e w' ⟨rfl, rfl⟩
      go_wp2_with fail
      go_region
      all_goals
        go_wp2_with fail
        refine bodyPost_ret (v := .tuple #[.slice none 0 0, .int .i64 s'.f, .int .i64 s'.e]) (by simp [results, Tryz.results44, go_sem]) rfl ?_
        first | exact HOUT.out | exact HOUTD.out
  | false =>
    rw [hen] at HGO
    have hE0 : endS L s' = badS L s' := by unfold endS; rw [if_neg (by rw [hen]; simp)]
    obtain ⟨z, hz⟩ : ∃ z, badS L s' = z := ⟨_, rfl⟩
    rw [hz] at HBAD hE0
    have HE := Lib.hid hE0
    clear hE0
    have hze : z.e ≠ 0 := by
      rw [← hz]; unfold badS failS
      show (if s'.e = 0 then (1 : Int) else s'.e) ≠ 0
      split
      · decide
      · assumption
    clear hen hr2 hz HNS HR2 HLA HLB hc1 hc2
    go_wp2_with fail
    refine HGO.out.mono ?_; rintro e w' ⟨rfl, rfl⟩
    go_wp2_with fail
    refine HBAD.out.mono ?_; rintro e w3 ⟨rfl, hr3, hk3⟩
    have hb : (z.e != 0) = true := by simpa using hze
    have HB3 := Lib.hid (HB2.out.trans (hk3.under hs1 (by omega)))
    have HOUT : Hid (PatsOut lp (endS L s') s.size w (.returned (.tuple #[.slice none 0 0, .int .i64 z.f, .int .i64 z.e])) w3) := Lib.hid (by rw [HE.out]; exact ⟨HB3.out, fun h => absurd h hze, fun _ => rfl⟩)
    have HOUTD : Hid (PatsOut lp (endS L s') s.size w (.returned (.tuple #[.slice none 0 0, .int .i64 z.f, .int .i64 z.e])) w3.drew) := Lib.hid (by rw [HE.out]; exact ⟨HB3.out.drew, fun h => absurd h hze, fun _ => rfl⟩)
    have hd2 : w3.cell? ⟨w1.heap.size, 2, none⟩ = some (.int .i64 z.e) := hr3.bk.cell 2
    have hd1 : w3.cell? ⟨w1.heap.size, 1, none⟩ = some (.int .i64 z.f) := hr3.bk.cell 1
    have hlt3 := hr3.bk.lt
    clear hr3 hk3 hze
    go_wp2_with fail
    go_region
    all_goals
      go_wp2_with fail
      refine bodyPost_ret (v := .tuple #[.slice none 0 0, .int .i64 z.f, .int .i64 z.e]) (by simp [results, Tryz.results44, go_sem]) rfl ?_
      first | exact HOUT.out | exact HOUTD.out

end Go.Proofs.YteaojmcfppbgiaaGreatDoor

/- parse.Pats, parse.read of an expression, parse.Expr: a text cut, and read to its end. -/
namespace Go.Proofs.YteaojmcfppbgiaaGreatDoor
open Go.RowKit
set_option linter.unusedVariables false
set_option maxRecDepth 100000

set_option maxHeartbeats 1000000 in
theorem pats_c {s : ByteArray} {ns : List Int} {w : World} {l : List Tk} {stop : Nat} {lp : List RT} {s' : St} (hs : s.size ≤ 65535) (hp : Parse (bytesL s) ns []) (hx : Lex s (skipL (bytesL s)) 0 l stop 0)
    (hc : ∀ r g cap, Chain (withEnd l s.size) (One 82 r g (withEnd l s.size) cap) (ptB (withEnd l s.size)) 24 0 s0 lp s') :
    Calls Tryz.prog 16 #[.string s] w (PatsOut lp (endS (withEnd l s.size) s') s.size w) := by
  have H := Lib.hid (read_pats (w := w) hs hp hx hc)
  obtain ⟨z, hz⟩ : ∃ z, endS (withEnd l s.size) s' = z := ⟨_, rfl⟩
  rw [hz] at H ⊢
  clear hp hx hc hz
  go_enter Tryz.func16, Tryz.ntmps16
  go_wp2_with fail
  refine H.out.mono ?_; rintro e w1 hx
  have HX := Lib.hid hx
  obtain ⟨-, h1, h2⟩ := hx
  by_cases he : z.e = 0
  · obtain ⟨A, c, rfl, -⟩ := h1 he
    clear h1 h2 he
    go_wp2_with fail
    refine bodyPost_ret (v := .tuple #[.slice A lp.length c, .int .i64 s.size, .int .i64 0]) (by simp [results, Tryz.results16, go_sem]) rfl ?_
    exact HX.out
  · obtain rfl := h2 he
    clear h1 h2 he
    go_wp2_with fail
    refine bodyPost_ret (v := .tuple #[.slice none 0 0, .int .i64 z.f, .int .i64 z.e]) (by simp [results, Tryz.results16, go_sem]) rfl ?_
    exact HX.out

/-- What read comes back with, of an expression. -/
def ExprOut (t : RT) (z : St) (n : Nat) (w : World) (e : Ending) (w' : World) : Prop :=
  Below w.heap.size w w' ∧ (z.e = 0 → ∃ A c, e = .returned (.tuple #[nodeV t A c, .int .i64 n, .int .i64 0]) ∧ IsNode w' w.heap.size w'.heap.size t A c) ∧
  (z.e ≠ 0 → e = .returned (.tuple #[.agg #[.int .i64 0, .int .i64 0, .string ⟨#[]⟩, .int .i64 0, .slice none 0 0], .int .i64 z.f, .int .i64 z.e]))

set_option maxHeartbeats 4000000 in
theorem read_node {s : ByteArray} {ns : List Int} {w : World} {l : List Tk} {stop : Nat} {t : RT} {s' : St} (hs : s.size ≤ 65535) (hp : Parse (bytesL s) ns []) (hx : Lex s (skipL (bytesL s)) 0 l stop 0)
    (hc : ∀ r g cap, One 38 r g (withEnd l s.size) cap s0 t s') :
    Calls Tryz.prog 37 #[.string s, .func (.func 38) #[] #[]] w (ExprOut t (endS (withEnd l s.size) s') s.size w) := by
  have hstop : stop = s.size := by rcases lex_err hx with ⟨_, h⟩ | h | h <;> first | exact h | cases h
  subst hstop
  have HALL := Lib.hid (fun (V : World) => tokAll_any s ns V l s.size 0 hs hp hx)
  have HT := Lib.hid (fun (V V' : World) (v : Value) (h : AllOut V V' v l s.size 0) => toks_of hs hx h)
  obtain ⟨L, hL⟩ : ∃ L, withEnd l s.size = L := ⟨_, rfl⟩
  have HLN : Hid (L.length = l.length + 1) := Lib.hid (by rw [← hL, withEnd_length])
  rw [hL] at hc HT ⊢
  have HW := Lib.hid (fun (r g cap : Nat) => hc r g cap)
  unfold One TreeR nodeV at HW
  clear hp hx hc hL
  go_enter Tryz.func37, Tryz.ntmps37
  go_wp2_with fail
  refine (HALL.out _).mono ?_; rintro e w1 ⟨v, rfl, hall, hb1⟩
  obtain ⟨g, cap, rfl, hg, htk⟩ := HT.out _ _ _ hall
  have hs1 := hb1.size
  simp at hs1
  have HB1 : Hid (Below w.heap.size w w1) := Lib.hid ((((Below.refl w.heap.size w).alloc (Nat.le_refl _) (.cells #[.int .i64 0, .int .i64 0, .string ⟨#[]⟩, .int .i64 0, .slice none 0 0] 36)).alloc (by simp) (.cells #[.int .i64 0, .int .i64 0, .string ⟨#[]⟩, .int .i64 0, .slice none 0 0] 36)).trans (hb1.mono (by simp; omega)))
  have hbr : Bk w1 w.heap.size 36 #[.int .i64 0, .int .i64 0, .string ⟨#[]⟩, .int .i64 0, .slice none 0 0] := ((Bk.new w 36 #[.int .i64 0, .int .i64 0, .string ⟨#[]⟩, .int .i64 0, .slice none 0 0]).alloc (.cells #[.int .i64 0, .int .i64 0, .string ⟨#[]⟩, .int .i64 0, .slice none 0 0] 36)).below hb1 (by simp; omega)
  have hbn : Bk w1 (w.heap.size + 1) 36 #[.int .i64 0, .int .i64 0, .string ⟨#[]⟩, .int .i64 0, .slice none 0 0] := by
    have := (Bk.new (w.alloc (.cells #[.int .i64 0, .int .i64 0, .string ⟨#[]⟩, .int .i64 0, .slice none 0 0] 36)) 36 #[.int .i64 0, .int .i64 0, .string ⟨#[]⟩, .int .i64 0, .slice none 0 0]).below hb1 (by simp)
    simpa using this
  have hl0 := HLN.out
  have HRD : Hid (Rd (w1.alloc (.cells #[.slice (some ⟨g, 0, none⟩) (l.length + 1) cap, .int .i64 0, .int .i64 0] 133)) w1.heap.size g L cap s0) := Lib.hid (by
    refine ⟨?_, by show 0 < _; omega, htk.lt, htk.kept (r := w1.heap.size) (Kp.of ((Below.refl _ _).alloc (Nat.le_refl _) _)) (by have := htk.lt; omega)⟩
    have := Bk.new w1 133 #[.slice (some ⟨g, 0, none⟩) (l.length + 1) cap, .int .i64 0, .int .i64 0]
    show Bk _ _ _ #[.slice (some ⟨g, 0 * 3, none⟩) (L.length - 0) (cap - 0), .int .i64 0, .int .i64 0]
    rw [Nat.zero_mul, Nat.sub_zero, Nat.sub_zero, hl0]
    exact this)
  have HBR := Lib.hid (hbr.alloc (.cells #[.slice (some ⟨g, 0, none⟩) (l.length + 1) cap, .int .i64 0, .int .i64 0] 133))
  have HBN := Lib.hid (hbn.alloc (.cells #[.slice (some ⟨g, 0, none⟩) (l.length + 1) cap, .int .i64 0, .int .i64 0] 133))
  clear hall htk hb1 HALL HT hl0 hbr hbn
  go_wp2_with fail
  refine (HW.out _ _ _ _ HRD.out).mono ?_; rintro e w2 ⟨A, c, rfl, hn, hr2, hk2⟩
  have hs2 := hk2.size
  simp at hs2
  have HB2 : Hid (Below w.heap.size w w2) := Lib.hid ((HB1.out.alloc (by omega) _).trans (hk2.under (by omega) (by simp; omega)))
  have HBR2 := Lib.hid (HBR.out.kp hk2 (by omega))
  have HBN2 := Lib.hid (HBN.out.kp hk2 (by omega))
  have HN2 : Hid (IsNode w2 (w.heap.size + 2) w2.heap.size t A c) := Lib.hid (hn.wide (by simp; omega) (Nat.le_refl _))
  have hr2a := hr2.alloc (.cells #[.int .i64 t.k, .int .i64 t.a, .string t.s, .int .i64 t.n, .slice A t.l.length c] 36)
  have HGO := Lib.hid (goesOn_tells hr2a)
  have HBAD := Lib.hid (bad_moves hr2a)
  have hc2 : w2.cell? ⟨w1.heap.size, 2, none⟩ = some (.int .i64 s'.e) := hr2.bk.cell 2
  have hc1 : w2.cell? ⟨w1.heap.size, 1, none⟩ = some (.int .i64 s'.f) := hr2.bk.cell 1
  have hlt2 := hr2.bk.lt
  clear hn hk2 HRD HW HBR HBN
  obtain ⟨d0, d1, d2, d3, d4⟩ := HBR2.out.c5
  obtain ⟨n0, n1, n2, n3, n4⟩ := HBN2.out.c5
  have hfz : ∀ o, w2.frozen? ⟨w.heap.size, o, none⟩ = false := fun o => HBR2.out.cold o
  have hbl := HBR2.out.lt
  have hnl := HBN2.out.lt
  cases hen : enB L s'.k with
  | true =>
    rw [hen] at HGO
    have hE : endS L s' = s' := by unfold endS; rw [if_pos hen]
    by_cases he : s'.e = 0
    · have hb : (s'.e != 0) = false := by simpa using he
      have hbf := ((((((HBR2.out.at_ 0 (.int .i64 t.k)).at_ 1 (.int .i64 t.a)).at_ 2 (.string t.s)).at_ 3 (.int .i64 t.n)).at_ 4 (.slice A t.l.length c))).alloc (.cells #[.int .i64 t.k, .int .i64 t.a, .string t.s, .int .i64 t.n, .slice A t.l.length c] 36)
      have HS0 := Lib.hid (hbf.cell 0)
      have HS1 := Lib.hid (hbf.cell 1)
      have HS2 := Lib.hid (hbf.cell 2)
      have HS3 := Lib.hid (hbf.cell 3)
      have HS4 := Lib.hid (hbf.cell 4)
      have HOUT : Hid (ExprOut t (endS L s') s.size w (.returned (.tuple #[nodeV t A c, .int .i64 s.size, .int .i64 0])) ((five w2 w.heap.size (.int .i64 t.k) (.int .i64 t.a) (.string t.s) (.int .i64 t.n) (.slice A t.l.length c)).alloc (.cells #[.int .i64 t.k, .int .i64 t.a, .string t.s, .int .i64 t.n, .slice A t.l.length c] 36))) := Lib.hid (by
        rw [hE]
        have h5 := HN2.out.five (g := w.heap.size) (by omega) (.int .i64 t.k) (.int .i64 t.a) (.string t.s) (.int .i64 t.n) (.slice A t.l.length c)
        have hz5 : (five w2 w.heap.size (.int .i64 t.k) (.int .i64 t.a) (.string t.s) (.int .i64 t.n) (.slice A t.l.length c)).heap.size = w2.heap.size := by unfold five; rw [size_five]
        refine ⟨(((((HB2.out.setCell (Nat.le_refl _) _).setCell (Nat.le_refl _) _).setCell (Nat.le_refl _) _).setCell (Nat.le_refl _) _).setCell (Nat.le_refl _) _).alloc (by have := hz5; unfold five at this; rw [this]; omega) _, fun _ => ⟨A, c, rfl, ?_⟩, fun h => absurd he h⟩
        exact (IsNode.alloc h5 (by rw [size_five]; exact Nat.le_refl _) _).wide (by omega) (by show _ ≤ ((five _ _ _ _ _ _ _).alloc _).heap.size; simp [hz5]))
      clear hE hen hr2 hr2a he HBAD HN2 HB2 HBR2 HBN2 hbf
      unfold five at HOUT
      go_wp2_with fail
      refine HGO.out.mono ?_; rintro e w' ⟨rfl, rfl⟩
      go_wp2_with fail
      refine bodyPost_ret (v := .tuple #[.agg #[.int .i64 t.k, .int .i64 t.a, .string t.s, .int .i64 t.n, .slice A t.l.length c], .int .i64 s.size, .int .i64 0]) (by simp [results, Tryz.results37, go_sem, HS0.out, HS1.out, HS2.out, HS3.out, HS4.out]) rfl ?_
      exact HOUT.out
    · have hb : (s'.e != 0) = true := by simpa using he
      have hbe := ((((((HBR2.out.at_ 0 (.int .i64 0)).at_ 1 (.int .i64 0)).at_ 2 (.string ⟨#[]⟩)).at_ 3 (.int .i64 0)).at_ 4 (.slice none 0 0))).alloc (.cells #[.int .i64 t.k, .int .i64 t.a, .string t.s, .int .i64 t.n, .slice A t.l.length c] 36)
      have hbf : Bk (((((((w2.setCell ⟨w.heap.size, 0, none⟩ (.int .i64 0)).setCell ⟨w.heap.size, 1, none⟩ (.int .i64 0)).setCell ⟨w.heap.size, 2, none⟩ (.string ⟨#[]⟩)).setCell ⟨w.heap.size, 3, none⟩ (.int .i64 0)).setCell ⟨w.heap.size, 4, none⟩ (.slice none 0 0)).alloc (.cells #[.int .i64 t.k, .int .i64 t.a, .string t.s, .int .i64 t.n, .slice A t.l.length c] 36)).drew) w.heap.size 36 #[.int .i64 0, .int .i64 0, .string ⟨#[]⟩, .int .i64 0, .slice none 0 0] := hbe
      have HS0 := Lib.hid (hbf.cell 0)
      have HS1 := Lib.hid (hbf.cell 1)
      have HS2 := Lib.hid (hbf.cell 2)
      have HS3 := Lib.hid (hbf.cell 3)
      have HS4 := Lib.hid (hbf.cell 4)
      have HOUT : Hid (ExprOut t (endS L s') s.size w (.returned (.tuple #[.agg #[.int .i64 0, .int .i64 0, .string ⟨#[]⟩, .int .i64 0, .slice none 0 0], .int .i64 s'.f, .int .i64 s'.e])) (((five w2 w.heap.size (.int .i64 0) (.int .i64 0) (.string ⟨#[]⟩) (.int .i64 0) (.slice none 0 0)).alloc (.cells #[.int .i64 t.k, .int .i64 t.a, .string t.s, .int .i64 t.n, .slice A t.l.length c] 36)).drew)) := Lib.hid (by
        rw [hE]
        have hz5 : (five w2 w.heap.size (.int .i64 0) (.int .i64 0) (.string ⟨#[]⟩) (.int .i64 0) (.slice none 0 0)).heap.size = w2.heap.size := by unfold five; rw [size_five]
        refine ⟨((((((HB2.out.setCell (Nat.le_refl _) _).setCell (Nat.le_refl _) _).setCell (Nat.le_refl _) _).setCell (Nat.le_refl _) _).setCell (Nat.le_refl _) _).alloc (by have := hz5; unfold five at this; rw [this]; omega) _).drew, fun h => absurd h he, fun _ => rfl⟩)
      clear hE hen hr2 hr2a HBAD hbe hbf he HN2 HB2 HBR2 HBN2
      unfold five at HOUT
      go_wp2_with fail
      refine HGO.out.mono ?_; rintro e w' ⟨rfl, rfl⟩
      go_wp2_with fail
      go_region
      all_goals
        go_wp2_with fail
        refine bodyPost_ret (v := .tuple #[.agg #[.int .i64 0, .int .i64 0, .string ⟨#[]⟩, .int .i64 0, .slice none 0 0], .int .i64 s'.f, .int .i64 s'.e]) (by simp [results, Tryz.results37, go_sem, HS0.out, HS1.out, HS2.out, HS3.out, HS4.out]) rfl ?_
        exact HOUT.out
  | false =>
    rw [hen] at HGO
    have hE0 : endS L s' = badS L s' := by unfold endS; rw [if_neg (by rw [hen]; simp)]
    obtain ⟨z, hz⟩ : ∃ z, badS L s' = z := ⟨_, rfl⟩
    rw [hz] at HBAD hE0
    have HE := Lib.hid hE0
    have hze : z.e ≠ 0 := by
      rw [← hz]; unfold badS failS
      show (if s'.e = 0 then (1 : Int) else s'.e) ≠ 0
      split
      · decide
      · assumption
    clear hE0 hen hr2 hr2a hz hc1 hc2 d0 d1 d2 d3 d4 n0 n1 n2 n3 n4 hfz HN2
    go_wp2_with fail
    refine HGO.out.mono ?_; rintro e w' ⟨rfl, rfl⟩
    go_wp2_with fail
    refine HBAD.out.mono ?_; rintro e w3 ⟨rfl, hr3, hk3⟩
    have hs3 := hk3.size
    simp at hs3
    have hb : (z.e != 0) = true := by simpa using hze
    have HB3 := Lib.hid ((HB2.out.alloc (by omega) (.cells #[.int .i64 t.k, .int .i64 t.a, .string t.s, .int .i64 t.n, .slice A t.l.length c] 36)).trans (hk3.under (by omega) (by simp; omega)))
    have HBR3 := Lib.hid ((HBR2.out.alloc (.cells #[.int .i64 t.k, .int .i64 t.a, .string t.s, .int .i64 t.n, .slice A t.l.length c] 36)).kp hk3 (by omega))
    have HBN3 := Lib.hid ((HBN2.out.alloc (.cells #[.int .i64 t.k, .int .i64 t.a, .string t.s, .int .i64 t.n, .slice A t.l.length c] 36)).kp hk3 (by omega))
    obtain ⟨d0, d1, d2, d3, d4⟩ := HBR3.out.c5
    obtain ⟨n0, n1, n2, n3, n4⟩ := HBN3.out.c5
    have hfz : ∀ o, w3.frozen? ⟨w.heap.size, o, none⟩ = false := fun o => HBR3.out.cold o
    have hbl3 := HBR3.out.lt
    have hnl3 := HBN3.out.lt
    have hbf : Bk ((((((w3.setCell ⟨w.heap.size, 0, none⟩ (.int .i64 0)).setCell ⟨w.heap.size, 1, none⟩ (.int .i64 0)).setCell ⟨w.heap.size, 2, none⟩ (.string ⟨#[]⟩)).setCell ⟨w.heap.size, 3, none⟩ (.int .i64 0)).setCell ⟨w.heap.size, 4, none⟩ (.slice none 0 0)).drew) w.heap.size 36 #[.int .i64 0, .int .i64 0, .string ⟨#[]⟩, .int .i64 0, .slice none 0 0] := ((((HBR3.out.at_ 0 (.int .i64 0)).at_ 1 (.int .i64 0)).at_ 2 (.string ⟨#[]⟩)).at_ 3 (.int .i64 0)).at_ 4 (.slice none 0 0)
    have HS0 := Lib.hid (hbf.cell 0)
    have HS1 := Lib.hid (hbf.cell 1)
    have HS2 := Lib.hid (hbf.cell 2)
    have HS3 := Lib.hid (hbf.cell 3)
    have HS4 := Lib.hid (hbf.cell 4)
    have HOUT : Hid (ExprOut t (endS L s') s.size w (.returned (.tuple #[.agg #[.int .i64 0, .int .i64 0, .string ⟨#[]⟩, .int .i64 0, .slice none 0 0], .int .i64 z.f, .int .i64 z.e])) ((five w3 w.heap.size (.int .i64 0) (.int .i64 0) (.string ⟨#[]⟩) (.int .i64 0) (.slice none 0 0)).drew)) := Lib.hid (by
      rw [HE.out]
      exact ⟨(((((HB3.out.setCell (Nat.le_refl _) _).setCell (Nat.le_refl _) _).setCell (Nat.le_refl _) _).setCell (Nat.le_refl _) _).setCell (Nat.le_refl _) _).drew, fun h => absurd h hze, fun _ => rfl⟩)
    have hd2 : w3.cell? ⟨w1.heap.size, 2, none⟩ = some (.int .i64 z.e) := hr3.bk.cell 2
    have hd1 : w3.cell? ⟨w1.heap.size, 1, none⟩ = some (.int .i64 z.f) := hr3.bk.cell 1
    have hlt3 := hr3.bk.lt
    clear hr3 hk3 hze hbf HBR3 HBN3 HBR2 HBN2 HB2 HB3
    unfold five at HOUT
    go_wp2_with fail
    go_region
    all_goals
      go_wp2_with fail
      refine bodyPost_ret (v := .tuple #[.agg #[.int .i64 0, .int .i64 0, .string ⟨#[]⟩, .int .i64 0, .slice none 0 0], .int .i64 z.f, .int .i64 z.e]) (by simp [results, Tryz.results37, go_sem, HS0.out, HS1.out, HS2.out, HS3.out, HS4.out]) rfl ?_
      exact HOUT.out

end Go.Proofs.YteaojmcfppbgiaaGreatDoor

/- parse.Expr: a text that is one expression. -/
namespace Go.Proofs.YteaojmcfppbgiaaGreatDoor
open Go.RowKit
set_option linter.unusedVariables false
set_option maxRecDepth 100000

set_option maxHeartbeats 2000000 in
theorem expr_top {s : ByteArray} {ns : List Int} {w : World} {l : List Tk} {stop : Nat} {t : RT} {s' : St} (hs : s.size ≤ 65535) (hp : Parse (bytesL s) ns []) (hx : Lex s (skipL (bytesL s)) 0 l stop 0)
    (hc : ∀ r g cap, One 38 r g (withEnd l s.size) cap s0 t s') :
    Calls Tryz.prog 13 #[.string s] w (ExprOut t (endS (withEnd l s.size) s') s.size w) := by
  have H := Lib.hid (fun V => read_node (w := V) hs hp hx hc)
  obtain ⟨z, hz⟩ : ∃ z, endS (withEnd l s.size) s' = z := ⟨_, rfl⟩
  simp only [hz] at H
  rw [hz]
  clear hp hx hc hz
  go_enter Tryz.func13, Tryz.ntmps13
  go_wp2_with fail
  refine (H.out _).mono ?_; rintro e w1 ⟨hb, h1, h2⟩
  have hs1 := hb.size
  simp at hs1
  have HB1 : Hid (Below w.heap.size w w1) := Lib.hid (((Below.refl w.heap.size w).alloc (Nat.le_refl _) (.cells #[.int .i64 0, .int .i64 0, .string ⟨#[]⟩, .int .i64 0, .slice none 0 0] 36)).trans (hb.mono (by simp)))
  have HBR : Hid (Bk w1 w.heap.size 36 #[.int .i64 0, .int .i64 0, .string ⟨#[]⟩, .int .i64 0, .slice none 0 0]) := Lib.hid ((Bk.new w 36 #[.int .i64 0, .int .i64 0, .string ⟨#[]⟩, .int .i64 0, .slice none 0 0]).below hb (by simp))
  obtain ⟨d0, d1, d2, d3, d4⟩ := HBR.out.c5
  have hfz : ∀ o, w1.frozen? ⟨w.heap.size, o, none⟩ = false := fun o => HBR.out.cold o
  have hbl := HBR.out.lt
  clear hb H
  by_cases he : z.e = 0
  · obtain ⟨A, c, rfl, hn⟩ := h1 he
    have HOUT : Hid (ExprOut t z s.size w (.returned (.tuple #[nodeV t A c, .int .i64 s.size, .int .i64 0])) (five w1 w.heap.size (.int .i64 t.k) (.int .i64 t.a) (.string t.s) (.int .i64 t.n) (.slice A t.l.length c))) := Lib.hid (by
      refine ⟨(((((HB1.out.setCell (Nat.le_refl _) _).setCell (Nat.le_refl _) _).setCell (Nat.le_refl _) _).setCell (Nat.le_refl _) _).setCell (Nat.le_refl _) _), fun _ => ⟨A, c, rfl, ?_⟩, fun h => absurd he h⟩
      exact (hn.five (g := w.heap.size) (by simp) _ _ _ _ _).wide (by simp) (by unfold five; rw [size_five]; exact Nat.le_refl _))
    have hbf := ((((HBR.out.at_ 0 (.int .i64 t.k)).at_ 1 (.int .i64 t.a)).at_ 2 (.string t.s)).at_ 3 (.int .i64 t.n)).at_ 4 (.slice A t.l.length c)
    have HS0 := Lib.hid (hbf.cell 0)
    have HS1 := Lib.hid (hbf.cell 1)
    have HS2 := Lib.hid (hbf.cell 2)
    have HS3 := Lib.hid (hbf.cell 3)
    have HS4 := Lib.hid (hbf.cell 4)
    clear h1 h2 he hn hbf HBR HB1
    unfold five at HOUT
    unfold nodeV
    go_wp2_with fail
    refine bodyPost_ret (v := .tuple #[.agg #[.int .i64 t.k, .int .i64 t.a, .string t.s, .int .i64 t.n, .slice A t.l.length c], .int .i64 s.size, .int .i64 0]) (by simp [results, Tryz.results13, go_sem, HS0.out, HS1.out, HS2.out, HS3.out, HS4.out]) rfl ?_
    exact HOUT.out
  · obtain rfl := h2 he
    have HOUT : Hid (ExprOut t z s.size w (.returned (.tuple #[.agg #[.int .i64 0, .int .i64 0, .string ⟨#[]⟩, .int .i64 0, .slice none 0 0], .int .i64 z.f, .int .i64 z.e])) (five w1 w.heap.size (.int .i64 0) (.int .i64 0) (.string ⟨#[]⟩) (.int .i64 0) (.slice none 0 0))) := Lib.hid ⟨(((((HB1.out.setCell (Nat.le_refl _) _).setCell (Nat.le_refl _) _).setCell (Nat.le_refl _) _).setCell (Nat.le_refl _) _).setCell (Nat.le_refl _) _), fun h => absurd h he, fun _ => rfl⟩
    have hbf := ((((HBR.out.at_ 0 (.int .i64 0)).at_ 1 (.int .i64 0)).at_ 2 (.string ⟨#[]⟩)).at_ 3 (.int .i64 0)).at_ 4 (.slice none 0 0)
    have HS0 := Lib.hid (hbf.cell 0)
    have HS1 := Lib.hid (hbf.cell 1)
    have HS2 := Lib.hid (hbf.cell 2)
    have HS3 := Lib.hid (hbf.cell 3)
    have HS4 := Lib.hid (hbf.cell 4)
    clear h1 h2 he hbf HBR HB1
    unfold five at HOUT
    go_wp2_with fail
    refine bodyPost_ret (v := .tuple #[.agg #[.int .i64 0, .int .i64 0, .string ⟨#[]⟩, .int .i64 0, .slice none 0 0], .int .i64 z.f, .int .i64 z.e]) (by simp [results, Tryz.results13, go_sem, HS0.out, HS1.out, HS2.out, HS3.out, HS4.out]) rfl ?_
    exact HOUT.out

end Go.Proofs.YteaojmcfppbgiaaGreatDoor

/- Wholes as relations: an expression, patterns; there is one at every state; the program's functions do just this. -/
namespace Go.Proofs.YteaojmcfppbgiaaGreatDoor
open Go.RowKit
set_option linter.unusedVariables false
set_option maxRecDepth 100000

/-- An expression that is no part of another one. -/
def ExprR (L : List Tk) (s : St) (t : RT) (s' : St) : Prop := ∃ s1, RE L .expr s [t] s1 ∧ wholeS L s t s1 = s'
/-- Patterns, each of them whole, n being those ahead. -/
inductive PatsR (L : List Tk) : Nat → St → List RT → St → Prop
  | stop {n : Nat} {s : St} : ¬ (s.e = 0 ∧ ptB L s.k = true) → PatsR L n s [] s
  | full {n : Nat} {s : St} : s.e = 0 → ptB L s.k = true → n = 24 → PatsR L n s [] (failS L s (tk L s.k).2.2 2)
  | next {n : Nat} {s s1 s2 : St} {t : RT} {l : List RT} : s.e = 0 → ptB L s.k = true → n ≠ 24 → RE L .pat s [t] s1 → PatsR L (n + 1) (wholeS L s t s1) l s2 → PatsR L n s (t :: l) s2

theorem exprR_one {L : List Tk} {s s' : St} {t : RT} (h : ExprR L s t s') (r g cap : Nat) : One 38 r g L cap s t s' := by
  obtain ⟨s1, hr, rfl⟩ := h
  exact expression_c (one_of (re_ok hr))
theorem patsR_chain {L : List Tk} {n : Nat} {s s' : St} {l : List RT} (h : PatsR L n s l s') (r g cap : Nat) : Chain L (One 82 r g L cap) (ptB L) 24 n s l s' := by
  induction h with
  | stop h => exact .stop h
  | full h1 h2 h3 => exact .full h1 h2 h3
  | next h1 h2 h3 h4 _ ih => exact .next h1 h2 h3 (pattern_c (one_of (re_ok h4))) ih

/-- parse.Expr, parse.Pats of a text that is cut into tokens: what the grammar says of them. -/
theorem expr_of {s : ByteArray} {ns : List Int} {w : World} {l : List Tk} {stop : Nat} {t : RT} {s' : St} (hs : s.size ≤ 65535) (hp : Parse (bytesL s) ns []) (hx : Lex s (skipL (bytesL s)) 0 l stop 0)
    (hr : ExprR (withEnd l s.size) s0 t s') : Calls Tryz.prog 13 #[.string s] w (ExprOut t (endS (withEnd l s.size) s') s.size w) :=
  expr_top hs hp hx (fun r g cap => exprR_one hr r g cap)
theorem pats_of {s : ByteArray} {ns : List Int} {w : World} {l : List Tk} {stop : Nat} {lp : List RT} {s' : St} (hs : s.size ≤ 65535) (hp : Parse (bytesL s) ns []) (hx : Lex s (skipL (bytesL s)) 0 l stop 0)
    (hr : PatsR (withEnd l s.size) 0 s0 lp s') : Calls Tryz.prog 16 #[.string s] w (PatsOut lp (endS (withEnd l s.size) s') s.size w) :=
  pats_c hs hp hx (fun r g cap => patsR_chain hr r g cap)

end Go.Proofs.YteaojmcfppbgiaaGreatDoor
