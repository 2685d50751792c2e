/- The law TeleBack answers true, for every two lists of terms and term: Whole of Pis is both, and Result of Pis is Fill, where nothing is too great. No condition beyond the row's own; the table of shapes lies as the program's text lays it (tied). -/
import Derived.Test.YtofmoggjpgjdgaaDoorVBackW
import Derived.Test.YtofmoggjpgjdgaaDoorLOpen
namespace Go.Proofs.YtofmoggjpgjdgaaDoor.teleBack
open Go.ChangeShapes Go.WideShapes Go.ChangeAt Go.RowKit
open Go.ChangeMaps (open_string shut_string)
set_option linter.unusedVariables false

theorem walk (l : List TM) (A_l : Option Addr) (c_l : Nat) (g : List TM) (A_g : Option Addr) (c_g : Nat) (t : TM) (A_t : Option Addr) (c_t : Nat) (w : World) (hl : IsTerms w 0 w.heap.size l A_l c_l) (zl : l.all sizedT = true) (hg : IsTerms w 0 w.heap.size g A_g c_g) (zg : g.all sizedT = true) (ht : IsTerm w 0 w.heap.size t A_t c_t) (hS : ShapesM w) :
    Calls Tryd.prog 7 #[.slice A_l l.length c_l, .slice A_g g.length c_g, termV t A_t c_t] w fun e w' => e = .returned (.bool true) ∧ Below w.heap.size w w' := vback_walk l A_l c_l g A_g c_g t A_t c_t w hl hg ht hS

set_option maxRecDepth 100000 in
theorem lifted (os : Os) (started : os.Started) (H : Type) (enc : TypeId × Value → H) :
    ReturnsInHanded {} Tryd.checked os 7 .any (fun w args => (Rows.teleBackSpec.pre enc Tryd.prog Tryd.f7 Rows.teleBackRow.domain false w args ∧ laidMetH Tryd.prog Rows.teleBackRow.laid w) ∧ sizedMet enc Tryd.prog Tryd.f7 (OpenSpec.ofChange Rows.teleBackSpec) false w args)
      (Rows.teleBackSpec.post enc Tryd.prog Tryd.f7 false true false false) := by
  refine returnsInHanded_of_change_and (C := Tryd.checked) (X := fun w _ => laidMetH Tryd.prog Rows.teleBackRow.laid w) (fun _ _ _ hh h => h.of_heap hh) own started (by kernel_rfl) Tryd.func7
    (ChangeSpec.witness_shaped (enc := enc) (C := Tryd.checked) (os := os) (X := fun w _ => laidMetH Tryd.prog Rows.teleBackRow.laid w) false (World.laidAll Tryd.prog os Rows.teleBackRow.laid) #[.slice none 0 0, .slice none 0 0, .agg #[.int .i64 0, .int .i64 0, .slice none 0 0]] 8 (World.laidAll_os _ _ _)
      (World.shaped_of_ZipB (by kernel_rfl) (by kernel_rfl)) (by kernel_rfl) (by kernel_rfl) (by kernel_rfl)
      (by rw [MakeChecks.laidMetH_plain _ _ _ (by kernel_rfl)]; exact laidMet_laidAll _ (by kernel_rfl) (by kernel_rfl))) ?_
  intro W base args ds gs before hval0 hW _ hsz0 hL _
  have hval : ∀ (j : Nat) t v, Tryd.f7.params[j]? = some t → args[j]? = some v → Value.okWide Tryd.prog W .any base t v := hval0
  have hW' := hW
  obtain ⟨p, q, hA0, hV, rfl, hfz, hnd⟩ := hW
  have hA : DataW.TrodAll enc Tryd.prog W 0 (fun _ => true) true Tryd.f7.params.toList args.toList ds p := hA0
  rw [Tryd.params7] at hA hval
  obtain ⟨v0, vs0, d0, ds0, p0, q0, hargs, rfl, rfl, h0, r0⟩ := trodAll_cons hA
  obtain ⟨v1, vs1, d1, ds1, p1, q1, rfl, rfl, rfl, h1, r1⟩ := trodAll_cons r0
  obtain ⟨v2, vs2, d2, ds2, p2, q2, rfl, rfl, rfl, h2, r2⟩ := trodAll_cons r1
  obtain ⟨rfl, rfl, rfl⟩ := trodAll_nil r2
  obtain rfl : args = #[v0, v1, v2] := by cases args; simp_all
  obtain ⟨rfl, rfl⟩ := trodVars_none hV
  have k0 := h0
  have lt0 : ∀ x ∈ p0, x.block < W.heap.size := by obtain ⟨m, hm⟩ := k0; exact DataW.trod_lt m _ _ _ hm
  have wt0 : ∀ q ∈ d0.weights Tryd.prog 22, q ≤ reachBytes := fun q hq => by
    have := List.all_eq_true.1 hsz0 q (DataW.weights_mem_each (j := 0) (t := 22) (d := d0) (by first | rfl | kernel_rfl) rfl q hq)
    simpa using this
  obtain ⟨t0, a0, cap0, rfl, w0, _, s0⟩ := terms_in (hval 0 22 v0 rfl rfl) h0 wt0
  have k1 := h1
  have lt1 : ∀ x ∈ p1, x.block < W.heap.size := by obtain ⟨m, hm⟩ := k1; exact DataW.trod_lt m _ _ _ hm
  have wt1 : ∀ q ∈ d1.weights Tryd.prog 22, q ≤ reachBytes := fun q hq => by
    have := List.all_eq_true.1 hsz0 q (DataW.weights_mem_each (j := 1) (t := 22) (d := d1) (by first | rfl | kernel_rfl) rfl q hq)
    simpa using this
  obtain ⟨t1, a1, cap1, rfl, w1, _, s1⟩ := terms_in (hval 1 22 v1 rfl rfl) h1 wt1
  have k2 := h2
  have lt2 : ∀ x ∈ p2, x.block < W.heap.size := by obtain ⟨m, hm⟩ := k2; exact DataW.trod_lt m _ _ _ hm
  obtain ⟨t2, a2, cap2, rfl, w2⟩ := term_in (hval 2 24 v2 rfl rfl) h2
  clear hA0 hval0
  have ht := shapesM_row hL
  refine (walk t0 a0 cap0 t1 a1 cap1 t2 a2 cap2 W w0 s0 w1 s1 w2 ht).mono fun e W' ⟨he, bel⟩ => ?_
  subst he
  exact ⟨_, rfl, _, _, _, [], _, [], hW', trodAll_mk1 (shut_bool Tryd.underlying4 _), (trodAll_cons_mk (Below.trod laidOut (by kernel_rfl) (of_decide_eq_true (by kernel_rfl)) k0 bel lt0) (trodAll_cons_mk (Below.trod laidOut (by kernel_rfl) (of_decide_eq_true (by kernel_rfl)) k1 bel lt1) (trodAll_cons_mk (Below.trod laidOut (by kernel_rfl) (of_decide_eq_true (by kernel_rfl)) k2 bel lt2) trodAll_mk0))), rfl, bel.frame _, fun h => by cases h⟩

theorem over : Rows.teleBackRow.holds Tryd.pinned (OpenSpec.ofChange Rows.teleBackSpec) :=
  OpenClaim.holds_of_wide 7 Tryd.f7 rfl rfl rfl rfl rfl rfl rfl ⟨rfl, rfl, rfl, rfl, rfl⟩ rfl rfl rfl rfl rfl (by kernel_rfl) Tryd.func7 (by kernel_rfl)
    (of_decide_eq_true (by kernel_rfl)) (by unfold Func.isWrapper; first | (rw [if_pos (by decide +kernel)]; kernel_rfl) | (rw [if_neg (by decide +kernel)]; exact ⟨rfl, rfl⟩))
    (fun os started H enc _ => lifted os started H enc)

/-- The statement: the tied card. -/
theorem card_holds : Rows.TeleBackCardSaid :=
  Claim7.holds_tied_plain_at .later [] [.data] true Rows.teleBackCard.stood.harness false over (fun _ h => by cases h) (by kernel_rfl) (fun _ h => by cases h) teleBack_row_tie rfl ⟨rfl, rfl⟩ (by kernel_rfl) rfl
    (fun f fn hf hfn => by
      obtain rfl : f = 7 := Option.some.inj ((show Tryd.prog.funcNamed "scholium/scholiumlaw10.TeleBack" = some 7 by kernel_rfl).symm.trans hf) |>.symm
      obtain rfl : fn = Tryd.f7 := (Option.some.inj (Tryd.func7.symm.trans hfn)).symm
      exact ⟨by kernel_rfl, fun j t ht => by
        rw [Tryd.params7] at ht
        have hm : t ∈ [22, 22, 24] := by simpa using Array.mem_of_getElem? ht
        have hall : ([22, 22, 24].all fun u => !Tryd.prog.wantsStandIn u) = true := by kernel_rfl
        exact (show Tryd.prog.wantsStandIn t = false by simpa using List.all_eq_true.1 hall t hm)⟩)
    (by kernel_rfl)
#print axioms card_holds
end Go.Proofs.YtofmoggjpgjdgaaDoor.teleBack
