/- The law NameFreshes answers true, for every string and every slice of strings: name.Fresh gives the name, or the error, that the document's plain Fresh gives. No condition beyond the row's own; the library's tables lie as the program's text lays them (tied). -/
import Derived.Test.YtiikodihbgaaaaaDoorFrame
namespace Go.Proofs.YtiikodihbgaaaaaDoor.nameFreshes
open Go.ChangeShapes Go.WideShapes Go.ChangeAt Go.RowKit
open Go.ChangeMaps (open_string shut_string)
set_option linter.unusedVariables false

theorem walk (s : ByteArray) (a : Option Addr) (len cap : Nat) (ss : List ByteArray) (w : World) (hs : s.size ≤ maxLen) (hl : StrIn w a len ss) (ht : Tab w) :
    Calls Tryd.prog 6 #[.string s, .slice a len cap] w fun e w' => e = .returned (.bool true) ∧ Below w.heap.size w w' := by
  unfold maxLen at hs
  by_cases h300 : 300 < len
  · have hd : decide ((300 : Int) < (len : Int)) = true := decide_eq_true (by omega)
    clear hl ht
    go_enter Tryd.func6, Tryd.ntmps6
    go_wp2_with fail
    refine (awake_any _).mono ?_; rintro e w1 ⟨rfl, hb1⟩
    go_wp2_with fail
    go_ret
    exact ⟨rfl, hb1⟩
  have hd : decide ((300 : Int) < (len : Int)) = false := decide_eq_false (by omega)
  have HR := Lib.hid (hl.row (by omega))
  have HT := Lib.hid ht
  have hlen := hl.length
  clear hl ht
  rcases Classical.em (∃ ns, IsName s ns) with ⟨ns, h⟩ | h
  · have hbl : (bytesAll ss).length = len := by unfold bytesAll; rw [List.length_map, hlen]
    obtain ⟨i0, hi1, hi2, hi3⟩ := fresh_exists ns (bytesAll ss) (by omega)
    obtain ⟨m, hm1, hm2, hm3⟩ := fresh_least ns (bytesAll ss) i0 hi3
    have hb0 : bytesL s = freshL ns 0 := by have := h.parse.eq; rw [List.append_nil] at this; exact this
    have HN := Lib.hid h
    have H0 := Lib.hid hb0
    have HM2 := Lib.hid hm2
    have HM3 := Lib.hid hm3
    rw [hbl] at hi1
    clear h hb0 hm2 hm3 hi3 hbl hlen
    by_cases hm0 : m = 0
    · subst hm0
      go_enter Tryd.func6, Tryd.ntmps6
      go_wp2_with fail
      refine (fresh_ok s ns a len cap ss _ HN.out (by omega) HR.out 0 HM2.out HM3.out (by omega) (.inl (by omega))).mono ?_; rintro e w1 ⟨t, rfl, HT1, hb1⟩
      go_wp2_with fail
      refine (refFresh_self s ns a len cap ss _ HN.out (by omega) (HR.out.below hb1) HM2.out).mono ?_; rintro e w2 ⟨rfl, hb2⟩
      have hts : (t.toList == s.toList) = true := str_eq_true (HT1.out.trans H0.out.symm)
      go_wp2_with fail
      refine (awake_any _).mono ?_; rintro e w3 ⟨rfl, hb3⟩
      go_wp2_with fail
      go_ret
      have h12 := hb1.trans (hb2.mono hb1.size)
      exact ⟨rfl, h12.trans (hb3.mono h12.size)⟩
    · go_enter Tryd.func6, Tryd.ntmps6
      go_wp2_with fail
      refine (fresh_ok s ns a len cap ss _ HN.out (by omega) HR.out m HM2.out HM3.out (by omega) (.inr HT.out)).mono ?_; rintro e w1 ⟨t, rfl, HT1, hb1⟩
      go_wp2_with fail
      refine (refFresh_ok s ns a len cap ss _ HN.out (by omega) (HR.out.below hb1) m HM2.out HM3.out (by omega) (by omega) (by omega)).mono ?_; rintro e w2 ⟨t2, rfl, HT2, hb2⟩
      have hts : (t.toList == t2.toList) = true := str_eq_true (HT1.out.trans HT2.out.symm)
      go_wp2_with fail
      refine (awake_any _).mono ?_; rintro e w3 ⟨rfl, hb3⟩
      go_wp2_with fail
      go_ret
      have h12 := hb1.trans (hb2.mono hb1.size)
      exact ⟨rfl, h12.trans (hb3.mono h12.size)⟩
  · have HN := Lib.hid h
    clear h hlen
    go_enter Tryd.func6, Tryd.ntmps6
    go_wp2_with fail
    refine (fresh_form s _ _ hs HN.out).mono ?_; rintro e w1 ⟨rfl, hb1⟩
    go_wp2_with fail
    refine (refFresh_form s _ _ hs HN.out).mono ?_; rintro e w2 ⟨rfl, hb2⟩
    go_wp2_with fail
    refine (awake_any _).mono ?_; rintro e w3 ⟨rfl, hb3⟩
    go_wp2_with fail
    go_ret
    have h12 := hb1.trans (hb2.mono hb1.size)
    exact ⟨rfl, h12.trans (hb3.mono h12.size)⟩

set_option maxRecDepth 100000 in
theorem lifted (os : Os) (started : os.Started) (H : Type) (enc : TypeId × Value → H) :
    ReturnsInHanded {} Tryd.checked os 6 .any (fun w args => (Rows.nameFreshesSpec.pre enc Tryd.prog Tryd.f6 Rows.nameFreshesRow.domain false w args ∧ laidMetH Tryd.prog Rows.nameFreshesRow.laid w) ∧ sizedMet enc Tryd.prog Tryd.f6 (OpenSpec.ofChange Rows.nameFreshesSpec) false w args)
      (Rows.nameFreshesSpec.post enc Tryd.prog Tryd.f6 false true false false) := by
  refine returnsInHanded_of_change_and (C := Tryd.checked) (X := fun w _ => laidMetH Tryd.prog Rows.nameFreshesRow.laid w) (fun _ _ _ hh h => h.of_heap hh) own started (by kernel_rfl) Tryd.func6
    (ChangeSpec.witness_shaped (enc := enc) (C := Tryd.checked) (os := os) (X := fun w _ => laidMetH Tryd.prog Rows.nameFreshesRow.laid w) false (World.laidAll Tryd.prog os Rows.nameFreshesRow.laid) #[.string ByteArray.empty, .slice none 0 0] 8 (World.laidAll_os _ _ _)
      (World.shaped_of_ZipB (by kernel_rfl) (by kernel_rfl)) (by kernel_rfl) (by kernel_rfl) (by kernel_rfl)
      (by rw [MakeChecks.laidMetH_plain _ _ _ (by kernel_rfl)]; exact laidMet_laidAll _ (by kernel_rfl) (by kernel_rfl))) ?_
  intro W base args ds gs before hval0 hW _ _ hL _
  have hval : ∀ (j : Nat) t v, Tryd.f6.params[j]? = some t → args[j]? = some v → Value.okWide Tryd.prog W .any base t v := hval0
  have hW' := hW
  obtain ⟨p, q, hA0, hV, rfl, hfz, hnd⟩ := hW
  have hA : DataW.TrodAll enc Tryd.prog W 0 (fun _ => true) true Tryd.f6.params.toList args.toList ds p := hA0
  rw [Tryd.params6] at hA hval
  obtain ⟨v0, vs0, d0, ds0, p0, q0, hargs, rfl, rfl, h0, r0⟩ := trodAll_cons hA
  obtain ⟨v1, vs1, d1, ds1, p1, q1, rfl, rfl, rfl, h1, r1⟩ := trodAll_cons r0
  obtain ⟨rfl, rfl, rfl⟩ := trodAll_nil r1
  obtain rfl : args = #[v0, v1] := by cases args; simp_all
  obtain ⟨rfl, rfl⟩ := trodVars_none hV
  obtain ⟨a0, rfl, rfl, rfl, w0⟩ := open_string Tryd.underlying9 (hval 0 9 v0 rfl rfl) h0
  obtain ⟨a1, len1, cap1, rfl⟩ := okWide_slice Tryd.underlying25 (hval 1 25 v1 rfl rfl)
  have k1 := h1
  have lt1 : ∀ x ∈ p1, x.block < W.heap.size := by obtain ⟨m, hm⟩ := k1; exact DataW.trod_lt m _ _ _ hm
  obtain ⟨z1, w1⟩ : ∃ zs, StrIn W a1 len1 zs := by
    obtain ⟨fuel, hf⟩ := h1
    rcases open_strings Tryd.underlying25 Tryd.underlying9 (by kernel_rfl) hf with ⟨hcs, _⟩ | ⟨x, l, c, zs, hcs, _, hl, hm, hz, _, hcell, hwz⟩
    · simp [Value.cells] at hcs
      obtain ⟨rfl, rfl, rfl⟩ := hcs
      exact ⟨[], strIn_nil _⟩
    · simp [Value.cells] at hcs
      obtain ⟨rfl, rfl, rfl⟩ := hcs
      exact ⟨zs.take len1, strIn_some hl (by simpa using hz) hcell hwz⟩
  clear hA0 hval0
  have ht := tab_of hL
  refine (walk a0 a1 len1 cap1 z1 W w0 w1 ht).mono fun e W' ⟨he, bel⟩ => ?_
  subst he
  exact ⟨_, rfl, _, _, _, [], _, [], hW', trodAll_mk1 (shut_bool Tryd.underlying4 _), (trodAll_cons_mk (shut_string Tryd.underlying9 w0) (trodAll_cons_mk (Below.trod laidOut (by kernel_rfl) (of_decide_eq_true (by kernel_rfl)) k1 bel lt1) trodAll_mk0)), rfl, bel.frame _, fun h => by cases h⟩

theorem over : Rows.nameFreshesRow.holds Tryd.pinned (OpenSpec.ofChange Rows.nameFreshesSpec) :=
  OpenClaim.holds_of_wide 6 Tryd.f6 rfl rfl rfl rfl rfl rfl rfl ⟨rfl, rfl, rfl, rfl, rfl⟩ rfl rfl rfl rfl rfl (by kernel_rfl) Tryd.func6 (by kernel_rfl)
    (of_decide_eq_true (by kernel_rfl)) (by unfold Func.isWrapper; first | (rw [if_pos (by decide +kernel)]; kernel_rfl) | (rw [if_neg (by decide +kernel)]; exact ⟨rfl, rfl⟩))
    (fun os started H enc _ => lifted os started H enc)

/-- The statement: the tied card. -/
theorem card_holds : Rows.NameFreshesCardSaid :=
  Claim7.holds_tied_plain_at .later [] [.data, .data, .data, .data, .pinned] true Rows.nameFreshesCard.stood.harness false over (fun _ h => by cases h) (by kernel_rfl) (fun _ h => by cases h) nameFreshes_row_tie rfl ⟨rfl, rfl⟩ (by kernel_rfl) rfl
    (fun f fn hf hfn => by
      obtain rfl : f = 6 := Option.some.inj ((show Tryd.prog.funcNamed "scholium/scholiumlaw02.NameFreshes" = some 6 by kernel_rfl).symm.trans hf) |>.symm
      obtain rfl : fn = Tryd.f6 := (Option.some.inj (Tryd.func6.symm.trans hfn)).symm
      exact ⟨by kernel_rfl, fun j t ht => by
        rw [Tryd.params6] at ht
        have hm : t ∈ [9, 25] := by simpa using Array.mem_of_getElem? ht
        have hall : ([9, 25].all fun u => !Tryd.prog.wantsStandIn u) = true := by kernel_rfl
        exact (show Tryd.prog.wantsStandIn t = false by simpa using List.all_eq_true.1 hall t hm)⟩)
    (by kernel_rfl)
#print axioms card_holds
end Go.Proofs.YtiikodihbgaaaaaDoor.nameFreshes
