/- The law NameMany answers true, for every string and every byte: with more than 8192 names name.Fresh answers ErrLong, with 8192 it does not; of no name it says so first. No condition beyond the row's own; the library's tables lie as the program's text lays them (tied). -/
import Derived.Test.YtiikodihbgaaaaaDoorFrame
import Derived.Deep.OwnRows
namespace Go.Proofs.YtiikodihbgaaaaaDoor.nameMany
open Go.ChangeShapes Go.WideShapes Go.ChangeAt Go.RowKit
open Go.ChangeMaps (open_string shut_string)
set_option linter.unusedVariables false

theorem infoS : (Tryd.prog.info? 9).map (fun i => (i.zero, i.size, i.bytes)) = some (some (.string ⟨#[]⟩), 1, 16) := by kernel_rfl
theorem getD_rep (n j : Nat) : (List.replicate n ByteArray.empty).getD j ByteArray.empty = ByteArray.empty := by
  rw [List.getD, List.getElem?_replicate]
  split <;> rfl
/-- A new slice of empty texts. -/
theorem make_strs (n : Nat) (hn : n ≤ 10000) (N : Int) (hN : N = n) (w : World) :
    ∃ W, (Instr.makeSlice 25 (.int .i64 N) (.int .i64 N)).run Tryd.prog w = .ok (.slice (some ⟨w.heap.size, 0, none⟩) n n) W ∧ Below w.heap.size w W ∧ StrRow W (some ⟨w.heap.size, 0, none⟩) n (List.replicate n ByteArray.empty) := by
  subst hN
  refine ⟨_, Go.run_make_row' 25 9 (.string ⟨#[]⟩) 16 Tryd.underlying25 infoS rfl .i64 .i64 n (by omega) (by omega) w, (Below.refl _ _).alloc (Nat.le_refl _) _, ?_⟩
  refine ⟨List.length_replicate, by omega, ?_, .inr ⟨_, _, rfl, by simp, fun j hj => ?_⟩⟩
  · intro s hs
    rw [List.eq_of_mem_replicate hs]
    exact Nat.zero_le _
  · rw [Nat.zero_add, World.cell?_alloc_mark, getD_rep]
    rw [← Array.getElem?_toList, toList_madeCells_one, List.getElem?_replicate, if_pos hj]
    rfl
theorem not_there {s : ByteArray} {ns : List Int} (h : IsName s ns) (n : Nat) : freshL ns 0 ∉ bytesAll (List.replicate n ByteArray.empty) := by
  intro hm
  unfold bytesAll at hm
  obtain ⟨x, hx, he⟩ := List.mem_map.1 hm
  rw [List.eq_of_mem_replicate hx] at he
  have hb : bytesL s = freshL ns 0 := by have := h.parse.eq; rw [List.append_nil] at this; exact this
  have h1 : encAll ns = [] := by
    have : freshL ns 0 = [] := he.symm
    exact this
  have h2 := length_encAll ns
  have h3 := (name_first h).1
  rw [h1] at h2
  have h4 : ns.length ≤ 0 := h2
  omega

theorem no_0 (s : ByteArray) (a : Int) (w : World) (hs : s.size ≤ 9223372036854775807) (h0 : 0 ≤ a) (h1 : a ≤ 255) (em : a % 3 = 0) (em2 : a.tmod 3 = 0) (h : ¬ ∃ ns, IsName s ns) :
    Calls Tryd.prog 8 #[.string s, .int .u8 a] w fun e w' => e = .returned (.bool true) ∧ Below w.heap.size w w' := by
  have HN := Lib.hid h
  obtain ⟨W, hmk, hbW, hrow⟩ := make_strs 8192 (by omega) 8192 (by omega) w
  have HB := Lib.hid hbW
  clear h hbW hrow
  go_enter Tryd.func8, Tryd.ntmps8
  go_wp2_with fail
  refine (fresh_form s _ _ hs HN.out).mono ?_; rintro e w1 ⟨rfl, hb1⟩
  have hB1 := HB.out.trans (hb1.mono HB.out.size)
  go_wp2_with fail
  refine (refRight_no s _ hs HN.out).mono ?_; rintro e w2 ⟨rfl, hb2⟩
  have hB2 := hB1.trans (hb2.mono hB1.size)
  go_wp2_with fail
  refine (awake_any _).mono ?_; rintro e w3 ⟨rfl, hb3⟩
  go_wp2_with fail
  go_ret
  exact ⟨rfl, hB2.trans (hb3.mono hB2.size)⟩

theorem yes_0 (s : ByteArray) (ns : List Int) (a : Int) (w : World) (hs : s.size ≤ 9223372036854775807) (h0 : 0 ≤ a) (h1 : a ≤ 255) (em : a % 3 = 0) (em2 : a.tmod 3 = 0) (h : IsName s ns) :
    Calls Tryd.prog 8 #[.string s, .int .u8 a] w fun e w' => e = .returned (.bool true) ∧ Below w.heap.size w w' := by
  have HN := Lib.hid h
  have HM := Lib.hid (not_there h 8192)
  obtain ⟨W, hmk, hbW, hrow⟩ := make_strs 8192 (by omega) 8192 (by omega) w
  have HB := Lib.hid hbW
  have HR := Lib.hid hrow
  clear h hbW hrow
  go_enter Tryd.func8, Tryd.ntmps8
  go_wp2_with fail
  refine (fresh_ok s ns _ 8192 8192 _ _ HN.out (by omega) HR.out 0 HM.out (fun j hj => absurd hj (Nat.not_lt_zero j)) (by omega) (.inl (by omega))).mono ?_; rintro e w1 ⟨t, rfl, HT1, hb1⟩
  have hB1 := HB.out.trans (hb1.mono HB.out.size)
  go_wp2_with fail
  refine (refRight_yes s ns _ HN.out).mono ?_; rintro e w2 ⟨rfl, hb2⟩
  have hB2 := hB1.trans (hb2.mono hB1.size)
  go_wp2_with fail
  refine (awake_any _).mono ?_; rintro e w3 ⟨rfl, hb3⟩
  go_wp2_with fail
  go_ret
  exact ⟨rfl, hB2.trans (hb3.mono hB2.size)⟩

theorem no_1 (s : ByteArray) (a : Int) (w : World) (hs : s.size ≤ 9223372036854775807) (h0 : 0 ≤ a) (h1 : a ≤ 255) (em : a % 3 = 1) (em2 : a.tmod 3 = 1) (h : ¬ ∃ ns, IsName s ns) :
    Calls Tryd.prog 8 #[.string s, .int .u8 a] w fun e w' => e = .returned (.bool true) ∧ Below w.heap.size w w' := by
  have HN := Lib.hid h
  obtain ⟨W, hmk, hbW, hrow⟩ := make_strs 8193 (by omega) 8193 (by omega) w
  have HB := Lib.hid hbW
  clear h hbW hrow
  go_enter Tryd.func8, Tryd.ntmps8
  go_wp2_with fail
  refine (fresh_form s _ _ hs HN.out).mono ?_; rintro e w1 ⟨rfl, hb1⟩
  have hB1 := HB.out.trans (hb1.mono HB.out.size)
  go_wp2_with fail
  refine (refRight_no s _ hs HN.out).mono ?_; rintro e w2 ⟨rfl, hb2⟩
  have hB2 := hB1.trans (hb2.mono hB1.size)
  go_wp2_with fail
  refine (awake_any _).mono ?_; rintro e w3 ⟨rfl, hb3⟩
  go_wp2_with fail
  go_ret
  exact ⟨rfl, hB2.trans (hb3.mono hB2.size)⟩

theorem yes_1 (s : ByteArray) (ns : List Int) (a : Int) (w : World) (hs : s.size ≤ 9223372036854775807) (h0 : 0 ≤ a) (h1 : a ≤ 255) (em : a % 3 = 1) (em2 : a.tmod 3 = 1) (h : IsName s ns) :
    Calls Tryd.prog 8 #[.string s, .int .u8 a] w fun e w' => e = .returned (.bool true) ∧ Below w.heap.size w w' := by
  have HN := Lib.hid h
  have HM := Lib.hid (not_there h 8193)
  obtain ⟨W, hmk, hbW, hrow⟩ := make_strs 8193 (by omega) 8193 (by omega) w
  have HB := Lib.hid hbW
  have HR := Lib.hid hrow
  clear h hbW hrow
  go_enter Tryd.func8, Tryd.ntmps8
  go_wp2_with fail
  refine (fresh_long s ns _ 8193 8193 _ HN.out (by omega)).mono ?_; rintro e w1 ⟨rfl, hb1⟩
  have hB1 := HB.out.trans (hb1.mono HB.out.size)
  go_wp2_with fail
  refine (refRight_yes s ns _ HN.out).mono ?_; rintro e w2 ⟨rfl, hb2⟩
  have hB2 := hB1.trans (hb2.mono hB1.size)
  go_wp2_with fail
  refine (awake_any _).mono ?_; rintro e w3 ⟨rfl, hb3⟩
  go_wp2_with fail
  go_ret
  exact ⟨rfl, hB2.trans (hb3.mono hB2.size)⟩

theorem no_2 (s : ByteArray) (a : Int) (w : World) (hs : s.size ≤ 9223372036854775807) (h0 : 0 ≤ a) (h1 : a ≤ 255) (em : a % 3 = 2) (em2 : a.tmod 3 = 2) (h : ¬ ∃ ns, IsName s ns) :
    Calls Tryd.prog 8 #[.string s, .int .u8 a] w fun e w' => e = .returned (.bool true) ∧ Below w.heap.size w w' := by
  have HN := Lib.hid h
  obtain ⟨W, hmk, hbW, hrow⟩ := make_strs 8194 (by omega) 8194 (by omega) w
  have HB := Lib.hid hbW
  clear h hbW hrow
  go_enter Tryd.func8, Tryd.ntmps8
  go_wp2_with fail
  refine (fresh_form s _ _ hs HN.out).mono ?_; rintro e w1 ⟨rfl, hb1⟩
  have hB1 := HB.out.trans (hb1.mono HB.out.size)
  go_wp2_with fail
  refine (refRight_no s _ hs HN.out).mono ?_; rintro e w2 ⟨rfl, hb2⟩
  have hB2 := hB1.trans (hb2.mono hB1.size)
  go_wp2_with fail
  refine (awake_any _).mono ?_; rintro e w3 ⟨rfl, hb3⟩
  go_wp2_with fail
  go_ret
  exact ⟨rfl, hB2.trans (hb3.mono hB2.size)⟩

theorem yes_2 (s : ByteArray) (ns : List Int) (a : Int) (w : World) (hs : s.size ≤ 9223372036854775807) (h0 : 0 ≤ a) (h1 : a ≤ 255) (em : a % 3 = 2) (em2 : a.tmod 3 = 2) (h : IsName s ns) :
    Calls Tryd.prog 8 #[.string s, .int .u8 a] w fun e w' => e = .returned (.bool true) ∧ Below w.heap.size w w' := by
  have HN := Lib.hid h
  have HM := Lib.hid (not_there h 8194)
  obtain ⟨W, hmk, hbW, hrow⟩ := make_strs 8194 (by omega) 8194 (by omega) w
  have HB := Lib.hid hbW
  have HR := Lib.hid hrow
  clear h hbW hrow
  go_enter Tryd.func8, Tryd.ntmps8
  go_wp2_with fail
  refine (fresh_long s ns _ 8194 8194 _ HN.out (by omega)).mono ?_; rintro e w1 ⟨rfl, hb1⟩
  have hB1 := HB.out.trans (hb1.mono HB.out.size)
  go_wp2_with fail
  refine (refRight_yes s ns _ HN.out).mono ?_; rintro e w2 ⟨rfl, hb2⟩
  have hB2 := hB1.trans (hb2.mono hB1.size)
  go_wp2_with fail
  refine (awake_any _).mono ?_; rintro e w3 ⟨rfl, hb3⟩
  go_wp2_with fail
  go_ret
  exact ⟨rfl, hB2.trans (hb3.mono hB2.size)⟩

theorem walk (s : ByteArray) (a : Int) (w : World) (hs : s.size ≤ maxLen) (ha : (Lit.int .u8 a).wf = true) :
    Calls Tryd.prog 8 #[.string s, .int .u8 a] w fun e w' => e = .returned (.bool true) ∧ Below w.heap.size w w' := by
  unfold maxLen at hs
  have hb : 0 ≤ a ∧ a ≤ 255 := by simpa [Lit.wf, IntKind.min, IntKind.max, IntKind.signed, IntKind.bits] using ha
  have ht : a.tmod 3 = a % 3 := Int.tmod_eq_emod_of_nonneg hb.1
  have h3 : a % 3 = 0 ∨ a % 3 = 1 ∨ a % 3 = 2 := by omega
  rcases Classical.em (∃ ns, IsName s ns) with ⟨ns, h⟩ | h
  · rcases h3 with e | e | e
    · exact yes_0 s ns a w hs hb.1 hb.2 e (ht.trans e) h
    · exact yes_1 s ns a w hs hb.1 hb.2 e (ht.trans e) h
    · exact yes_2 s ns a w hs hb.1 hb.2 e (ht.trans e) h
  · rcases h3 with e | e | e
    · exact no_0 s a w hs hb.1 hb.2 e (ht.trans e) h
    · exact no_1 s a w hs hb.1 hb.2 e (ht.trans e) h
    · exact no_2 s a w hs hb.1 hb.2 e (ht.trans e) h

set_option maxRecDepth 100000 in
theorem lifted (os : Os) (started : os.Started) (H : Type) (enc : TypeId × Value → H) :
    ReturnsInHanded {} Tryd.checked os 8 .any (fun w args => (Rows.nameManySpec.pre enc Tryd.prog Tryd.f8 Rows.nameManyRow.domain false w args ∧ laidMetH Tryd.prog Rows.nameManyRow.laid w) ∧ sizedMet enc Tryd.prog Tryd.f8 (OpenSpec.ofChange Rows.nameManySpec) false w args)
      (Rows.nameManySpec.post enc Tryd.prog Tryd.f8 false true false false) := by
  refine returnsInHanded_of_change_and (C := Tryd.checked) (X := fun w _ => laidMetH Tryd.prog Rows.nameManyRow.laid w) (fun _ _ _ hh h => h.of_heap hh) own started (by kernel_rfl) Tryd.func8
    (ChangeSpec.witness_shaped (enc := enc) (C := Tryd.checked) (os := os) (X := fun w _ => laidMetH Tryd.prog Rows.nameManyRow.laid w) false (World.laidAll Tryd.prog os Rows.nameManyRow.laid) #[.string ByteArray.empty, .int .u8 0] 8 (World.laidAll_os _ _ _)
      (World.shaped_of_ZipB (by kernel_rfl) (by kernel_rfl)) (by kernel_rfl) (by kernel_rfl) (by kernel_rfl)
      (by rw [MakeChecks.laidMetH_plain _ _ _ (by kernel_rfl)]; exact laidMet_laidAll _ (by kernel_rfl) (by kernel_rfl))) ?_
  intro W base args ds gs before hval0 hW _ _ hL _
  have hval : ∀ (j : Nat) t v, Tryd.f8.params[j]? = some t → args[j]? = some v → Value.okWide Tryd.prog W .any base t v := hval0
  have hW' := hW
  obtain ⟨p, q, hA0, hV, rfl, hfz, hnd⟩ := hW
  have hA : DataW.TrodAll enc Tryd.prog W 0 (fun _ => true) true Tryd.f8.params.toList args.toList ds p := hA0
  rw [Tryd.params8] at hA hval
  obtain ⟨v0, vs0, d0, ds0, p0, q0, hargs, rfl, rfl, h0, r0⟩ := trodAll_cons hA
  obtain ⟨v1, vs1, d1, ds1, p1, q1, rfl, rfl, rfl, h1, r1⟩ := trodAll_cons r0
  obtain ⟨rfl, rfl, rfl⟩ := trodAll_nil r1
  obtain rfl : args = #[v0, v1] := by cases args; simp_all
  obtain ⟨rfl, rfl⟩ := trodVars_none hV
  obtain ⟨a0, rfl, rfl, rfl, w0⟩ := open_string Tryd.underlying9 (hval 0 9 v0 rfl rfl) h0
  obtain ⟨a1, rfl, rfl, rfl, w1⟩ := open_int Tryd.underlying5 (hval 1 5 v1 rfl rfl) h1
  clear hA0 hval0
  refine (walk a0 a1 W w0 w1).mono fun e W' ⟨he, bel⟩ => ?_
  subst he
  exact ⟨_, rfl, _, _, _, [], _, [], hW', trodAll_mk1 (shut_bool Tryd.underlying4 _), (trodAll_cons_mk (shut_string Tryd.underlying9 w0) (trodAll_cons_mk (shut_int Tryd.underlying5 w1) trodAll_mk0)), rfl, bel.frame _, fun h => by cases h⟩

theorem over : Rows.nameManyRow.holds Tryd.pinned (OpenSpec.ofChange Rows.nameManySpec) :=
  OpenClaim.holds_of_wide 8 Tryd.f8 rfl rfl rfl rfl rfl rfl rfl ⟨rfl, rfl, rfl, rfl, rfl⟩ rfl rfl rfl rfl rfl (by kernel_rfl) Tryd.func8 (by kernel_rfl)
    (of_decide_eq_true (by kernel_rfl)) (by unfold Func.isWrapper; first | (rw [if_pos (by decide +kernel)]; kernel_rfl) | (rw [if_neg (by decide +kernel)]; exact ⟨rfl, rfl⟩))
    (fun os started H enc _ => lifted os started H enc)

/-- The statement: the tied card. -/
theorem card_holds : Rows.NameManyCardSaid :=
  Claim7.holds_tied_plain_at .later [] [.data, .data, .data, .data, .pinned] true Rows.nameManyCard.stood.harness false over (fun _ h => by cases h) (by kernel_rfl) (fun _ h => by cases h) nameMany_row_tie rfl ⟨rfl, rfl⟩ (by kernel_rfl) rfl
    (fun f fn hf hfn => by
      obtain rfl : f = 8 := Option.some.inj ((show Tryd.prog.funcNamed "scholium/scholiumlaw02.NameMany" = some 8 by kernel_rfl).symm.trans hf) |>.symm
      obtain rfl : fn = Tryd.f8 := (Option.some.inj (Tryd.func8.symm.trans hfn)).symm
      exact ⟨by kernel_rfl, fun j t ht => by
        rw [Tryd.params8] at ht
        have hm : t ∈ [9, 5] := by simpa using Array.mem_of_getElem? ht
        have hall : ([9, 5].all fun u => !Tryd.prog.wantsStandIn u) = true := by kernel_rfl
        exact (show Tryd.prog.wantsStandIn t = false by simpa using List.all_eq_true.1 hall t hm)⟩)
    (by kernel_rfl)
#print axioms card_holds
end Go.Proofs.YtiikodihbgaaaaaDoor.nameMany
