/- The law UtfAlls answers true, for every string: utf.All reads all signs of a text, or tells the first offset at which there is none, or that the text is too long, as the document's plain answer does; utf.Count tells how many. No condition beyond the row's own (a string's length fits an int). -/
import Derived.Test.YtcmmkdihknjfnaaAwake
import Derived.Test.YtcmmkdihknjfnaaSame
import Derived.OpenShut
import Derived.ShutString
import Derived.ChangeOld
namespace Go.Proofs.Ytcmmkdihknjfnaa.utfAlls
open Go.ChangeShapes Go.WideShapes Go.ChangeAt Go.RowKit
open Go.ChangeMaps (open_string shut_string)
set_option linter.unusedVariables false

theorem own : ownKnob Try.prog.godebug = none := by kernel_rfl

theorem walk_long (s : ByteArray) (w : World) (hs : 65535 < s.size) :
    Calls Try.prog 4 #[.string s] w fun e w' => e = .returned (.bool true) ∧ Below w.heap.size w w' := by
  go_enter Try.func4, Try.ntmps4
  go_wp2_with fail
  refine (all_long _ _ hs).mono ?_; rintro e w1 ⟨rfl, hb1⟩
  go_wp2_with fail
  refine (refAll_long _ _ hs).mono ?_; rintro e w2 ⟨rfl, hb2⟩
  go_wp2_with fail
  refine (count_long _ _ hs).mono ?_; rintro e w3 ⟨rfl, hb3⟩
  go_wp2_with fail
  refine (same_nil _ _ _ _ _).mono ?_; rintro e w4 ⟨rfl, hb4⟩
  go_wp2_with fail
  refine (awake_any _).mono ?_; rintro e w5 ⟨rfl, hb5⟩
  go_wp2_with fail
  go_ret
  have h12 := hb1.trans (hb2.mono hb1.size)
  have h13 := h12.trans (hb3.mono h12.size)
  have h14 := h13.trans (hb4.mono h13.size)
  exact ⟨rfl, h14.trans (hb5.mono h14.size)⟩

theorem walk_err (s : ByteArray) (ns r : List Int) (w : World) (hs : s.size ≤ 65535) (hp : Parse (bytesL s) ns r) (hr : r ≠ []) :
    Calls Try.prog 4 #[.string s] w fun e w' => e = .returned (.bool true) ∧ Below w.heap.size w w' := by
  go_enter Try.func4, Try.ntmps4
  go_wp2_with fail
  refine (all_err _ _ _ _ hs hp hr).mono ?_; rintro e w1 ⟨rfl, hb1⟩
  go_wp2_with fail
  refine (refAll_err _ _ _ _ hs hp hr).mono ?_; rintro e w2 ⟨rfl, hb2⟩
  go_wp2_with fail
  refine (count_err _ _ _ _ hs hp hr).mono ?_; rintro e w3 ⟨rfl, hb3⟩
  go_wp2_with fail
  refine (same_nil _ _ _ _ _).mono ?_; rintro e w4 ⟨rfl, hb4⟩
  go_wp2_with fail
  refine (awake_any _).mono ?_; rintro e w5 ⟨rfl, hb5⟩
  go_wp2_with fail
  go_ret
  have h12 := hb1.trans (hb2.mono hb1.size)
  have h13 := h12.trans (hb3.mono h12.size)
  have h14 := h13.trans (hb4.mono h13.size)
  exact ⟨rfl, h14.trans (hb5.mono h14.size)⟩

theorem walk_ok (s : ByteArray) (ns : List Int) (w : World) (hs : s.size ≤ 65535) (hp : Parse (bytesL s) ns []) :
    Calls Try.prog 4 #[.string s] w fun e w' => e = .returned (.bool true) ∧ Below w.heap.size w w' := by
  have hl : ns.length ≤ 65535 := by
    have h := parse_length hp
    have h2 := length_encAll ns
    rw [bytesL_length] at h
    omega
  go_enter Try.func4, Try.ntmps4
  go_wp2_with fail
  refine (all_ok _ _ _ hs hp).mono ?_; rintro e w1 ⟨v1, rfl, hown1, hb1⟩
  obtain ⟨a1, c1, rfl⟩ := own_shape hown1
  have O1 := hide hown1
  clear hown1
  go_wp2_with fail
  refine (refAll_ok _ _ _ hs hp).mono ?_; rintro e w2 ⟨v2, rfl, hown2, hb2⟩
  obtain ⟨a2, c2, rfl⟩ := own_shape hown2
  have O2 := hide hown2
  clear hown2
  go_wp2_with fail
  refine (count_ok _ _ _ hs hp).mono ?_; rintro e w3 ⟨rfl, hb3⟩
  go_wp2_with fail
  refine (same_own _ w.heap.size w1.heap.size _ _ ns.length ns rfl (by omega) (own_below (own_below O1.out hb2) hb3) (own_below O2.out hb3)).mono ?_; rintro e w4 ⟨rfl, hb4⟩
  go_wp2_with fail
  refine (awake_any _).mono ?_; rintro e w5 ⟨rfl, hb5⟩
  go_wp2_with fail
  go_ret
  have h12 := hb1.trans (hb2.mono hb1.size)
  have h13 := h12.trans (hb3.mono h12.size)
  have h14 := h13.trans (hb4.mono h13.size)
  exact ⟨rfl, h14.trans (hb5.mono h14.size)⟩

theorem walk (s : ByteArray) (w : World) (hs : s.size ≤ maxLen) :
    Calls Try.prog 4 #[.string s] w fun e w' => e = .returned (.bool true) ∧ Below w.heap.size w w' := by
  unfold maxLen at hs
  by_cases hl : 65535 < s.size
  · exact walk_long s w hl
  · obtain ⟨ns, r, hp⟩ := parse_str s
    by_cases hr : r = []
    · subst hr; exact walk_ok s ns w (by omega) hp
    · exact walk_err s ns r w (by omega) hp hr

set_option maxRecDepth 100000 in
theorem lifted (os : Os) (started : os.Started) (H : Type) (enc : TypeId × Value → H) :
    ReturnsInHanded {} Try.checked os 4 .any (Rows.utfAllsSpec.pre6 enc Try.prog Try.f4 Rows.utfAllsRow.domain false) (Rows.utfAllsSpec.post enc Try.prog Try.f4 false true false false) := by
  refine returnsInHanded_of_change (C := Try.checked) own started (by kernel_rfl) Try.func4
    (ChangeSpec.witness6 (enc := enc) (C := Try.checked) false ⟨#[], #[.string ByteArray.empty], []⟩ 8 (by kernel_rfl) (by kernel_rfl) (by kernel_rfl) (by kernel_rfl)) ?_
  intro W base args ds gs before hval0 hW hcnd _
  have hval : ∀ (j : Nat) t v, Try.f4.params[j]? = some t → args[j]? = some v → Value.okWide Try.prog W .any base t v := hval0
  have hW' := hW
  obtain ⟨p, q, hA0, hV, rfl, hfz, hnd⟩ := hW
  have hA : DataW.TrodAll enc Try.prog W 0 (fun _ => true) true Try.f4.params.toList args.toList ds p := hA0
  rw [Try.params4] at hA hval
  obtain ⟨v0, vs0, d0, ds0, p0, q0, hargs, rfl, rfl, h0, r0⟩ := trodAll_cons hA
  obtain ⟨rfl, rfl, rfl⟩ := trodAll_nil r0
  obtain rfl : args = #[v0] := by cases args; simp_all
  obtain ⟨rfl, rfl⟩ := trodVars_none hV
  obtain ⟨a0, rfl, rfl, rfl, w0⟩ := open_string Try.underlying9 (hval 0 9 v0 rfl rfl) h0
  clear hA0 hval0
  refine (walk a0 W w0).mono fun e W' ⟨he, bel⟩ => ?_
  subst he
  exact ⟨_, rfl, _, _, _, [], _, [], hW', trodAll_mk1 (shut_bool Try.underlying4 _), (trodAll_cons_mk (shut_string Try.underlying9 w0) trodAll_mk0), rfl, bel.frame _, fun h => by cases h⟩

theorem over : Rows.utfAllsRow.holds Try.pinned (OpenSpec.ofChange Rows.utfAllsSpec) :=
  OpenClaim.holds_of_wide 4 Try.f4 rfl rfl rfl rfl rfl rfl rfl ⟨rfl, rfl, rfl, rfl, rfl⟩ rfl rfl rfl rfl rfl (by kernel_rfl) Try.func4 (by kernel_rfl)
    (of_decide_eq_true (by kernel_rfl)) (by unfold Func.isWrapper; first | (rw [if_pos (by decide +kernel)]; kernel_rfl) | (rw [if_neg (by decide +kernel)]; exact ⟨rfl, rfl⟩))
    (fun os started H enc _ => lifted os started H enc)

/-- The statement. -/
theorem alls_holds : Rows.UtfAllsSaid :=
  over
#print axioms alls_holds
end Go.Proofs.Ytcmmkdihknjfnaa.utfAlls
