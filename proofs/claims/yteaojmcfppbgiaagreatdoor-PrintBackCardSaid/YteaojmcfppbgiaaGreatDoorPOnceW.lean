/- The walk of the law PrintOnce. -/
import Derived.Test.YteaojmcfppbgiaaGreatDoorPrF
import Derived.Test.YteaojmcfppbgiaaGreatDoorAw6
import Derived.Test.YteaojmcfppbgiaaGreatDoorD6
namespace Go.Proofs.YteaojmcfppbgiaaGreatDoor
open Go.RowKit
set_option linter.unusedVariables false
set_option maxRecDepth 100000

set_option maxHeartbeats 1000000 in
/-- How many tokens a text has; 9999 where it can't be cut. -/
theorem tokens_any {u : ByteArray} {L : List (Int × ByteArray × Nat)} {stop : Nat} {E : Int} {w : World}
    (h : Calls Tryz.prog 46 #[.string u] w fun e w' => ∃ v, e = .returned (.tuple #[v, .int .i64 stop, .int .i64 E]) ∧ AllOut w w' v L u.size E ∧ Below w.heap.size w w') :
    Calls Tryz.prog 17 #[.string u] w fun e w' => e = .returned (.int .i64 (if E = 0 then (L.length : Int) + 1 else 9999)) ∧ Below w.heap.size w w' := by
  have H := Lib.hid h
  clear h
  by_cases hE : E = 0
  · subst hE
    have hne : ((0 : Int) != 0) = false := rfl
    go_enter Tryz.func17, Tryz.ntmps17
    go_wp2_with fail
    refine H.out.mono ?_; rintro e w1 ⟨v, rfl, ha, hb⟩
    obtain ⟨A, c, rfl⟩ := own_slice (ha.1 rfl)
    clear ha
    go_wp2_with fail
    go_ret
    exact ⟨by simp, hb⟩
  · have hne : (E != 0) = true := by simpa using hE
    rw [if_neg hE]
    have HE := Lib.hid hE
    clear hE
    go_enter Tryz.func17, Tryz.ntmps17
    go_wp2_with fail
    refine H.out.mono ?_; rintro e w1 ⟨v, rfl, ha, hb⟩
    obtain rfl := ha.2 HE.out
    clear ha
    go_wp2_with fail
    go_ret
    exact ⟨rfl, hb⟩

theorem decls_in {w : World} {lo hi : Nat} {A : Option Addr} {l : List DT} (h : DeclsAt w lo hi A l) : DeclsIn w lo hi A l := fun i hi' => by
  obtain ⟨b, o, p, hA, h1, h2, h3, h4⟩ := h i hi'
  exact ⟨b, o, p, hA, h1, h2, ⟨h3 0 (by omega), h3 1 (by omega), h3 2 (by omega), h3 3 (by omega), h3 4 (by omega), h3 5 (by omega), h3 6 (by omega), h3 7 (by omega), h3 8 (by omega), h3 9 (by omega), h3 10 (by omega)⟩, h4⟩
/-- What was printed of right declarations is read as right ones. -/
theorem file_back2 {l : List DT} {P : List Gc} (h : PFile l P) (hl0 : l.length ≤ 8192) (hm : P.length ≤ 8192) {u : ByteArray} (hu : bytesL u = toI (fileX l)) (hs : u.size ≤ 65535) :
    ∃ l' z, All2 EqvD l' l ∧ (∀ x ∈ l', FitD x) ∧ (∀ x ∈ l', declB x = true) ∧ (z : St).e = 0 ∧ ∀ w, Calls Tryz.prog 18 #[.string u] w (DeclsOut l' z u.size w) := by
  have hG : bytesL u = pcsG P := by rw [file_text h, hu]
  obtain ⟨⟨ns, hp⟩, hx⟩ := text_cutG hG (file_ok h []) hm
  have hl := tkG_length P u.size
  have he := tkG_end P u.size
  obtain ⟨g1, g2, g3, g4, g5⟩ := end_nx he
  have e0 : s0.k + P.length = P.length := Nat.zero_add _
  obtain ⟨l', e1, r1⟩ := file_read (by rw [hl]; omega) h 0 s0 (by omega) rfl (tkG_at P u.size) (by rw [e0, hl]; omega) (by rw [e0]; exact g5)
  refine ⟨l', mv s0 P.length, e1, fileR_fit r1 rfl, (fileR_good (names_end hx) r1 rfl).1, rfl, fun w => ?_⟩
  have := file_of (w := w) hs hp hx r1
  rw [show endS (withEnd (toksPc (P.map dnG) 0) u.size) (mv s0 P.length) = mv s0 P.length from end_mv he] at this
  exact this
def Tabs (w : World) : Prop := Shapes w ∧ Rooms w ∧ Bare w ∧ Words w ∧ Tab w
theorem Tabs.below {w w' : World} (h : Tabs w) (hb : Below w.heap.size w w') : Tabs w' := ⟨h.1.below hb, h.2.1.below hb, h.2.2.1.kept hb h.2.2.1.lt, h.2.2.2.1.kept hb h.2.2.2.1.lt, h.2.2.2.2.below hb⟩
theorem awake_tabs {w : World} (h : Tabs w) : Calls Tryz.prog 7 #[] w fun e w' => e = .returned (.bool true) ∧ Below w.heap.size w w' := awake6 w h.1 h.2.2.1 h.2.2.2.2
theorem toI_ba (X : Tx) : bytesL ⟨X.toArray⟩ = toI X := by
  unfold bytesL toI
  simp

end Go.Proofs.YteaojmcfppbgiaaGreatDoor
