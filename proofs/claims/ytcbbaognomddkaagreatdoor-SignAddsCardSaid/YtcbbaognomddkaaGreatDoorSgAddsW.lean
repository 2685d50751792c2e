/- The walk of SignAdds. -/
import Derived.Test.YtcbbaognomddkaaGreatDoorSgBegM
import Derived.Test.YtcbbaognomddkaaGreatDoorS2
namespace Go.Proofs.YtcbbaognomddkaaGreatDoor
open Go.RowKit
set_option linter.unusedVariables false
set_option maxRecDepth 100000

theorem out_len (l more : List ET) : (outR l more).length = (outS l more).length := by
  unfold outR outS
  split
  · rw [List.length_map]
  · rfl
theorem out_same (l more : List ET) : ∀ i (h : i < (outS l more).length) (h' : i < (outR l more).length), SameE (outS l more)[i] (outR l more)[i] := by
  unfold outR outS
  split
  · intro i h h'
    rw [List.getElem_map]
    exact same_symm (same_copyE _)
  · intro i h; cases h
theorem out_small {l more : List ET} (h1 : l.length ≤ 300) (h2 : more.length ≤ 300) : (outS l more).length ≤ 700 := by
  unfold outS
  split
  · rw [List.length_map, List.length_append]; omega
  · exact Nat.zero_le _

set_option maxHeartbeats 8000000 in
theorem adds_walk (l more : List ET) (A A' : Option Addr) (n m cap cap' : Nat) (w : World) (hn : l.length = n) (hm : more.length = m) (hlc : n ≤ cap) (he : EntsAt w 0 w.heap.size A l) (he' : EntsAt w 0 w.heap.size A' more) (hS : ShapesM w) :
    Calls Tryz.prog 3 #[.slice A n cap, .slice A' m cap'] w fun e w' => e = .returned (.bool true) ∧ Below w.heap.size w w' := by
  have CA := Lib.hid (fun (V : World) (hV : Below w.heap.size w V) => awakeS_any V (hS.kept hV))
  have CL := Lib.hid (light_any A n cap)
  have CL' := Lib.hid (light_any A' m cap')
  by_cases h1 : n ≤ 300
  case neg =>
    have t1 : decide (n ≤ 300) = false := decide_eq_false h1
    rw [t1] at CL
    clear h1 t1 hn hm hlc he he' hS
    go_enter Tryz.func3, Tryz.ntmps3
    go_wp2_with fail
    refine (CL.out _).mono ?_
    rintro e w1 ⟨rfl, rfl⟩
    go_wp2_with fail
    refine (CA.out _ (Below.refl _ _)).mono ?_
    rintro e w2 ⟨rfl, hb⟩
    go_wp2_with fail
    go_ret
    exact ⟨rfl, hb⟩
  by_cases h2 : m ≤ 300
  case neg =>
    have t1 : decide (n ≤ 300) = true := decide_eq_true h1
    have t2 : decide (m ≤ 300) = false := decide_eq_false h2
    rw [t1] at CL
    rw [t2] at CL'
    clear h1 t1 h2 t2 hn hm hlc he he' hS
    go_enter Tryz.func3, Tryz.ntmps3
    go_wp2_with fail
    refine (CL.out _).mono ?_
    rintro e w1 ⟨rfl, rfl⟩
    go_wp2_with fail
    refine (CL'.out _).mono ?_
    rintro e w1 ⟨rfl, rfl⟩
    go_wp2_with fail
    refine (CA.out _ (Below.refl _ _)).mono ?_
    rintro e w2 ⟨rfl, hb⟩
    go_wp2_with fail
    go_ret
    exact ⟨rfl, hb⟩
  have t1 : decide (n ≤ 300) = true := decide_eq_true h1
  have t2 : decide (m ≤ 300) = true := decide_eq_true h2
  rw [t1] at CL
  rw [t2] at CL'
  have C1 := Lib.hid (fun (V : World) (hV : Below w.heap.size w V) => sadd_any l more A A' cap cap' 0 w.heap.size 0 w.heap.size V (by omega) (by omega) (by omega) (he.kept hV (Nat.le_refl _)) (he'.kept hV (Nat.le_refl _)) hV.size hV.size (hS.kept hV))
  have C2 := Lib.hid (fun (V : World) (hV : Below w.heap.size w V) => radd_any l more A A' cap cap' 0 w.heap.size 0 w.heap.size V (by omega) (by omega) (by omega) (he.kept hV (Nat.le_refl _)) (he'.kept hV (Nat.le_refl _)) hV.size hV.size (hS.kept hV))
  rw [hn, hm] at C1 C2
  have CS := Lib.hid (fun (B B' : Option Addr) (c c' b b' : Nat) (V : World) (hb : EntsAt V 0 b B (outS l more)) (hb' : EntsAt V 0 b' B' (outR l more)) (hz : b ≤ V.heap.size) (hz' : b' ≤ V.heap.size) => rsame_yes (outS l more) (outR l more) B B' c c' 0 b 0 b' V (out_small (by omega) (by omega)) (out_len l more) hb hb' hz hz' (out_same l more))
  obtain ⟨eA, heA⟩ : ∃ e, errA l more = e := ⟨_, rfl⟩
  rw [heA] at C1 C2
  obtain ⟨S, hS'⟩ : ∃ S, outS l more = S := ⟨_, rfl⟩
  obtain ⟨R, hR⟩ : ∃ R, outR l more = R := ⟨_, rfl⟩
  rw [hS'] at C1 CS
  rw [hR] at C2 CS
  have te : (eA == eA) = true := by simp
  unfold GivesA at C1 C2
  clear h1 t1 h2 t2 hn hm hlc he he' hS heA hS' hR
  go_enter Tryz.func3, Tryz.ntmps3
  go_wp2_with fail
  refine (CL.out _).mono ?_
  rintro e w1 ⟨rfl, rfl⟩
  go_wp2_with fail
  refine (CL'.out _).mono ?_
  rintro e w1 ⟨rfl, rfl⟩
  go_wp2_with fail
  refine (C1.out _ (Below.refl _ _)).mono ?_
  rintro e w2 ⟨B, c, rfl, hb2, _, hl2⟩
  have HB2 := Lib.hid hl2
  have HE2 := Lib.hid hb2
  clear hl2 hb2 C1
  go_wp2_with fail
  refine (C2.out _ HB2.out).mono ?_
  rintro e w3 ⟨B', c', rfl, hb3, _, hl3⟩
  have HB3 := Lib.hid (HB2.out.trans (hl3.mono HB2.out.size))
  have HE3 := Lib.hid hb3
  have HE2' := Lib.hid (HE2.out.kept hl3 (Nat.le_refl _))
  have HZ3 := Lib.hid hl3.size
  clear hl3 hb3 C2
  go_wp2_with fail
  refine (CS.out _ _ _ _ _ _ _ HE2'.out HE3.out HZ3.out (Nat.le_refl _)).mono ?_
  rintro e w4 ⟨rfl, hb4⟩
  have HB4 := Lib.hid (HB3.out.trans (hb4.mono HB3.out.size))
  clear hb4
  go_wp2_with fail
  refine (CA.out _ HB4.out).mono ?_
  rintro e w5 ⟨rfl, hb5⟩
  have HB5 := Lib.hid (HB4.out.trans (hb5.mono HB4.out.size))
  clear hb5
  go_wp2_with fail
  go_ret
  exact ⟨rfl, HB5.out⟩

end Go.Proofs.YtcbbaognomddkaaGreatDoor
