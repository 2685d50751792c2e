/- Which texts are names: name.Right and the document's plain Right. For every string shorter than 2^63 bytes; nothing that was there is written. -/
import Derived.Test.YtmaomnpanfdjeaaDoorSet
import Derived.Test.YtmaomnpanfdjeaaDoorKind
import Derived.Test.YtmaomnpanfdjeaaDoorShape
namespace Go.Proofs.YtmaomnpanfdjeaaDoor
open Go.RowKit
set_option maxRecDepth 100000
set_option linter.unusedVariables false

def begB : List Int → Bool
  | [] => false
  | n :: r => letterB n || (decide (n = 95) && decide (0 < r.length))
/-- The text of these signs is a name. -/
structure IsName (s : ByteArray) (ns : List Int) : Prop where
  parse : Parse (bytesL s) ns []
  size : s.size ≤ 40
  key : keyB s = false
  beg : begB ns = true
  all : ns.all withinB = true

theorem own_cells' {w : World} {base : Nat} {v : Value} {n : Nat} {xs : List Int} (h : w.ownsRow base 3 1 v n (xs.map (Value.int .i64))) (hx : xs.length = n) (hn : 0 < n) :
    ∃ g cap, v = .slice (some ⟨g, 0, none⟩) n cap ∧ g < w.heap.size ∧ ∀ i, i < n → w.cell? ⟨g, i, none⟩ = some (.int .i64 (xs.getD i 0)) := by
  obtain ⟨g, cap, hv, hlt, hc⟩ := own_cells h hx hn
  exact ⟨g, cap, hv, hlt, fun i hi => by have := hc i hi; rwa [Nat.zero_add] at this⟩

theorem begins_empty (a : Option Addr) (c : Nat) (w : World) : Calls Tryd.prog 67 #[.slice a 0 c] w fun e w' => e = .returned (.bool false) ∧ w = w' := by
  go_enter Tryd.func67, Tryd.ntmps67
  go_wp2_with fail
  go_ret
  exact ⟨rfl, rfl⟩

theorem begins_any (b len cap : Nat) (x : Int) (w : World) (r : Bool) (h0 : 0 < len) (hm : len ≤ 140737488355328) (hc : w.cell? ⟨b, 0, none⟩ = some (.int .i64 x)) (hr : (letterB x || (decide (x = 95) && decide (1 < len))) = r) :
    Calls Tryd.prog 67 #[.slice (some ⟨b, 0, none⟩) len cap] w fun e w' => e = .returned (.bool r) ∧ w = w' := by
  have e0 : ((len : Int) == 0) = false := by rw [beq_eq_false_iff_ne]; omega
  cases hl : letterB x with
  | true =>
    obtain rfl : r = true := by rw [← hr, hl]; rfl
    clear hr
    go_enter Tryd.func67, Tryd.ntmps67
    go_wp2_with fail
    refine (letter_any _ _).mono ?_; rintro e w' ⟨rfl, rfl⟩
    rw [hl]
    go_wp2_with fail
    go_ret
    exact ⟨rfl, rfl⟩
  | false =>
    by_cases h95 : x = 95
    · by_cases h1 : 1 < len
      · obtain rfl : r = true := by rw [← hr, hl]; simp [h95, h1]
        clear hr
        subst h95
        have d1 : decide ((1 : Int) < (len : Int)) = true := decide_eq_true (by omega)
        go_enter Tryd.func67, Tryd.ntmps67
        go_wp2_with fail
        refine (letter_any _ _).mono ?_; rintro e w' ⟨rfl, rfl⟩
        rw [hl]
        go_wp2_with fail
        go_ret
        exact ⟨rfl, rfl⟩
      · obtain rfl : r = false := by rw [← hr, hl]; simp [h1]
        clear hr
        subst h95
        obtain rfl : len = 1 := by omega
        go_enter Tryd.func67, Tryd.ntmps67
        go_wp2_with fail
        refine (letter_any _ _).mono ?_; rintro e w' ⟨rfl, rfl⟩
        rw [hl]
        go_wp2_with fail
        go_ret
        exact ⟨rfl, rfl⟩
    · obtain rfl : r = false := by rw [← hr, hl]; simp [h95]
      clear hr
      have e95 : (x == 95) = false := by simpa using h95
      clear h95
      go_enter Tryd.func67, Tryd.ntmps67
      go_wp2_with fail
      refine (letter_any _ _).mono ?_; rintro e w' ⟨rfl, rfl⟩
      rw [hl]
      go_wp2_with fail
      go_ret
      exact ⟨rfl, rfl⟩

theorem begB_eq {ns : List Int} (h : 0 < ns.length) : (letterB (ns.getD 0 0) || (decide (ns.getD 0 0 = 95) && decide (1 < ns.length))) = begB ns := by
  match ns, h with
  | n :: r, _ => simp [begB]

theorem all_at {ns : List Int} : ns.all withinB = true ↔ ∀ j, j < ns.length → withinB (ns.getD j 0) = true := by
  rw [List.all_eq_true]
  constructor
  · exact fun h j hj => h _ (getD_mem hj)
  · intro h x hx
    obtain ⟨i, hi, rfl⟩ := List.getElem_of_mem hx
    have := h i hi
    rwa [List.getD, List.getElem?_eq_getElem hi] at this

theorem right_yes (s : ByteArray) (ns : List Int) (w : World) (h : IsName s ns) :
    Calls Tryd.prog 52 #[.string s] w fun e w' => e = .returned (.bool true) ∧ Below w.heap.size w w' := by
  obtain ⟨hp, h40, hk, hb, hall⟩ := h
  have hpos : 0 < ns.length := by
    match ns, hb with
    | n :: r, _ => simp
  have hlen : ns.length ≤ s.size := by have := parse_length hp; rw [bytesL_length] at this; have := length_encAll ns; simp at *; omega
  have HK := Lib.hid hk
  have HB := Lib.hid ((begB_eq hpos).trans hb)
  have HA := Lib.hid (all_at.1 hall)
  have HP := Lib.hid hp
  have hd : decide ((40 : Int) < (s.size : Int)) = false := decide_eq_false (by omega)
  clear hk hb hall hp
  go_enter Tryd.func52, Tryd.ntmps52
  go_wp2_with fail
  refine (keyword_any _ _).mono ?_; rintro e w1 ⟨rfl, rfl⟩
  rw [HK.out]
  go_wp2_with fail
  refine (all_ok s ns _ (by omega) HP.out).mono ?_; rintro e w1 ⟨v, rfl, hown, hb1⟩
  obtain ⟨n, hn⟩ : ∃ n, ns.length = n := ⟨_, rfl⟩
  rw [hn] at hown hpos hlen HA
  obtain ⟨g, cap, rfl, hlt, hc⟩ := own_cells' hown hn hpos
  clear hown
  have hc0 := hc 0 hpos
  have HC := Lib.hid hc
  have HN := Lib.hid hn
  clear hc hn
  go_wp2_with fail
  refine (begins_any _ _ _ _ _ true hpos (by omega) hc0 (by rw [← HN.out]; exact HB.out)).mono ?_; rintro e w2 ⟨rfl, rfl⟩
  go_wp2_with fail
  go_loop [30] (fun i => ∃ k : Nat, k ≤ n ∧ i = .int .i64 k) (fun i => n - (intOf i).toNat)
  case atStart => exact ⟨0, Nat.zero_le _, rfl⟩
  case round =>
    obtain ⟨k, hk, rfl⟩ := hrel
    by_cases hlk : k < n
    · have hcell := HC.out k hlk
      have hw := HA.out k hlk
      obtain ⟨x, hx⟩ : ∃ x, ns.getD k 0 = x := ⟨_, rfl⟩
      rw [hx] at hcell hw
      clear hx
      go_wp2_with fail
      refine (within_any _ _).mono ?_; rintro e w2 ⟨rfl, rfl⟩
      rw [hw]
      go_wp2_with fail
      go_round
      case rel => exact ⟨k + 1, by omega, by go_num⟩
      case measure => simp [intOf]; omega
    · go_wp2_with fail
      go_ret
      exact ⟨rfl, hb1⟩

theorem right_no (s : ByteArray) (w : World) (hs : s.size ≤ 9223372036854775807) (h : ¬ ∃ ns, IsName s ns) :
    Calls Tryd.prog 52 #[.string s] w fun e w' => e = .returned (.bool false) ∧ Below w.heap.size w w' := by
  by_cases h40 : 40 < s.size
  · clear h
    go_enter Tryd.func52, Tryd.ntmps52
    go_wp2_with fail
    go_ret
    exact ⟨rfl, Below.refl _ _⟩
  have hd : decide ((40 : Int) < (s.size : Int)) = false := decide_eq_false (by omega)
  cases hk : keyB s with
  | true =>
    clear h
    go_enter Tryd.func52, Tryd.ntmps52
    go_wp2_with fail
    refine (keyword_any _ _).mono ?_; rintro e w1 ⟨rfl, rfl⟩
    rw [hk]
    go_wp2_with fail
    go_ret
    exact ⟨rfl, Below.refl _ _⟩
  | false =>
    obtain ⟨ns, r, hp⟩ := parse_str s
    by_cases hr : r = []
    · subst hr
      have hlen : ns.length ≤ s.size := by have := parse_length hp; rw [bytesL_length] at this; have := length_encAll ns; simp at *; omega
      by_cases h0 : ns.length = 0
      · clear h
        go_enter Tryd.func52, Tryd.ntmps52
        go_wp2_with fail
        refine (keyword_any _ _).mono ?_; rintro e w1 ⟨rfl, rfl⟩
        rw [hk]
        go_wp2_with fail
        refine (all_ok s ns _ (by omega) hp).mono ?_; rintro e w1 ⟨v, rfl, hown, hb1⟩
        rw [h0] at hown
        obtain ⟨a, cap, rfl⟩ := own_shape hown
        clear hown h0
        go_wp2_with fail
        refine (begins_empty _ _ _).mono ?_; rintro e w2 ⟨rfl, rfl⟩
        go_wp2_with fail
        go_ret
        exact ⟨rfl, hb1⟩
      · have hpos : 0 < ns.length := by omega
        clear h0
        cases hb : begB ns with
        | false =>
          have HB := Lib.hid ((begB_eq hpos).trans hb)
          clear h hb
          go_enter Tryd.func52, Tryd.ntmps52
          go_wp2_with fail
          refine (keyword_any _ _).mono ?_; rintro e w1 ⟨rfl, rfl⟩
          rw [hk]
          go_wp2_with fail
          refine (all_ok s ns _ (by omega) hp).mono ?_; rintro e w1 ⟨v, rfl, hown, hb1⟩
          obtain ⟨n, hn⟩ : ∃ n, ns.length = n := ⟨_, rfl⟩
          rw [hn] at hown hpos hlen
          obtain ⟨g, cap, rfl, hlt, hc⟩ := own_cells' hown hn hpos
          have hc0 := hc 0 hpos
          have HN := Lib.hid hn
          clear hc hn hown
          go_wp2_with fail
          refine (begins_any _ _ _ _ _ false hpos (by omega) hc0 (by rw [← HN.out]; exact HB.out)).mono ?_; rintro e w2 ⟨rfl, rfl⟩
          go_wp2_with fail
          go_ret
          exact ⟨rfl, hb1⟩
        | true =>
          have hall : ¬ ∀ j, j < ns.length → withinB (ns.getD j 0) = true := fun hh => h ⟨ns, hp, by omega, hk, hb, all_at.2 hh⟩
          have HB := Lib.hid ((begB_eq hpos).trans hb)
          have HP := Lib.hid hp
          have HK := Lib.hid hk
          have HA := Lib.hid hall
          clear h hb hp hk hall
          go_enter Tryd.func52, Tryd.ntmps52
          go_wp2_with fail
          refine (keyword_any _ _).mono ?_; rintro e w1 ⟨rfl, rfl⟩
          rw [HK.out]
          go_wp2_with fail
          refine (all_ok s ns _ (by omega) HP.out).mono ?_; rintro e w1 ⟨v, rfl, hown, hb1⟩
          obtain ⟨n, hn⟩ : ∃ n, ns.length = n := ⟨_, rfl⟩
          rw [hn] at hown hpos hlen HA
          obtain ⟨g, cap, rfl, hlt, hc⟩ := own_cells' hown hn hpos
          clear hown
          have hc0 := hc 0 hpos
          have HC := Lib.hid hc
          have HN := Lib.hid hn
          clear hc hn
          go_wp2_with fail
          refine (begins_any _ _ _ _ _ true hpos (by omega) hc0 (by rw [← HN.out]; exact HB.out)).mono ?_; rintro e w2 ⟨rfl, rfl⟩
          go_wp2_with fail
          go_loop [30] (fun i => ∃ k : Nat, k ≤ n ∧ i = .int .i64 k ∧ Hid (∀ j, j < k → withinB (ns.getD j 0) = true)) (fun i => n - (intOf i).toNat)
          case atStart => exact ⟨0, Nat.zero_le _, rfl, Lib.hid (fun j hj => absurd hj (Nat.not_lt_zero j))⟩
          case round =>
            obtain ⟨k, hk, rfl, HW⟩ := hrel
            have hlk : k < n := by
              rcases Nat.lt_or_ge k n with h | h
              · exact h
              · exact absurd (fun j hj => HW.out j (by omega)) HA.out
            have hcell := HC.out k hlk
            obtain ⟨x, hx⟩ : ∃ x, ns.getD k 0 = x := ⟨_, rfl⟩
            rw [hx] at hcell
            have HX := Lib.hid hx
            clear hx
            cases hw : withinB x with
            | true =>
              go_wp2_with fail
              refine (within_any _ _).mono ?_; rintro e w2 ⟨rfl, rfl⟩
              rw [hw]
              go_wp2_with fail
              go_round
              case rel =>
                refine ⟨k + 1, by omega, by go_num, Lib.hid (fun j hj => ?_)⟩
                by_cases hjk : j < k
                · exact HW.out j hjk
                · obtain rfl : j = k := by omega
                  rw [HX.out]; exact hw
              case measure => simp [intOf]; omega
            | false =>
              go_wp2_with fail
              refine (within_any _ _).mono ?_; rintro e w2 ⟨rfl, rfl⟩
              rw [hw]
              go_wp2_with fail
              go_ret
              exact ⟨rfl, hb1⟩
    · clear h
      go_enter Tryd.func52, Tryd.ntmps52
      go_wp2_with fail
      refine (keyword_any _ _).mono ?_; rintro e w1 ⟨rfl, rfl⟩
      rw [hk]
      go_wp2_with fail
      refine (all_err s ns r _ (by omega) hp hr).mono ?_; rintro e w1 ⟨rfl, hb1⟩
      go_wp2_with fail
      go_ret
      exact ⟨rfl, hb1⟩

end Go.Proofs.YtmaomnpanfdjeaaDoor
