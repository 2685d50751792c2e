/- Which texts are names, by the document's plain Right: the same as by name.Right. For every string shorter than 2^63 bytes; nothing that was there is written. -/
import Derived.Test.YtmaomnpanfdjeaaDoorRight
namespace Go.Proofs.YtmaomnpanfdjeaaDoor
open Go.RowKit
set_option maxRecDepth 100000
set_option linter.unusedVariables false

/-- What scholiumref02.Right asks of the sign at a place. -/
def okAt (x : Int) (j : Nat) : Prop := letterB x = true ∨ x = 95 ∨ (j ≠ 0 ∧ (digitB x = true ∨ x = 39))
theorem okAt_within {x : Int} {j : Nat} (h : okAt x j) : withinB x = true := by
  unfold withinB
  rcases h with h | h | ⟨_, h | h⟩ <;> simp [h]
theorem okAt_of {x : Int} {j : Nat} (h : withinB x = true) (hj : j ≠ 0) : okAt x j := by
  unfold withinB at h
  simp only [Bool.or_eq_true, decide_eq_true_eq] at h
  rcases h with h | h | h | h
  · exact .inr (.inl h)
  · exact .inr (.inr ⟨hj, .inr h⟩)
  · exact .inr (.inr ⟨hj, .inl h⟩)
  · exact .inl h

theorem toList_bytes {s : ByteArray} (h : s.toList = [95]) : bytesL s = [95] := by
  rw [ByteArray.toList_eq] at h
  unfold bytesL
  rw [h]; rfl
theorem bytes_toList {s : ByteArray} (h : bytesL s = [95]) : s.toList = [95] := by
  have e : s = ⟨#[95]⟩ := bytesL_inj h
  rw [e, ByteArray.toList_eq]
theorem low_alone {s : ByteArray} {ns : List Int} (hp : Parse (bytesL s) ns []) : s.toList = [95] ↔ ns = [95] := by
  constructor
  · intro h
    have hb := toList_bytes h
    rw [hb] at hp
    exact (parse_unique hp (parse_enc (ns := [95]) (by intro n hn; simp at hn; subst hn; decide))).1
  · rintro rfl
    exact bytes_toList (by have := hp.eq; rw [List.append_nil] at this; exact this)

theorem name_ok {s : ByteArray} {ns : List Int} (h : IsName s ns) : (s.toList == [95]) = false ∧ 0 < ns.length ∧ ∀ j, j < ns.length → okAt (ns.getD j 0) j := by
  obtain ⟨hp, h40, hk, hb, hall⟩ := h
  have hpos : 0 < ns.length := by
    match ns, hb with
    | n :: r, _ => simp
  refine ⟨?_, hpos, fun j hj => ?_⟩
  · rw [beq_eq_false_iff_ne]
    intro e
    rw [(low_alone hp).1 e] at hb
    exact absurd hb (by decide)
  · by_cases hj0 : j = 0
    · subst hj0
      have := (begB_eq hpos).trans hb
      simp only [Bool.or_eq_true, Bool.and_eq_true, decide_eq_true_eq] at this
      rcases this with h | ⟨h, _⟩
      · exact .inl h
      · exact .inr (.inl h)
    · exact okAt_of (all_at.1 hall j hj) hj0
theorem ok_name {s : ByteArray} {ns : List Int} (hp : Parse (bytesL s) ns []) (h40 : s.size ≤ 40) (hk : keyB s = false) (h95 : (s.toList == [95]) = false) (hpos : 0 < ns.length) (hall : ∀ j, j < ns.length → okAt (ns.getD j 0) j) : IsName s ns := by
  refine ⟨hp, h40, hk, ?_, all_at.2 fun j hj => okAt_within (hall j hj)⟩
  rw [← begB_eq hpos]
  rcases hall 0 hpos with h | h | ⟨h, _⟩
  · rw [h]; rfl
  · have h1 : 1 < ns.length := by
      rcases Nat.lt_or_ge 1 ns.length with h1 | h1
      · exact h1
      · exfalso
        rw [beq_eq_false_iff_ne] at h95
        apply h95
        rw [low_alone hp]
        match ns, hpos, h1, h with
        | [n], _, _, h =>
          have : n = 95 := h
          rw [this]
    rw [decide_eq_true h, decide_eq_true h1]; simp
  · exact absurd rfl h


/-- The tail of scholiumref02.Right: what one round does. -/
theorem refRight_yes (s : ByteArray) (ns : List Int) (w : World) (h : IsName s ns) :
    Calls Tryd.prog 48 #[.string s] w fun e w' => e = .returned (.bool true) ∧ Below w.heap.size w w' := by
  obtain ⟨h95, hpos, hok⟩ := name_ok h
  obtain ⟨hp, h40, hk, hb, hall⟩ := h
  have hlen : ns.length ≤ s.size := by have := parse_length hp; rw [bytesL_length] at this; have := length_encAll ns; simp at *; omega
  have HK := Lib.hid hk
  have HA := Lib.hid hok
  have HP := Lib.hid hp
  have hd : decide ((40 : Int) < (s.size : Int)) = false := decide_eq_false (by omega)
  have e0 : ((s.size : Int) == 0) = false := by rw [beq_eq_false_iff_ne]; omega
  clear hk hb hall hp hok
  go_enter Tryd.func48, Tryd.ntmps48
  go_wp2_with fail
  refine (refAll_ok s ns _ (by omega) HP.out).mono ?_; rintro e w1 ⟨v, rfl, hown, hb1⟩
  obtain ⟨n, hn⟩ : ∃ n, ns.length = n := ⟨_, rfl⟩
  rw [hn] at hown hpos hlen HA
  obtain ⟨g, cap, rfl, hlt, hc⟩ := own_cells' hown hn hpos
  clear hown
  have HC := Lib.hid hc
  clear hc hn
  go_wp2_with fail
  refine (refKeyword_any _ _).mono ?_; rintro e w2 ⟨rfl, rfl⟩
  rw [HK.out]
  go_wp2_with fail
  go_loopw [6] (fun i wr => ∃ k : Nat, k ≤ n ∧ i = .int .i64 k ∧ Below w1.heap.size w1 wr) (fun i _ => n - (intOf i).toNat)
  case atStart => exact ⟨0, Nat.zero_le _, rfl, Below.refl _ _⟩
  case round =>
    obtain ⟨k, hk, rfl, hB⟩ := hrel
    by_cases hlk : k < n
    · have hcell := (hB.cell (p := ⟨g, k, none⟩) hlt).trans (HC.out k hlk)
      have hszw := hB.size
      have hx0 := HA.out k hlk
      obtain ⟨x, hx⟩ : ∃ x, ns.getD k 0 = x := ⟨_, rfl⟩
      rw [hx] at hcell hx0
      clear hx
      have HX := Lib.hid hx0
      clear hx0
      cases hl : letterB x with
      | true =>
        go_wp2_with fail
        refine (refLetter_any _ _).mono ?_; rintro e w2 ⟨rfl, hb2⟩
        rw [hl]
        have hB2 := hB.trans (hb2.mono hszw)
        go_wp2_with fail
        go_roundw
        case rel => exact ⟨k + 1, by omega, by go_num, hB2⟩
        case measure => simp [intOf]; omega
      | false =>
        by_cases h95x : x = 95
        · subst h95x
          go_wp2_with fail
          refine (refLetter_any _ _).mono ?_; rintro e w2 ⟨rfl, hb2⟩
          rw [hl]
          have hB2 := hB.trans (hb2.mono hszw)
          have hcell2 := (hb2.cell (World.block_lt_of_cell? _ _ hcell)).trans hcell
          go_wp2_with fail
          go_roundw
          case rel => exact ⟨k + 1, by omega, by go_num, hB2⟩
          case measure => simp [intOf]; omega
        · have hk0 : k ≠ 0 ∧ (digitB x = true ∨ x = 39) := by
            rcases HX.out with h | h | h
            · rw [hl] at h; cases h
            · exact absurd h h95x
            · exact h
          have ek0 : ((k : Int) == 0) = false := by rw [beq_eq_false_iff_ne]; omega
          have e95 : (x != 95) = true := by simpa using h95x
          have e95' : (x == 95) = false := by simpa using h95x
          clear h95x
          cases hd2 : digitB x with
          | true =>
            clear hk0
            go_wp2_with fail
            refine (refLetter_any _ _).mono ?_; rintro e w2 ⟨rfl, hb2⟩
            rw [hl]
            have hB2 := hB.trans (hb2.mono hszw)
            have hcell2 := (hb2.cell (World.block_lt_of_cell? _ _ hcell)).trans hcell
            go_wp2_with fail
            refine (refDigit_any _ _).mono ?_; rintro e w3 ⟨rfl, rfl⟩
            rw [hd2]
            go_wp2_with fail
            go_roundw
            case rel => exact ⟨k + 1, by omega, by go_num, hB2⟩
            case measure => simp [intOf]; omega
          | false =>
            have h39 : x = 39 := by
              rcases hk0.2 with h | h
              · rw [hd2] at h; cases h
              · exact h
            clear hk0
            subst h39
            go_wp2_with fail
            refine (refLetter_any _ _).mono ?_; rintro e w2 ⟨rfl, hb2⟩
            rw [hl]
            have hB2 := hB.trans (hb2.mono hszw)
            have hcell2 := (hb2.cell (World.block_lt_of_cell? _ _ hcell)).trans hcell
            go_wp2_with fail
            refine (refDigit_any _ _).mono ?_; rintro e w3 ⟨rfl, rfl⟩
            rw [hd2]
            go_wp2_with fail
            go_roundw
            case rel => exact ⟨k + 1, by omega, by go_num, hB2⟩
            case measure => simp [intOf]; omega
    · go_wp2_with fail
      go_ret
      exact ⟨rfl, hb1.trans (hB.mono hb1.size)⟩

/-- A place at which scholiumref02.Right says no. -/
theorem refRight_bad (s : ByteArray) (ns : List Int) (w : World) (hp : Parse (bytesL s) ns []) (h40 : s.size ≤ 40) (hk : keyB s = false) (h95 : (s.toList == [95]) = false) (hpos : 0 < ns.length)
    (hbad : ¬ ∀ j, j < ns.length → okAt (ns.getD j 0) j) :
    Calls Tryd.prog 48 #[.string s] w fun e w' => e = .returned (.bool false) ∧ Below w.heap.size w w' := by
  have hlen : ns.length ≤ s.size := by have := parse_length hp; rw [bytesL_length] at this; have := length_encAll ns; simp at *; omega
  have HK := Lib.hid hk
  have HA := Lib.hid hbad
  have HP := Lib.hid hp
  have hd : decide ((40 : Int) < (s.size : Int)) = false := decide_eq_false (by omega)
  have e0 : ((s.size : Int) == 0) = false := by rw [beq_eq_false_iff_ne]; omega
  clear hk hp hbad
  go_enter Tryd.func48, Tryd.ntmps48
  go_wp2_with fail
  refine (refAll_ok s ns _ (by omega) HP.out).mono ?_; rintro e w1 ⟨v, rfl, hown, hb1⟩
  obtain ⟨n, hn⟩ : ∃ n, ns.length = n := ⟨_, rfl⟩
  rw [hn] at hown hpos hlen HA
  obtain ⟨g, cap, rfl, hlt, hc⟩ := own_cells' hown hn hpos
  clear hown
  have HC := Lib.hid hc
  clear hc hn
  go_wp2_with fail
  refine (refKeyword_any _ _).mono ?_; rintro e w2 ⟨rfl, rfl⟩
  rw [HK.out]
  go_wp2_with fail
  go_loopw [6] (fun i wr => ∃ k : Nat, k ≤ n ∧ i = .int .i64 k ∧ Hid (∀ j, j < k → okAt (ns.getD j 0) j) ∧ Below w1.heap.size w1 wr) (fun i _ => n - (intOf i).toNat)
  case atStart => exact ⟨0, Nat.zero_le _, rfl, Lib.hid (fun j hj => absurd hj (Nat.not_lt_zero j)), Below.refl _ _⟩
  case round =>
    obtain ⟨k, hk, rfl, HW, hB⟩ := hrel
    have hlk : k < n := by
      rcases Nat.lt_or_ge k n with h | h
      · exact h
      · exact absurd (fun j hj => HW.out j (by omega)) HA.out
    have hcell := (hB.cell (p := ⟨g, k, none⟩) hlt).trans (HC.out k hlk)
    have hszw := hB.size
    obtain ⟨x, hx⟩ : ∃ x, ns.getD k 0 = x := ⟨_, rfl⟩
    rw [hx] at hcell
    have HX := Lib.hid hx
    clear hx
    have HS : okAt x k → Hid (∀ j, j < k + 1 → okAt (ns.getD j 0) j) := fun hx0 => Lib.hid (fun j hj => by
      by_cases hjk : j < k
      · exact HW.out j hjk
      · obtain rfl : j = k := by omega
        rw [HX.out]; exact hx0)
    have HSS := Lib.hid HS
    clear HS
    have hfin := hb1.trans (hB.mono hb1.size)
    cases hl : letterB x with
    | true =>
      have HN := HSS.out (.inl hl)
      go_wp2_with fail
      refine (refLetter_any _ _).mono ?_; rintro e w2 ⟨rfl, hb2⟩
      rw [hl]
      have hB2 := hB.trans (hb2.mono hszw)
      go_wp2_with fail
      go_roundw
      case rel => exact ⟨k + 1, by omega, by go_num, HN, hB2⟩
      case measure => simp [intOf]; omega
    | false =>
      by_cases h95x : x = 95
      · have HN := HSS.out (.inr (.inl h95x))
        subst h95x
        go_wp2_with fail
        refine (refLetter_any _ _).mono ?_; rintro e w2 ⟨rfl, hb2⟩
        rw [hl]
        have hB2 := hB.trans (hb2.mono hszw)
        have hcell2 := (hb2.cell (World.block_lt_of_cell? _ _ hcell)).trans hcell
        go_wp2_with fail
        go_roundw
        case rel => exact ⟨k + 1, by omega, by go_num, HN, hB2⟩
        case measure => simp [intOf]; omega
      · have e95 : (x != 95) = true := by simpa using h95x
        have e95' : (x == 95) = false := by simpa using h95x
        clear h95x
        by_cases hk0 : k = 0
        · subst hk0
          go_wp2_with fail
          refine (refLetter_any _ _).mono ?_; rintro e w2 ⟨rfl, hb2⟩
          rw [hl]
          have hB2 := hB.trans (hb2.mono hszw)
          have hcell2 := (hb2.cell (World.block_lt_of_cell? _ _ hcell)).trans hcell
          go_wp2_with fail
          go_ret
          exact ⟨rfl, hb1.trans (hB2.mono hb1.size)⟩
        · have ek0 : ((k : Int) == 0) = false := by rw [beq_eq_false_iff_ne]; omega
          cases hd2 : digitB x with
          | true =>
            have HN := HSS.out (.inr (.inr ⟨hk0, .inl hd2⟩))
            clear hk0
            go_wp2_with fail
            refine (refLetter_any _ _).mono ?_; rintro e w2 ⟨rfl, hb2⟩
            rw [hl]
            have hB2 := hB.trans (hb2.mono hszw)
            have hcell2 := (hb2.cell (World.block_lt_of_cell? _ _ hcell)).trans hcell
            go_wp2_with fail
            refine (refDigit_any _ _).mono ?_; rintro e w3 ⟨rfl, rfl⟩
            rw [hd2]
            go_wp2_with fail
            go_roundw
            case rel => exact ⟨k + 1, by omega, by go_num, HN, hB2⟩
            case measure => simp [intOf]; omega
          | false =>
            by_cases h39 : x = 39
            · have HN := HSS.out (.inr (.inr ⟨hk0, .inr h39⟩))
              clear hk0
              subst h39
              go_wp2_with fail
              refine (refLetter_any _ _).mono ?_; rintro e w2 ⟨rfl, hb2⟩
              rw [hl]
              have hB2 := hB.trans (hb2.mono hszw)
              have hcell2 := (hb2.cell (World.block_lt_of_cell? _ _ hcell)).trans hcell
              go_wp2_with fail
              refine (refDigit_any _ _).mono ?_; rintro e w3 ⟨rfl, rfl⟩
              rw [hd2]
              go_wp2_with fail
              go_roundw
              case rel => exact ⟨k + 1, by omega, by go_num, HN, hB2⟩
              case measure => simp [intOf]; omega
            · have e39 : (x != 39) = true := by simpa using h39
              have e39' : (x == 39) = false := by simpa using h39
              clear h39 hk0
              go_wp2_with fail
              refine (refLetter_any _ _).mono ?_; rintro e w2 ⟨rfl, hb2⟩
              rw [hl]
              have hB2 := hB.trans (hb2.mono hszw)
              have hcell2 := (hb2.cell (World.block_lt_of_cell? _ _ hcell)).trans hcell
              go_wp2_with fail
              refine (refDigit_any _ _).mono ?_; rintro e w3 ⟨rfl, rfl⟩
              rw [hd2]
              go_wp2_with fail
              go_ret
              exact ⟨rfl, hb1.trans (hB2.mono hb1.size)⟩

theorem refRight_no (s : ByteArray) (w : World) (hs : s.size ≤ 9223372036854775807) (h : ¬ ∃ ns, IsName s ns) :
    Calls Tryd.prog 48 #[.string s] w fun e w' => e = .returned (.bool false) ∧ Below w.heap.size w w' := by
  by_cases hbig : 65535 < s.size
  · clear h
    go_enter Tryd.func48, Tryd.ntmps48
    go_wp2_with fail
    refine (refAll_long s _ hbig).mono ?_; rintro e w1 ⟨rfl, hb1⟩
    go_wp2_with fail
    go_ret
    exact ⟨rfl, hb1⟩
  obtain ⟨ns, r, hp⟩ := parse_str s
  by_cases hr : r = []
  · subst hr
    have hl0 := parse_length hp
    rw [bytesL_length] at hl0
    have hlen : ns.length ≤ s.size := by have := length_encAll ns; simp at *; omega
    by_cases h0 : s.size = 0
    · clear h hl0 hlen
      have e0 : ((s.size : Int) == 0) = true := by rw [beq_iff_eq]; omega
      go_enter Tryd.func48, Tryd.ntmps48
      go_wp2_with fail
      refine (refAll_ok s ns _ (by omega) hp).mono ?_; rintro e w1 ⟨v, rfl, hown, hb1⟩
      obtain ⟨a, cap, rfl⟩ := own_shape hown
      clear hown h0
      go_wp2_with fail
      go_ret
      exact ⟨rfl, hb1⟩
    have e0 : ((s.size : Int) == 0) = false := by rw [beq_eq_false_iff_ne]; omega
    by_cases h40 : 40 < s.size
    · clear h hl0 hlen
      have hd : decide ((40 : Int) < (s.size : Int)) = true := decide_eq_true (by omega)
      go_enter Tryd.func48, Tryd.ntmps48
      go_wp2_with fail
      refine (refAll_ok s ns _ (by omega) hp).mono ?_; rintro e w1 ⟨v, rfl, hown, hb1⟩
      obtain ⟨a, cap, rfl⟩ := own_shape hown
      clear hown h0
      go_wp2_with fail
      go_ret
      exact ⟨rfl, hb1⟩
    have hd : decide ((40 : Int) < (s.size : Int)) = false := decide_eq_false (by omega)
    cases hk : keyB s with
    | true =>
      clear h hl0 hlen
      go_enter Tryd.func48, Tryd.ntmps48
      go_wp2_with fail
      refine (refAll_ok s ns _ (by omega) hp).mono ?_; rintro e w1 ⟨v, rfl, hown, hb1⟩
      obtain ⟨a, cap, rfl⟩ := own_shape hown
      clear hown h0
      go_wp2_with fail
      refine (refKeyword_any _ _).mono ?_; rintro e w2 ⟨rfl, rfl⟩
      rw [hk]
      go_wp2_with fail
      go_ret
      exact ⟨rfl, hb1⟩
    | false =>
      cases h95 : (s.toList == [95]) with
      | true =>
        clear h hl0 hlen
        go_enter Tryd.func48, Tryd.ntmps48
        go_wp2_with fail
        refine (refAll_ok s ns _ (by omega) hp).mono ?_; rintro e w1 ⟨v, rfl, hown, hb1⟩
        obtain ⟨a, cap, rfl⟩ := own_shape hown
        clear hown h0
        go_wp2_with fail
        refine (refKeyword_any _ _).mono ?_; rintro e w2 ⟨rfl, rfl⟩
        rw [hk]
        go_wp2_with fail
        go_ret
        exact ⟨rfl, hb1⟩
      | false =>
        have hpos : 0 < ns.length := by
          rcases Nat.eq_zero_or_pos ns.length with e | e
          · exfalso
            have : ns = [] := List.eq_nil_of_length_eq_zero e
            rw [this] at hl0
            exact h0 hl0
          · exact e
        exact refRight_bad s ns w hp (by omega) hk h95 hpos (fun hall => h ⟨ns, ok_name hp (by omega) hk h95 hpos hall⟩)
  · clear h
    go_enter Tryd.func48, Tryd.ntmps48
    go_wp2_with fail
    refine (refAll_err s ns r _ (by omega) hp hr).mono ?_; rintro e w1 ⟨rfl, hb1⟩
    go_wp2_with fail
    go_ret
    exact ⟨rfl, hb1⟩

end Go.Proofs.YtmaomnpanfdjeaaDoor
