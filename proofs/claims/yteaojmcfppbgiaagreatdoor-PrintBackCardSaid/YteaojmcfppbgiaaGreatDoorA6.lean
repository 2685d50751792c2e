/- Words of a text as plain functions on its bytes: remarks, blanks, how far they go. No program. -/
import Derived.Test.YteaojmcfppbgiaaGreatDoorA4
import Derived.Test.YteaojmcfppbgiaaGreatDoorA3
import Derived.Test.YteaojmcfppbgiaaGreatDoorA5
import Derived.Lib.IndexLaws
import Derived.RegionTactic
import Derived.WalkMore
import Derived.Deep.QuietTactic
import Derived.BigQuiet
namespace Go.Proofs.YteaojmcfppbgiaaGreatDoor
open Go.RowKit
set_option linter.unusedVariables false

/-- Do two bytes stand at a list's head? -/
def p2 : List Int → Int → Int → Bool
  | x :: y :: _, a, b => x == a && y == b
  | _, _, _ => false
theorem p2_cases {l : List Int} {a b : Int} (h : p2 l a b = true) : ∃ t, l = a :: b :: t := by
  match l with
  | [] => cases h
  | [x] => cases h
  | x :: y :: t =>
    simp [p2] at h
    exact ⟨t, by rw [h.1, h.2]⟩

/-- How many bytes a remark has from here on, 'o' of which are open; the flag: the head is the second byte of a pair. -/
def remL : List Int → Nat → Bool → Option Nat
  | [], _, _ => none
  | _ :: t, o, true => (remL t o false).map (· + 1)
  | x :: t, o, false =>
    if p2 (x :: t) 123 45 then (remL t (o + 1) true).map (· + 1)
    else if p2 (x :: t) 45 125 then (if o = 1 then some 2 else (remL t (o - 1) true).map (· + 1))
    else (remL t o false).map (· + 1)
theorem remL_nil (o : Nat) (f : Bool) : remL [] o f = none := by simp [remL]
theorem remL_skip (x : Int) (t : List Int) (o : Nat) : remL (x :: t) o true = (remL t o false).map (· + 1) := by simp [remL]
theorem remL_open {l : List Int} (h : p2 l 123 45 = true) (o : Nat) : remL l o false = (remL (l.drop 2) (o + 1) false).map (· + 2) := by
  obtain ⟨t, rfl⟩ := p2_cases h
  rw [remL, if_pos h, remL_skip]
  simp [Option.map_map]
  congr 1
theorem remL_last {l : List Int} (h : p2 l 123 45 = false) (h2 : p2 l 45 125 = true) : remL l 1 false = some 2 := by
  obtain ⟨t, rfl⟩ := p2_cases h2
  rw [remL, h, h2]; simp
theorem remL_shut {l : List Int} (h : p2 l 123 45 = false) (h2 : p2 l 45 125 = true) {o : Nat} (ho : o ≠ 1) : remL l o false = (remL (l.drop 2) (o - 1) false).map (· + 2) := by
  obtain ⟨t, rfl⟩ := p2_cases h2
  rw [remL, h, h2]
  simp only [Bool.false_eq_true, if_false, if_true, if_neg ho, remL_skip]
  simp [Option.map_map]
  congr 1
theorem remL_step {l : List Int} (h : p2 l 123 45 = false) (h2 : p2 l 45 125 = false) (h0 : l ≠ []) (o : Nat) : remL l o false = (remL (l.drop 1) o false).map (· + 1) := by
  match l, h0 with
  | x :: t, _ => rw [remL, h, h2]; simp

theorem remL_le : ∀ (l : List Int) (o : Nat) (f : Bool) (r : Nat), remL l o f = some r → r ≤ l.length ∧ 0 < r
  | [], o, f, r, h => by rw [remL_nil] at h; cases h
  | x :: t, o, true, r, h => by
    rw [remL_skip] at h
    obtain ⟨q, hq, rfl⟩ := Option.map_eq_some_iff.1 h
    have := remL_le t o false q hq
    simp; omega
  | x :: t, o, false, r, h => by
    rw [remL] at h
    split at h
    · obtain ⟨q, hq, rfl⟩ := Option.map_eq_some_iff.1 h
      have := remL_le t (o + 1) true q hq
      simp; omega
    · split at h
      · rename_i hp
        split at h
        · obtain ⟨t', e⟩ := p2_cases hp
          simp at h
          have : (x :: t).length = (45 :: 125 :: t').length := by rw [e]
          simp at this
          simp
          omega
        · obtain ⟨q, hq, rfl⟩ := Option.map_eq_some_iff.1 h
          have := remL_le t (o - 1) true q hq
          simp; omega
      · obtain ⟨q, hq, rfl⟩ := Option.map_eq_some_iff.1 h
        have := remL_le t o false q hq
        simp; omega

/-- How many bytes a line has. -/
def lineL (l : List Int) : Nat := (l.takeWhile (fun x => decide (x ≠ 10))).length
theorem lineL_le (l : List Int) : lineL l ≤ l.length := by unfold lineL; exact (List.takeWhile_sublist _).length_le

/-- How many bytes the blank or the remark has with which a text begins. -/
def gapL : List Int → Nat
  | [] => 0
  | x :: t => if blankB x then 1 else if p2 (x :: t) 45 45 then lineL (x :: t) else if p2 (x :: t) 123 45 then (remL (x :: t) 0 false).getD 0 else 0
theorem gapL_cons (x : Int) (t : List Int) : gapL (x :: t) = if blankB x then 1 else if p2 (x :: t) 45 45 then lineL (x :: t) else if p2 (x :: t) 123 45 then (remL (x :: t) 0 false).getD 0 else 0 := rfl
theorem gapL_le (l : List Int) : gapL l ≤ l.length := by
  match l with
  | [] => exact Nat.le_refl _
  | x :: t =>
    rw [gapL_cons]
    split
    · simp
    · split
      · exact lineL_le _
      · split
        · cases h : remL (x :: t) 0 false with
          | none => simp
          | some r => exact (remL_le _ _ _ _ h).1
        · simp

/-- How far blanks and remarks go. -/
def skipF : Nat → List Int → Nat
  | 0, _ => 0
  | f + 1, l => if gapL l = 0 then 0 else gapL l + skipF f (l.drop (gapL l))
def skipL (l : List Int) : Nat := skipF l.length l
theorem skipF_more : ∀ (f g : Nat) (l : List Int), l.length ≤ f → l.length ≤ g → skipF f l = skipF g l
  | 0, g, l, h, _ => by
    have : l = [] := List.eq_nil_of_length_eq_zero (by omega)
    subst this
    cases g with
    | zero => rfl
    | succ g => simp [skipF, gapL]
  | f + 1, 0, l, _, h => by
    have : l = [] := List.eq_nil_of_length_eq_zero (by omega)
    subst this
    simp [skipF, gapL]
  | f + 1, g + 1, l, h1, h2 => by
    unfold skipF
    split
    · rfl
    · rw [skipF_more f g (l.drop (gapL l)) (by rw [List.length_drop]; omega) (by rw [List.length_drop]; omega)]
theorem skipL_stop {l : List Int} (h : gapL l = 0) : skipL l = 0 := by
  unfold skipL
  match hl : l.length with
  | 0 => rfl
  | n + 1 => rw [skipF, if_pos h]
theorem skipL_more {l : List Int} (h : gapL l ≠ 0) : skipL l = gapL l + skipL (l.drop (gapL l)) := by
  have hle := gapL_le l
  unfold skipL
  match hl : l.length with
  | 0 => rw [hl] at hle; omega
  | n + 1 =>
    rw [skipF, if_neg h]
    congr 1
    exact skipF_more _ _ _ (by rw [List.length_drop]; omega) (Nat.le_refl _)
theorem skipL_le' (k : Nat) : ∀ l : List Int, l.length ≤ k → skipL l ≤ l.length := by
  induction k with
  | zero => intro l h; have : l = [] := List.eq_nil_of_length_eq_zero (by omega)
            subst this; exact Nat.le_refl _
  | succ k ih =>
    intro l h
    by_cases h0 : gapL l = 0
    · rw [skipL_stop h0]; omega
    · have h1 := gapL_le l
      have h2 := ih (l.drop (gapL l)) (by rw [List.length_drop]; omega)
      rw [List.length_drop] at h2
      rw [skipL_more h0]; omega
theorem skipL_le (l : List Int) : skipL l ≤ l.length := skipL_le' _ l (Nat.le_refl _)
end Go.Proofs.YteaojmcfppbgiaaGreatDoor

/- token.remark, token.gap and token.skip over any text: how far remarks and blanks go. Nothing that was there is written. -/
namespace Go.Proofs.YteaojmcfppbgiaaGreatDoor
open Go.RowKit Go.Shelf
set_option linter.unusedVariables false

theorem bytes_drop (s : ByteArray) (k : Nat) : bytesL (s.extract k s.size) = (bytesL s).drop k := by
  rw [bytesL_extract, List.take_of_length_le (by rw [List.length_drop, bytesL_length]; exact Nat.le_refl _)]
theorem pre_p2 (t : ByteArray) (a b : UInt8) : preB t ⟨#[a, b]⟩ = p2 (bytesL t) (a.toNat : Int) (b.toNat : Int) := by
  unfold preB Lib.hasPrefix bytesL
  have e : ∀ l : List UInt8, [a, b].isPrefixOf l = p2 (l.map fun b => (b.toNat : Int)) (a.toNat : Int) (b.toNat : Int) := by
    intro l
    have h : ∀ x y : UInt8, (x == y) = (((y.toNat : Int)) == ((x.toNat : Int))) := by
      intro x y
      rw [Bool.eq_iff_iff, beq_iff_eq, beq_iff_eq]
      constructor
      · intro h; rw [h]
      · intro h; exact UInt8.toNat_inj.1 (by omega)
    match l with
    | [] => rfl
    | [x] => simp [List.isPrefixOf, p2]
    | x :: y :: t => simp [List.isPrefixOf, p2, h]
  exact e _
theorem pre_at (s : ByteArray) (k : Nat) (a b : UInt8) : preB (s.extract k s.size) ⟨#[a, b]⟩ = p2 ((bytesL s).drop k) (a.toNat : Int) (b.toNat : Int) := by rw [pre_p2, bytes_drop]

/-! ### a remark in braces -/
theorem remark_any (s : ByteArray) (w : World) (hs : s.size ≤ 65535) (h0 : p2 (bytesL s) 123 45 = true) :
    Calls Tryz.prog 165 #[.string s] w fun e w' => e = .returned (.int .i64 ((remL (bytesL s) 0 false).getD 0)) ∧ w = w' := by
  obtain ⟨R, hR⟩ : ∃ R, remL (bytesL s) 0 false = R := ⟨_, rfl⟩
  rw [hR]
  have H0 := Lib.hid h0
  have hlen := bytesL_length s
  have HLen := Lib.hid hlen
  have HR := Lib.hid hR
  clear h0 hR hlen
  go_enter Tryz.func165, Tryz.ntmps165
  go_wp2_with fail
  go_step3
  go_wp2_with fail
  go_step3
  go_wp2_with fail
  go_loop [3, 4] (fun o e => ∃ k n : Nat, k ≤ s.size ∧ n ≤ k ∧ o = .int .i64 n ∧ e = .int .i64 k ∧ Hid ((k = 0 ∧ n = 0) ∨ 0 < n) ∧ Hid (R = (remL ((bytesL s).drop k) n false).map (· + k))) (fun _ e => s.size - (intOf e).toNat)
  case atStart => exact ⟨0, 0, Nat.zero_le _, Nat.le_refl _, rfl, rfl, Lib.hid (.inl ⟨rfl, rfl⟩), Lib.hid (by rw [List.drop_zero, HR.out]; simp)⟩
  case round =>
    obtain ⟨k, n, hk, hn, rfl, rfl, HN, HRk⟩ := hrel
    by_cases hlt : k < s.size
    · have HP1 := Lib.hid (pre_at s k 123 45)
      have HP2 := Lib.hid (pre_at s k 45 125)
      obtain ⟨l, hl⟩ : ∃ l, (bytesL s).drop k = l := ⟨_, rfl⟩
      have hll : l.length = s.size - k := by rw [← hl, List.length_drop, bytesL_length]
      have hdr : ∀ j, l.drop j = (bytesL s).drop (k + j) := by intro j; rw [← hl, List.drop_drop]
      have HDr := Lib.hid hdr
      rw [hl] at HP1 HP2 HRk
      clear hl hdr
      cases c1 : p2 l 123 45 with
      | true =>
        have hl2 : k + 2 ≤ s.size := by
          obtain ⟨t, e⟩ := p2_cases c1
          rw [e] at hll; simp at hll; omega
        have HK' : Hid (R = (remL ((bytesL s).drop (k + 2)) (n + 1) false).map (· + (k + 2))) := Lib.hid (by
          rw [HRk.out, remL_open c1, HDr.out]
          simp [Option.map_map]
          congr 1
          funext x
          simp
          omega)
        have C1 : Hid (preB (s.extract k s.size) ⟨#[123, 45]⟩ = true) := Lib.hid (HP1.out.trans c1)
        clear HP1 HP2 HRk HDr HN c1 hll H0
        go_wp2_with fail
        refine (pre_any _ _ _).mono ?_; rintro e w2 ⟨rfl, rfl⟩
        rw [C1.out]
        go_wp2_with fail
        go_round
        case rel => exact ⟨k + 2, n + 1, by omega, by omega, by go_num, by go_num, Lib.hid (.inr (by omega)), HK'⟩
        case measure => simp [intOf]; omega
      | false =>
        have C1 : Hid (preB (s.extract k s.size) ⟨#[123, 45]⟩ = false) := Lib.hid (HP1.out.trans c1)
        have hn0 : 0 < n := by
          rcases HN.out with ⟨h, _⟩ | h
          · subst h
            have h2 := HDr.out 0
            rw [List.drop_zero, Nat.zero_add, List.drop_zero] at h2
            rw [h2, H0.out] at c1
            cases c1
          · exact h
        cases c2 : p2 l 45 125 with
        | true =>
          have hl2 : k + 2 ≤ s.size := by
            obtain ⟨t, e⟩ := p2_cases c2
            rw [e] at hll; simp at hll; omega
          have C2 : Hid (preB (s.extract k s.size) ⟨#[45, 125]⟩ = true) := Lib.hid (HP2.out.trans c2)
          by_cases h1 : n = 1
          · subst h1
            have HF : Hid (R = some (k + 2)) := Lib.hid (by rw [HRk.out, remL_last c1 c2]; simp [Nat.add_comm])
            clear HP1 HP2 HRk HDr HN c1 c2 hll H0
            go_wp2_with fail
            refine (pre_any _ _ _).mono ?_; rintro e w2 ⟨rfl, rfl⟩
            rw [C1.out]
            go_wp2_with fail
            refine (pre_any _ _ _).mono ?_; rintro e w2 ⟨rfl, rfl⟩
            rw [C2.out]
            go_wp2_with fail
            rw [Exit.noGoto_ret]
            go_ret
            rw [HF.out]
            exact ⟨by go_num, rfl⟩
          · have HK' : Hid (R = (remL ((bytesL s).drop (k + 2)) (n - 1) false).map (· + (k + 2))) := Lib.hid (by
              rw [HRk.out, remL_shut c1 c2 h1, HDr.out]
              simp [Option.map_map]
              congr 1
              funext x
              simp
              omega)
            have e1 : (n : Int) - 1 = ((n - 1 : Nat) : Int) := by omega
            have t1 : (((n - 1 : Nat) : Int) == 0) = false := by simp; omega
            obtain ⟨n1, hn1⟩ : ∃ n1, n - 1 = n1 := ⟨_, rfl⟩
            have hn2 : 0 < n1 := by omega
            have hn3 : n1 ≤ k := by omega
            rw [hn1] at HK' e1 t1
            clear HP1 HP2 HRk HDr HN c1 c2 hll H0 hn1 h1
            go_wp2_with fail
            refine (pre_any _ _ _).mono ?_; rintro e w2 ⟨rfl, rfl⟩
            rw [C1.out]
            go_wp2_with fail
            refine (pre_any _ _ _).mono ?_; rintro e w2 ⟨rfl, rfl⟩
            rw [C2.out]
            go_wp2_with fail
            go_round
            case rel => exact ⟨k + 2, n1, by omega, by omega, by go_num, by go_num, Lib.hid (.inr hn2), HK'⟩
            case measure => simp [intOf]; omega
        | false =>
          have C2 : Hid (preB (s.extract k s.size) ⟨#[45, 125]⟩ = false) := Lib.hid (HP2.out.trans c2)
          have hne : l ≠ [] := fun e => by rw [e] at hll; simp at hll; omega
          have HK' : Hid (R = (remL ((bytesL s).drop (k + 1)) n false).map (· + (k + 1))) := Lib.hid (by
            rw [HRk.out, remL_step c1 c2 hne, HDr.out]
            simp [Option.map_map]
            congr 1
            funext x
            simp
            omega)
          clear HP1 HP2 HRk HDr HN c1 c2 hll H0 hne
          go_wp2_with fail
          refine (pre_any _ _ _).mono ?_; rintro e w2 ⟨rfl, rfl⟩
          rw [C1.out]
          go_wp2_with fail
          refine (pre_any _ _ _).mono ?_; rintro e w2 ⟨rfl, rfl⟩
          rw [C2.out]
          go_wp2_with fail
          go_round
          case rel => exact ⟨k + 1, n, by omega, by omega, by go_num, by go_num, Lib.hid (.inr hn0), HK'⟩
          case measure => simp [intOf]; omega
    · have hk : k = s.size := by omega
      have hn0 : 0 < n := by
        rcases HN.out with ⟨h, _⟩ | h
        · obtain ⟨t, e⟩ := p2_cases H0.out
          have := HLen.out
          rw [e] at this
          simp at this
          omega
        · exact h
      have HF : Hid (R = none) := Lib.hid (by
        rw [HRk.out, List.drop_eq_nil_of_le (by rw [HLen.out]; omega), remL_nil]; rfl)
      clear HRk HN H0 hk
      go_wp2_with fail
      go_ret
      rw [HF.out]
      exact ⟨rfl, rfl⟩

/-! ### a line -/
theorem lineL_none : ∀ {l : List Int}, (∀ x ∈ l, x ≠ 10) → lineL l = l.length
  | [], _ => rfl
  | x :: t, h => by
    have h1 : x ≠ 10 := h x (List.mem_cons_self ..)
    have h2 := lineL_none (l := t) (fun y hy => h y (List.mem_cons_of_mem _ hy))
    unfold lineL at h2 ⊢
    rw [List.takeWhile_cons, if_pos (by simp [h1]), List.length_cons, h2]
    try rfl
theorem lineL_at : ∀ {l : List Int} {i : Nat}, l[i]? = some 10 → (∀ k, k < i → l[k]? ≠ some 10) → lineL l = i
  | [], i, h, _ => by simp at h
  | x :: t, 0, h, _ => by
    simp at h
    unfold lineL
    rw [List.takeWhile_cons, if_neg (by simp [h])]
    rfl
  | x :: t, i + 1, h, hk => by
    have h1 : x ≠ 10 := fun e => hk 0 (by omega) (by simp [e])
    have h2 := lineL_at (l := t) (i := i) (by simpa using h) (fun k hlt => by simpa using hk (k + 1) (by omega))
    unfold lineL at h2 ⊢
    rw [List.takeWhile_cons, if_pos (by simp [h1]), List.length_cons, h2]
    try rfl
theorem bytes_at (s : ByteArray) (k : Nat) : (bytesL s)[k]? = (s.data.toList[k]?).map (fun b => (b.toNat : Int)) := by unfold bytesL; rw [List.getElem?_map]
theorem ten_iff (b : UInt8) : (b.toNat : Int) = 10 ↔ b = 10 := by
  constructor
  · intro h; exact UInt8.toNat_inj.1 (by show b.toNat = 10; omega)
  · intro h; rw [h]; rfl
theorem lineL_index (s : ByteArray) : (Lib.indexByte s.data.toList 10 = -1 ∧ lineL (bytesL s) = s.size) ∨ (∃ i : Nat, i < s.size ∧ Lib.indexByte s.data.toList 10 = i ∧ lineL (bytesL s) = i) := by
  by_cases h : Lib.indexByte s.data.toList 10 = -1
  · refine .inl ⟨h, ?_⟩
    have hn := Lib.indexByte_none h
    rw [lineL_none, bytesL_length]
    intro x hx e
    unfold bytesL at hx
    obtain ⟨b, hb, hbx⟩ := List.mem_map.1 hx
    obtain ⟨k, hk⟩ := List.getElem?_of_mem hb
    exact hn k (by rw [hk, (ten_iff b).1 (by rw [hbx, e])])
  · have hge := Lib.indexByte_ge s.data.toList 10
    obtain ⟨i, hi⟩ : ∃ i : Nat, Lib.indexByte s.data.toList 10 = i := ⟨(Lib.indexByte s.data.toList 10).toNat, by omega⟩
    obtain ⟨h1, h2⟩ := Lib.indexByte_some hi
    refine .inr ⟨i, ?_, hi, ?_⟩
    · have := (List.getElem?_eq_some_iff.1 h1).1
      simpa using this
    · refine lineL_at (by rw [bytes_at, h1]; rfl) (fun k hk e => ?_)
      rw [bytes_at] at e
      obtain ⟨b, hb, hbx⟩ := Option.map_eq_some_iff.1 e
      exact h2 k hk (by rw [hb, (ten_iff b).1 hbx])

theorem index_one (s : ByteArray) (w : World) : Calls Tryz.prog 191 #[.string s, .string ⟨#[10]⟩] w fun e w' => e = .returned (.int .i64 (Lib.indexByte s.data.toList 10)) ∧ w = w' := by
  refine (Any.stringslite_Index_one Tryz.lays219 s 10 w).mono ?_
  rintro e w' ⟨rfl, rfl⟩
  exact ⟨rfl, rfl⟩

/-- strings.Cut at a line's end: what stands ahead of it. -/
theorem cut_inner (s : ByteArray) (n : Nat) (w : World) (hs : s.size ≤ 65535) (hn : lineL (bytesL s) = n) :
    Calls Tryz.prog 183 #[.string s, .string ⟨#[10]⟩] w fun e w' => ∃ t u b, e = .returned (.tuple #[.string t, .string u, .bool b]) ∧ Hid (t.size = n) ∧ Below w.heap.size w w' := by
  rcases lineL_index s with ⟨h, hl⟩ | ⟨i, hi, h, hl⟩
  · have H := Lib.hid h
    have HS : Hid (s.size = n) := Lib.hid (hl.symm.trans hn)
    clear h hl hn
    go_enter Tryz.func183, Tryz.ntmps183
    go_wp2_with fail
    refine (index_one _ _).mono ?_; rintro e w2 ⟨rfl, rfl⟩
    rw [H.out]
    go_wp2_with fail
    go_ret3
    exact ⟨_, _, _, rfl, HS, Below.refl _ _⟩
  · have H := Lib.hid h
    have HS : Hid ((s.extract 0 i).size = n) := Lib.hid (by rw [← hn, hl]; simp; omega)
    have c1 : (0 : Int) ≤ ↑i := by omega
    have c2 : (↑i : Int) ≤ ↑s.size := by omega
    have c3 : (0 : Int) ≤ ↑i + 1 := by omega
    have c4 : (↑i + 1 : Int) ≤ ↑s.size := by omega
    clear h hl hn
    go_enter Tryz.func183, Tryz.ntmps183
    go_wp2_with fail
    refine (index_one _ _).mono ?_; rintro e w2 ⟨rfl, rfl⟩
    rw [H.out]
    go_wp2_with fail
    go_region
    go_wp2_with fail
    go_ret3
    exact ⟨_, _, _, rfl, HS, (Below.refl _ _).drew⟩

theorem cut_line (s : ByteArray) (n : Nat) (w : World) (hs : s.size ≤ 65535) (hn : lineL (bytesL s) = n) :
    Calls Tryz.prog 164 #[.string s, .string ⟨#[10]⟩] w fun e w' => ∃ t u b, e = .returned (.tuple #[.string t, .string u, .bool b]) ∧ Hid (t.size = n) ∧ Below w.heap.size w w' := by
  have H := Lib.hid hn
  clear hn
  go_enter Tryz.func164, Tryz.ntmps164
  go_wp2_with fail
  refine (cut_inner s n _ hs H.out).mono ?_; rintro e w1 ⟨t, u, b, rfl, HT, hb⟩
  go_wp2_with fail
  go_ret3
  exact ⟨_, _, _, rfl, HT, hb⟩

/-- token.gap over any text. -/
theorem gap_any (s : ByteArray) (hs : s.size ≤ 65535) : GapIs s (gapL (bytesL s)) := by
  by_cases hz : s.size = 0
  · have e : bytesL s = [] := List.eq_nil_of_length_eq_zero (by rw [bytesL_length]; exact hz)
    rw [e]
    exact gap_end hz
  have h0 : 0 < s.size := by omega
  have hd := drop_byt s 0 h0
  rw [List.drop_zero] at hd
  have e1 : gapL (bytesL s) = if blankB (byt s 0) then 1 else if p2 (bytesL s) 45 45 then lineL (bytesL s) else if p2 (bytesL s) 123 45 then (remL (bytesL s) 0 false).getD 0 else 0 := by rw [hd]; rfl
  rw [e1]
  have hpa := pre_p2 s 45 45
  have hpb := pre_p2 s 123 45
  cases hb : blankB (byt s 0) with
  | true => rw [if_pos rfl]; exact gap_blank h0 hb
  | false =>
    rw [if_neg (by decide)]
    cases ha : p2 (bytesL s) 45 45 with
    | true =>
      rw [if_pos rfl]
      obtain ⟨n, hn⟩ : ∃ n, lineL (bytesL s) = n := ⟨_, rfl⟩
      rw [hn]
      intro w
      have t1 : (s.toList == []) = false := str_nil_false (fun e => by rw [hd] at e; cases e)
      have hby := byt_eq s 0 h0
      have hlo := byt_lo s 0
      have hhi := byt_hi s 0
      have hnle : n ≤ s.size := by rw [← hn, ← bytesL_length]; exact lineL_le _
      obtain ⟨b, hbb⟩ : ∃ b, byt s 0 = b := ⟨_, rfl⟩
      rw [hbb] at hby hlo hhi hb
      have HB := Lib.hid hb
      have H1 : Hid (preB s ⟨#[45, 45]⟩ = true) := Lib.hid (hpa.trans ha)
      have HN := Lib.hid hn
      clear hbb hb hpa hpb ha e1 hd hn hz
      go_enter Tryz.func122, Tryz.ntmps122
      go_wp2_with fail
      refine (blank_any _ _).mono ?_; rintro e w' ⟨rfl, rfl⟩
      rw [HB.out]
      go_wp2_with fail
      refine (pre_any _ _ _).mono ?_; rintro e w' ⟨rfl, rfl⟩
      rw [H1.out]
      go_wp2_with fail
      refine (cut_line s n _ hs HN.out).mono ?_; rintro e w1 ⟨t, u, c, rfl, HT, hb⟩
      have ht := HT.out
      clear HT
      go_wp2_with fail
      go_ret
      exact ⟨rfl, hb⟩
    | false =>
      rw [if_neg (by decide)]
      cases hc : p2 (bytesL s) 123 45 with
      | true =>
        rw [if_pos rfl]
        obtain ⟨n, hn⟩ : ∃ n, (remL (bytesL s) 0 false).getD 0 = n := ⟨_, rfl⟩
        rw [hn]
        intro w
        have t1 : (s.toList == []) = false := str_nil_false (fun e => by rw [hd] at e; cases e)
        have hby := byt_eq s 0 h0
        have hlo := byt_lo s 0
        have hhi := byt_hi s 0
        obtain ⟨b, hbb⟩ : ∃ b, byt s 0 = b := ⟨_, rfl⟩
        rw [hbb] at hby hlo hhi hb
        have HB := Lib.hid hb
        have H1 : Hid (preB s ⟨#[45, 45]⟩ = false) := Lib.hid (hpa.trans ha)
        have H2 : Hid (preB s ⟨#[123, 45]⟩ = true) := Lib.hid (hpb.trans hc)
        have HC := Lib.hid hc
        have HN := Lib.hid hn
        clear hbb hb hpa hpb ha hc e1 hd hn hz
        go_enter Tryz.func122, Tryz.ntmps122
        go_wp2_with fail
        refine (blank_any _ _).mono ?_; rintro e w' ⟨rfl, rfl⟩
        rw [HB.out]
        go_wp2_with fail
        refine (pre_any _ _ _).mono ?_; rintro e w' ⟨rfl, rfl⟩
        rw [H1.out]
        go_wp2_with fail
        refine (pre_any _ _ _).mono ?_; rintro e w' ⟨rfl, rfl⟩
        rw [H2.out]
        go_wp2_with fail
        refine (remark_any s _ hs HC.out).mono ?_; rintro e w' ⟨rfl, rfl⟩
        rw [HN.out]
        go_wp2_with fail
        go_ret
        exact ⟨rfl, Below.refl _ _⟩
      | false =>
        rw [if_neg (by decide)]
        exact gap_none h0 hb (hpa.trans ha) (hpb.trans hc)

/-- token.skip over any text, from any place. -/
theorem skip_any (s : ByteArray) (a : Nat) (ha : a ≤ s.size) (hs : s.size ≤ 65535) : SkipIs s a (a + skipL ((bytesL s).drop a)) := by
  intro w
  obtain ⟨R, hR⟩ : ∃ R, a + skipL ((bytesL s).drop a) = R := ⟨_, rfl⟩
  rw [hR]
  have HR := Lib.hid hR
  have hlen := bytesL_length s
  have HLen := Lib.hid hlen
  clear hR hlen
  go_enter Tryz.func84, Tryz.ntmps84
  go_wp2_with fail
  go_loopw [1] (fun e wr => ∃ k : Nat, k ≤ s.size ∧ e = .int .i64 k ∧ Hid (k + skipL ((bytesL s).drop k) = R) ∧ Below w.heap.size w wr) (fun e _ => s.size - (intOf e).toNat)
  case atStart => exact ⟨a, ha, rfl, HR, Below.refl _ _⟩
  case round =>
    obtain ⟨k, hk, rfl, HK, hB⟩ := hrel
    have hsz := hB.size
    have hg := gap_any (s.extract k s.size) (by simp; omega)
    rw [bytes_drop] at hg
    have hle := gapL_le ((bytesL s).drop k)
    rw [List.length_drop, HLen.out] at hle
    have hmore := fun h => skipL_more (l := (bytesL s).drop k) h
    have hstop := fun h => skipL_stop (l := (bytesL s).drop k) h
    obtain ⟨g, hgg⟩ : ∃ g, gapL ((bytesL s).drop k) = g := ⟨_, rfl⟩
    rw [hgg] at hg hle
    have HG := Lib.hid hg
    have HGG := Lib.hid hgg
    have HM := Lib.hid hmore
    have HS := Lib.hid hstop
    clear hg hgg hmore hstop
    by_cases hz : g = 0
    · subst hz
      have e : k = R := by have := HK.out; rw [HS.out HGG.out] at this; omega
      subst e
      clear HM HS HK HGG
      go_wp2_with fail
      refine (HG.out _).mono ?_; rintro e w2 ⟨rfl, hb2⟩
      go_wp2_with fail
      go_ret
      exact ⟨rfl, hB.trans (hb2.mono hsz)⟩
    · have HK' : Hid ((k + g) + skipL ((bytesL s).drop (k + g)) = R) := Lib.hid (by
        have h1 := HK.out
        rw [HM.out (by rw [HGG.out]; exact hz), HGG.out, List.drop_drop] at h1
        omega)
      obtain ⟨q, hq⟩ : ∃ q, k + g = q := ⟨_, rfl⟩
      rw [hq] at HK'
      have e1 : (k : Int) + (g : Int) = (q : Int) := by omega
      have t1 : ((q : Int) == (k : Int)) = false := by simp; omega
      have hqs : q ≤ s.size := by omega
      have hqk : k < q := by omega
      clear HM HS HK HGG hz hq hle
      go_wp2_with fail
      refine (HG.out _).mono ?_; rintro e w2 ⟨rfl, hb2⟩
      go_wp2_with fail
      go_roundw
      case rel => exact ⟨q, hqs, rfl, HK', hB.trans (hb2.mono hsz)⟩
      case measure => simp [intOf]; omega

end Go.Proofs.YteaojmcfppbgiaaGreatDoor

/- token.mark, token.word, token.next over any text. Nothing that was there is written. -/
namespace Go.Proofs.YteaojmcfppbgiaaGreatDoor
open Go.RowKit
set_option linter.unusedVariables false

/-- How many signs of a run a text begins with. -/
def lead (ns : List Int) : Nat := (ns.takeWhile withinB).length
theorem lead_le (ns : List Int) : lead ns ≤ ns.length := by unfold lead; exact (List.takeWhile_sublist _).length_le
theorem lead_all : ∀ (ns : List Int) (i : Nat), i < lead ns → withinB (ns.getD i 0) = true
  | [], i, h => by simp [lead] at h
  | n :: ns, i, h => by
    unfold lead at h
    rw [List.takeWhile_cons] at h
    cases hn : withinB n with
    | false => rw [hn] at h; simp at h
    | true =>
      rw [hn] at h
      match i with
      | 0 => simpa using hn
      | i + 1 => simp at h; simpa using lead_all ns i h
theorem lead_stop : ∀ (ns : List Int), lead ns = ns.length ∨ withinB (ns.getD (lead ns) 0) = false
  | [] => .inl rfl
  | n :: ns => by
    unfold lead
    rw [List.takeWhile_cons]
    cases hn : withinB n with
    | false => right; simpa using hn
    | true =>
      rcases lead_stop ns with h | h
      · left; unfold lead at h; simp [h]
      · right; unfold lead at h; simpa using h
theorem run_text {s : ByteArray} {ns r : List Int} (hs : s.size ≤ 65535) (hp : Parse (bytesL s) ns r) : RunIs s (s.extract 0 (offs ns (lead ns))) :=
  run_any hs hp (lead ns) (lead_le ns) (lead_all ns) (lead_stop ns)

/-! ### words -/
def WordOf (u : ByteArray) (k : Int) : Prop :=
  (keyB u = true ∧ k = 2) ∨ (keyB u = false ∧ (∃ N, IsNum (bytesL u) N true) ∧ k = 3) ∨
  (keyB u = false ∧ IsNum (bytesL u) 0 false ∧ ((u.toList == [95]) = true ∨ ∃ ns, IsName u ns) ∧ k = 1) ∨
  (keyB u = false ∧ IsNum (bytesL u) 0 false ∧ (u.toList == [95]) = false ∧ (¬ ∃ ns, IsName u ns) ∧ k = 0)
theorem wordOf_ex (u : ByteArray) : ∃ k, WordOf u k := by
  cases hk : keyB u with
  | true => exact ⟨2, .inl ⟨hk, rfl⟩⟩
  | false =>
    obtain ⟨N, B, h⟩ := isNum_ex (bytesL u)
    cases B with
    | true => exact ⟨3, .inr (.inl ⟨hk, ⟨N, h⟩, rfl⟩)⟩
    | false =>
      have h0 : IsNum (bytesL u) 0 false := by rcases h with ⟨h, _⟩ | ⟨_, rfl, h⟩ <;> first | cases h | exact .inr ⟨rfl, rfl, h⟩
      cases hu : (u.toList == [95]) with
      | true => exact ⟨1, .inr (.inr (.inl ⟨hk, h0, .inl hu, rfl⟩))⟩
      | false =>
        rcases Classical.em (∃ ns, IsName u ns) with e | e
        · exact ⟨1, .inr (.inr (.inl ⟨hk, h0, .inr e, rfl⟩))⟩
        · exact ⟨0, .inr (.inr (.inr ⟨hk, h0, hu, e, rfl⟩))⟩

theorem word_of {u : ByteArray} {k : Int} (hs : u.size ≤ 65535) (h : WordOf u k) : WordIs u k := by
  intro w
  rcases h with ⟨hk, rfl⟩ | ⟨hk, ⟨N, hn⟩, rfl⟩ | ⟨hk, hn, hr, rfl⟩ | ⟨hk, hn, hu, hr, rfl⟩
  · have HK := Lib.hid hk
    obtain ⟨N, B, hn⟩ := isNum_ex (bytesL u)
    have HN := Lib.hid hn
    clear hk hn
    go_enter Tryz.func126, Tryz.ntmps126
    go_wp2_with fail
    refine (number_num u N B _ (by omega) HN.out).mono ?_; rintro e w1 ⟨rfl, hb1⟩
    go_wp2_with fail
    refine (keyword_any u _).mono ?_; rintro e w2 ⟨rfl, rfl⟩
    rw [HK.out]
    go_wp2_with fail
    go_ret
    exact ⟨rfl, hb1⟩
  · have HK := Lib.hid hk
    have HN := Lib.hid hn
    clear hk hn
    go_enter Tryz.func126, Tryz.ntmps126
    go_wp2_with fail
    refine (number_num u N _ _ (by omega) HN.out).mono ?_; rintro e w1 ⟨rfl, hb1⟩
    go_wp2_with fail
    refine (keyword_any u _).mono ?_; rintro e w2 ⟨rfl, rfl⟩
    rw [HK.out]
    go_wp2_with fail
    go_ret
    exact ⟨rfl, hb1⟩
  · rcases hr with hu | ⟨ns, hr⟩
    · have HK := Lib.hid hk
      have HN := Lib.hid hn
      clear hk hn
      go_enter Tryz.func126, Tryz.ntmps126
      go_wp2_with fail
      refine (number_num u 0 false _ (by omega) HN.out).mono ?_; rintro e w1 ⟨rfl, hb1⟩
      go_wp2_with fail
      refine (keyword_any u _).mono ?_; rintro e w2 ⟨rfl, rfl⟩
      rw [HK.out]
      go_wp2_with fail
      go_ret
      exact ⟨rfl, hb1⟩
    · exact word_name hr hn w
  · have HK := Lib.hid hk
    have HN := Lib.hid hn
    have HR := Lib.hid hr
    clear hk hn hr
    go_enter Tryz.func126, Tryz.ntmps126
    go_wp2_with fail
    refine (number_num u 0 false _ (by omega) HN.out).mono ?_; rintro e w1 ⟨rfl, hb1⟩
    go_wp2_with fail
    refine (keyword_any u _).mono ?_; rintro e w2 ⟨rfl, rfl⟩
    rw [HK.out]
    go_wp2_with fail
    refine (right_no u _ (by omega) HR.out).mono ?_; rintro e w3 ⟨rfl, hb3⟩
    go_wp2_with fail
    go_ret
    exact ⟨rfl, hb1.trans (hb3.mono hb1.size)⟩

/-! ### marks -/
/-- The marks of one byte. -/
def oneMarks : List Int := [40, 41, 123, 125, 58, 61, 46, 44, 59, 124, 92]
def MarkOf (t : ByteArray) (n : Int) (u : ByteArray) (m : Nat) : Prop :=
  (n ∈ oneMarks ∧ bytesL u = [n] ∧ m = 1) ∨ (n = 955 ∧ u = ⟨#[92]⟩ ∧ m = 2) ∨ (n = 8594 ∧ u = ⟨#[45, 62]⟩ ∧ m = 3) ∨ (n = 45 ∧ preB t ⟨#[45, 62]⟩ = true ∧ u = ⟨#[45, 62]⟩ ∧ m = 2)
theorem mark_of {t u : ByteArray} {n : Int} {m : Nat} (h : 0 < t.size) (hs : t.size ≤ 65535) (hd : dec (bytesL t) = some n) (hm : MarkOf t n u m) : MarkIs t u m := by
  rcases hm with ⟨hn, hu, rfl⟩ | ⟨rfl, rfl, rfl⟩ | ⟨rfl, rfl, rfl⟩ | ⟨rfl, hp, rfl, rfl⟩
  · simp only [oneMarks, List.mem_cons, List.not_mem_nil, or_false] at hn
    rcases hn with rfl | rfl | rfl | rfl | rfl | rfl | rfl | rfl | rfl | rfl | rfl
    · obtain rfl : u = ⟨#[40]⟩ := bytesL_inj hu
      exact mark_40 h hs hd
    · obtain rfl : u = ⟨#[41]⟩ := bytesL_inj hu
      exact mark_41 h hs hd
    · obtain rfl : u = ⟨#[123]⟩ := bytesL_inj hu
      exact mark_123 h hs hd
    · obtain rfl : u = ⟨#[125]⟩ := bytesL_inj hu
      exact mark_125 h hs hd
    · obtain rfl : u = ⟨#[58]⟩ := bytesL_inj hu
      exact mark_58 h hs hd
    · obtain rfl : u = ⟨#[61]⟩ := bytesL_inj hu
      exact mark_61 h hs hd
    · obtain rfl : u = ⟨#[46]⟩ := bytesL_inj hu
      exact mark_46 h hs hd
    · obtain rfl : u = ⟨#[44]⟩ := bytesL_inj hu
      exact mark_44 h hs hd
    · obtain rfl : u = ⟨#[59]⟩ := bytesL_inj hu
      exact mark_59 h hs hd
    · obtain rfl : u = ⟨#[124]⟩ := bytesL_inj hu
      exact mark_124 h hs hd
    · obtain rfl : u = ⟨#[92]⟩ := bytesL_inj hu
      exact mark_92 h hs hd
  · exact mark_955 h hs hd
  · exact mark_8594 h hs hd
  · exact mark_45 h hs hd hp

def MarkNo (t : ByteArray) : Prop := ∀ w, Calls Tryz.prog 127 #[.string t] w fun e w' => e = .returned (.tuple #[.string ⟨#[]⟩, .int .i64 0]) ∧ Below w.heap.size w w'
theorem mark_minus {t : ByteArray} (h : 0 < t.size) (hs : t.size ≤ 65535) (hd : dec (bytesL t) = some 45) (hp : preB t ⟨#[45, 62]⟩ = false) : MarkNo t := by
  intro w
  have HD := Lib.hid hd
  have HP := Lib.hid hp
  clear hd hp
  go_enter Tryz.func127, Tryz.ntmps127
  go_wp2_with fail
  refine (next_any t 0 _ (by omega) h).mono ?_; rintro e w1 ⟨rfl, hb1⟩
  rw [List.drop_zero, HD.out, nextV_some, wid_1 (by decide)]
  go_wp2_with fail
  refine (pre_any _ _ _).mono ?_; rintro e w' ⟨rfl, rfl⟩
  rw [HP.out]
  go_wp2_with fail
  go_ret2
  exact ⟨rfl, hb1⟩
theorem mark_none {t : ByteArray} (h : 0 < t.size) (hs : t.size ≤ 65535) (hd : dec (bytesL t) = none) : MarkNo t := by
  intro w
  have HD := Lib.hid hd
  clear hd
  go_enter Tryz.func127, Tryz.ntmps127
  go_wp2_with fail
  refine (next_any t 0 _ (by omega) h).mono ?_; rintro e w1 ⟨rfl, hb1⟩
  rw [List.drop_zero, HD.out, nextV]
  go_wp2_with fail
  go_ret2
  exact ⟨rfl, hb1⟩
theorem mark_other {t : ByteArray} {n : Int} (h : 0 < t.size) (hs : t.size ≤ 65535) (hd : dec (bytesL t) = some n) (e955 : (n == 955) = false) (e40 : (n == 40) = false) (e41 : (n == 41) = false) (e123 : (n == 123) = false) (e125 : (n == 125) = false) (e58 : (n == 58) = false) (e61 : (n == 61) = false) (e46 : (n == 46) = false) (e44 : (n == 44) = false) (e59 : (n == 59) = false) (e124 : (n == 124) = false) (e92 : (n == 92) = false) (e45 : (n == 45) = false) (e8594 : (n == 8594) = false) : MarkNo t := by
  intro w
  have HD := Lib.hid hd
  clear hd
  go_enter Tryz.func127, Tryz.ntmps127
  go_wp2_with fail
  refine (next_any t 0 _ (by omega) h).mono ?_; rintro e w1 ⟨rfl, hb1⟩
  rw [List.drop_zero, HD.out, nextV_some]
  go_wp2_with fail
  go_ret2
  exact ⟨rfl, hb1⟩
theorem mark_no {t : ByteArray} {n : Int} (h : 0 < t.size) (hs : t.size ≤ 65535) (hd : dec (bytesL t) = some n) (hr : rightB n = true) (hm : ∀ u m, ¬ MarkOf t n u m) : MarkNo t := by
  by_cases h45 : n = 45
  · subst h45
    refine mark_minus h hs hd ?_
    cases hp : preB t ⟨#[45, 62]⟩ with
    | false => rfl
    | true => exact absurd (.inr (.inr (.inr ⟨rfl, hp, rfl, rfl⟩))) (hm _ _)
  · have hone : n ∉ oneMarks := fun hn => by
      have h127 : 0 ≤ n ∧ n ≤ 127 := by
        simp only [oneMarks, List.mem_cons, List.not_mem_nil, or_false] at hn
        omega
      refine hm (strOfNums [n]) 1 (.inl ⟨hn, bytesL_strOfNums _ (fun x hx => ?_), rfl⟩)
      simp at hx
      omega
    have h955 : n ≠ 955 := fun e => hm _ _ (.inr (.inl ⟨e, rfl, rfl⟩))
    have h8594 : n ≠ 8594 := fun e => hm _ _ (.inr (.inr (.inl ⟨e, rfl, rfl⟩)))
    have hb : ∀ c : Int, n ≠ c → (n == c) = false := fun c hc => by simpa using hc
    simp only [oneMarks, List.mem_cons, List.not_mem_nil, or_false, not_or] at hone
    exact mark_other h hs hd (hb _ h955) (hb _ (by omega)) (hb _ (by omega)) (hb _ (by omega)) (hb _ (by omega)) (hb _ (by omega)) (hb _ (by omega)) (hb _ (by omega)) (hb _ (by omega)) (hb _ (by omega)) (hb _ (by omega)) (hb _ (by omega)) (hb _ h45) (hb _ h8594)

end Go.Proofs.YteaojmcfppbgiaaGreatDoor

/- token.next over any text, at any place; token.All over any text: its tokens, or the first error that shows, and its offset. Nothing that was there is written. -/
namespace Go.Proofs.YteaojmcfppbgiaaGreatDoor
open Go.RowKit
set_option linter.unusedVariables false

/-- The token with which a text begins: its kind, its text, its bytes. -/
def TokOf (t : ByteArray) (k : Int) (u : ByteArray) (m : Nat) : Prop :=
  p2 (bytesL t) 123 45 = false ∧ ∃ n, dec (bytesL t) = some n ∧
    ((withinB n = true ∧ k ≠ 0 ∧ WordOf u k ∧ (∃ ns r, Parse (bytesL t) ns r ∧ u = t.extract 0 (offs ns (lead ns))) ∧ m = u.size) ∨
     (withinB n = false ∧ k = 4 ∧ MarkOf t n u m))

theorem mark_size {t u : ByteArray} {n : Int} {m : Nat} (h : MarkOf t n u m) : 0 < m ∧ m ≤ 4 := by
  rcases h with ⟨_, _, rfl⟩ | ⟨_, _, rfl⟩ | ⟨_, _, rfl⟩ | ⟨_, _, _, rfl⟩ <;> decide

theorem dec_right {t : ByteArray} {n : Int} (h : dec (bytesL t) = some n) : rightB n = true :=
  (sign_of_dec (fun b hb => bytesL_nonneg t b (List.mem_of_mem_head? hb)) h).1

/-- The signs of a text at whose head one is read. -/
theorem parse_head {t : ByteArray} {n : Int} {ns r : List Int} (hd : dec (bytesL t) = some n) (hp : Parse (bytesL t) ns r) : 0 < ns.length ∧ ns.getD 0 0 = n := by
  rcases Nat.eq_zero_or_pos ns.length with h | h
  · have hs := dec_end hp
    rw [h, offs_0, List.drop_zero, hd] at hs
    cases hs
  · have hs := dec_at hp h
    rw [offs_0, List.drop_zero, hd] at hs
    exact ⟨h, (Option.some.inj hs).symm⟩
theorem lead_pos {ns : List Int} (h : 0 < ns.length) (hw : withinB (ns.getD 0 0) = true) : 0 < lead ns := by
  rcases Nat.eq_zero_or_pos (lead ns) with e | e
  · rcases lead_stop ns with h2 | h2
    · omega
    · rw [e, hw] at h2; cases h2
  · exact e
theorem offs_pos {ns : List Int} {j : Nat} (hj : 0 < j) (h : 0 < ns.length) : 0 < offs ns j := by
  match ns, h with
  | n :: ns, _ =>
    match j, hj with
    | j + 1, _ =>
      unfold offs
      rw [List.take_succ_cons]
      show 0 < (encI n ++ encAll (ns.take j)).length
      rw [List.length_append, encI_length]
      have := wid_pos n
      omega
theorem tok_size {t u : ByteArray} {k : Int} {m : Nat} (hs : t.size ≤ 65535) (h : TokOf t k u m) : 0 < m ∧ m ≤ 65535 := by
  obtain ⟨_, n, hd, ⟨hw, _, _, ⟨ns, r, hp, rfl⟩, rfl⟩ | ⟨_, _, hm⟩⟩ := h
  · obtain ⟨h1, h2⟩ := parse_head hd hp
    have h3 := offs_pos (lead_pos h1 (by rw [h2]; exact hw)) h1
    have h4 := offs_le ns (lead ns)
    have h5 := parse_length hp
    rw [bytesL_length] at h5
    have e : (t.extract 0 (offs ns (lead ns))).size = offs ns (lead ns) := by simp; omega
    rw [e]
    omega
  · have := mark_size hm; omega

theorem next_yes (s t u : ByteArray) (a m : Nat) (k : Int) (ha : a < s.size) (hs : s.size ≤ 65535) (ht : s.extract a s.size = t) (h : TokOf t k u m) : NextIs s a k u m := by
  intro w
  have hz : t.size = s.size - a := by rw [← ht]; simp
  have hts : t.size ≤ 65535 := by omega
  have hsz := tok_size hts h
  obtain ⟨hp, n, hd, ⟨hw, hk, hwd, ⟨ns, r, hpar, hu⟩, hm⟩ | ⟨hw, rfl, hm⟩⟩ := h
  · have hr := run_text hts hpar
    rw [← hu] at hr
    refine next_word s t u a m k n w ha hs ht ((pre_p2 t 123 45).trans hp) hd hw hr (word_of (by omega) hwd) hm.symm hsz.1 hsz.2 (by simpa using hk)
  · have hms := mark_size hm
    exact next_mark s t u a m n w ha hs ht ((pre_p2 t 123 45).trans hp) hd hw (mark_of (by omega) hts hd hm) hms.1 hms.2

/-- No token begins there. -/
def NextNo (s : ByteArray) (a : Nat) : Prop := ∀ w, Calls Tryz.prog 85 #[.string s, .int .i64 a] w fun e w' => e = .returned (.tuple #[tokV 0 ⟨#[]⟩ 0, .int .i64 0]) ∧ Below w.heap.size w w'

theorem no_brace (s t : ByteArray) (a : Nat) (ha : a < s.size) (hs : s.size ≤ 65535) (ht : s.extract a s.size = t) (hp : preB t ⟨#[123, 45]⟩ = true) : NextNo s a := by
  intro w
  have hz : t.size = s.size - a := by rw [← ht]; simp
  have ht0 : 0 < t.size := by omega
  have ht1 : t.size ≤ 65535 := by omega
  obtain ⟨d, hd⟩ : ∃ d, dec (bytesL t) = d := ⟨_, rfl⟩
  have HT := Lib.hid ht
  have HP := Lib.hid hp
  have HD := Lib.hid hd
  clear ht hp hd hz
  cases d with
  | none =>
    go_enter Tryz.func85, Tryz.ntmps85
    go_wp2_with fail
    rw [HT.out]
    refine (next_any t 0 _ (by omega) ht0).mono ?_; rintro e w1 ⟨rfl, hb1⟩
    rw [List.drop_zero, HD.out, nextV]
    go_wp2_with fail
    refine (pre_any _ _ _).mono ?_; rintro e w2 ⟨rfl, rfl⟩
    rw [HP.out]
    have hb1' : Below (w.heap.size + 1) (w.alloc (.cells #[.int .i64 0, .string ⟨#[]⟩, .int .i64 0] 143)) w1 := by first | exact hb1 | simpa using hb1
    obtain ⟨⟨q0, q1, q2⟩, ⟨z0, z1, z2⟩, hlt, hB⟩ := tok_cells hb1'
    clear hb1 hb1'
    go_wp2_with fail
    exact bodyPost_ret (v := .tuple #[.agg #[.int .i64 0, .string ⟨#[]⟩, .int .i64 0], .int .i64 0]) (by simp [results, Tryz.results85, go_sem, q0, q1, q2]) rfl
      ⟨rfl, ((hB.setCell (Nat.le_refl _) _).setCell (Nat.le_refl _) _).setCell (Nat.le_refl _) _⟩
  | some n =>
    go_enter Tryz.func85, Tryz.ntmps85
    go_wp2_with fail
    rw [HT.out]
    refine (next_any t 0 _ (by omega) ht0).mono ?_; rintro e w1 ⟨rfl, hb1⟩
    rw [List.drop_zero, HD.out, nextV_some]
    go_wp2_with fail
    refine (pre_any _ _ _).mono ?_; rintro e w2 ⟨rfl, rfl⟩
    rw [HP.out]
    have hb1' : Below (w.heap.size + 1) (w.alloc (.cells #[.int .i64 0, .string ⟨#[]⟩, .int .i64 0] 143)) w1 := by first | exact hb1 | simpa using hb1
    obtain ⟨⟨q0, q1, q2⟩, ⟨z0, z1, z2⟩, hlt, hB⟩ := tok_cells hb1'
    clear hb1 hb1'
    go_wp2_with fail
    exact bodyPost_ret (v := .tuple #[.agg #[.int .i64 0, .string ⟨#[]⟩, .int .i64 0], .int .i64 0]) (by simp [results, Tryz.results85, go_sem, q0, q1, q2]) rfl
      ⟨rfl, ((hB.setCell (Nat.le_refl _) _).setCell (Nat.le_refl _) _).setCell (Nat.le_refl _) _⟩

theorem no_mark (s t : ByteArray) (a : Nat) (n : Int) (W : Int) (ha : a < s.size) (hs : s.size ≤ 65535) (ht : s.extract a s.size = t) (hp : preB t ⟨#[123, 45]⟩ = false) (hd : dec (bytesL t) = some n) (hw : withinB n = false)
    (hm : MarkNo t) : NextNo s a := by
  intro w
  have hz : t.size = s.size - a := by rw [← ht]; simp
  have ht0 : 0 < t.size := by omega
  have ht1 : t.size ≤ 65535 := by omega
  have HT := Lib.hid ht
  have HP := Lib.hid hp
  have HD := Lib.hid hd
  have HW := Lib.hid hw
  have HM := Lib.hid hm
  clear ht hp hd hw hm hz
  go_enter Tryz.func85, Tryz.ntmps85
  go_wp2_with fail
  rw [HT.out]
  refine (next_any t 0 _ (by omega) ht0).mono ?_; rintro e w1 ⟨rfl, hb1⟩
  rw [List.drop_zero, HD.out, nextV_some]
  go_wp2_with fail
  refine (pre_any _ _ _).mono ?_; rintro e w2 ⟨rfl, rfl⟩
  rw [HP.out]
  go_wp2_with fail
  refine (tWithin_any _ _).mono ?_; rintro e w2 ⟨rfl, rfl⟩
  rw [HW.out]
  go_wp2_with fail
  refine (HM.out _).mono ?_; rintro e w2 ⟨rfl, hb2⟩
  have hb1' : Below (w.heap.size + 1) (w.alloc (.cells #[.int .i64 0, .string ⟨#[]⟩, .int .i64 0] 143)) w1 := by first | exact hb1 | simpa using hb1
  have hb3 := hb1'.trans (hb2.mono (by have := hb1'.size; simpa using this))
  obtain ⟨⟨q0, q1, q2⟩, ⟨z0, z1, z2⟩, hlt, hB⟩ := tok_cells hb3
  clear hb1 hb1' hb2 hb3
  go_wp2_with fail
  exact bodyPost_ret (v := .tuple #[.agg #[.int .i64 0, .string ⟨#[]⟩, .int .i64 0], .int .i64 0]) (by simp [results, Tryz.results85, go_sem, q0, q1, q2]) rfl
    ⟨rfl, ((hB.setCell (Nat.le_refl _) _).setCell (Nat.le_refl _) _).setCell (Nat.le_refl _) _⟩

theorem no_sign (s t : ByteArray) (a : Nat) (ha : a < s.size) (hs : s.size ≤ 65535) (ht : s.extract a s.size = t) (hp : preB t ⟨#[123, 45]⟩ = false) (hd : dec (bytesL t) = none)
    (hm : MarkNo t) : NextNo s a := by
  intro w
  have hz : t.size = s.size - a := by rw [← ht]; simp
  have ht0 : 0 < t.size := by omega
  have ht1 : t.size ≤ 65535 := by omega
  have HT := Lib.hid ht
  have HP := Lib.hid hp
  have HD := Lib.hid hd
  have HW : Hid (withinB 0 = false) := Lib.hid (by decide)
  have HM := Lib.hid hm
  clear ht hp hd hm hz
  go_enter Tryz.func85, Tryz.ntmps85
  go_wp2_with fail
  rw [HT.out]
  refine (next_any t 0 _ (by omega) ht0).mono ?_; rintro e w1 ⟨rfl, hb1⟩
  rw [List.drop_zero, HD.out, nextV]
  go_wp2_with fail
  refine (pre_any _ _ _).mono ?_; rintro e w2 ⟨rfl, rfl⟩
  rw [HP.out]
  go_wp2_with fail
  refine (tWithin_any _ _).mono ?_; rintro e w2 ⟨rfl, rfl⟩
  rw [HW.out]
  go_wp2_with fail
  refine (HM.out _).mono ?_; rintro e w2 ⟨rfl, hb2⟩
  have hb1' : Below (w.heap.size + 1) (w.alloc (.cells #[.int .i64 0, .string ⟨#[]⟩, .int .i64 0] 143)) w1 := by first | exact hb1 | simpa using hb1
  have hb3 := hb1'.trans (hb2.mono (by have := hb1'.size; simpa using this))
  obtain ⟨⟨q0, q1, q2⟩, ⟨z0, z1, z2⟩, hlt, hB⟩ := tok_cells hb3
  clear hb1 hb1' hb2 hb3
  go_wp2_with fail
  exact bodyPost_ret (v := .tuple #[.agg #[.int .i64 0, .string ⟨#[]⟩, .int .i64 0], .int .i64 0]) (by simp [results, Tryz.results85, go_sem, q0, q1, q2]) rfl
    ⟨rfl, ((hB.setCell (Nat.le_refl _) _).setCell (Nat.le_refl _) _).setCell (Nat.le_refl _) _⟩

theorem no_word (s t u : ByteArray) (a : Nat) (n : Int) (ha : a < s.size) (hs : s.size ≤ 65535) (ht : s.extract a s.size = t) (hp : preB t ⟨#[123, 45]⟩ = false) (hd : dec (bytesL t) = some n) (hw : withinB n = true)
    (hr : RunIs t u) (hk : WordIs u 0) (hus : u.size ≤ 65535) : NextNo s a := by
  intro w
  have hz : t.size = s.size - a := by rw [← ht]; simp
  have ht0 : 0 < t.size := by omega
  have ht1 : t.size ≤ 65535 := by omega
  have HT := Lib.hid ht
  have HP := Lib.hid hp
  have HD := Lib.hid hd
  have HW := Lib.hid hw
  have HR := Lib.hid hr
  have HK := Lib.hid hk
  clear ht hp hd hw hr hk hz
  go_enter Tryz.func85, Tryz.ntmps85
  go_wp2_with fail
  rw [HT.out]
  refine (next_any t 0 _ (by omega) ht0).mono ?_; rintro e w1 ⟨rfl, hb1⟩
  rw [List.drop_zero, HD.out, nextV_some]
  go_wp2_with fail
  refine (pre_any _ _ _).mono ?_; rintro e w2 ⟨rfl, rfl⟩
  rw [HP.out]
  go_wp2_with fail
  refine (tWithin_any _ _).mono ?_; rintro e w2 ⟨rfl, rfl⟩
  rw [HW.out]
  go_wp2_with fail
  refine (HR.out _).mono ?_; rintro e w2 ⟨rfl, hb2⟩
  go_wp2_with fail
  refine (HK.out _).mono ?_; rintro e w3 ⟨rfl, hb3⟩
  have hb1' : Below (w.heap.size + 1) (w.alloc (.cells #[.int .i64 0, .string ⟨#[]⟩, .int .i64 0] 143)) w1 := by first | exact hb1 | simpa using hb1
  have hb4 := hb1'.trans (hb2.mono (by have := hb1'.size; simpa using this))
  have hb5 := hb4.trans (hb3.mono (by have := hb4.size; simpa using this))
  obtain ⟨⟨q0, q1, q2⟩, ⟨z0, z1, z2⟩, hlt, hB⟩ := tok_cells hb5
  clear hb1 hb1' hb2 hb3 hb4 hb5
  go_wp2_with fail
  exact bodyPost_ret (v := .tuple #[.agg #[.int .i64 0, .string ⟨#[]⟩, .int .i64 0], .int .i64 0]) (by simp [results, Tryz.results85, go_sem, q0, q1, q2]) rfl
    ⟨rfl, ((hB.setCell (Nat.le_refl _) _).setCell (Nat.le_refl _) _).setCell (Nat.le_refl _) _⟩

theorem next_no (s t : ByteArray) (a : Nat) (ha : a < s.size) (hs : s.size ≤ 65535) (ht : s.extract a s.size = t) (h : ∀ k u m, ¬ TokOf t k u m) : NextNo s a := by
  have hz : t.size = s.size - a := by rw [← ht]; simp
  have hts : t.size ≤ 65535 := by omega
  have ht0 : 0 < t.size := by omega
  have hpp := pre_p2 t 123 45
  cases hp : preB t ⟨#[123, 45]⟩ with
  | true => exact no_brace s t a ha hs ht hp
  | false =>
    have hp2 : p2 (bytesL t) 123 45 = false := hpp.symm.trans hp
    cases hd : dec (bytesL t) with
    | none => exact no_sign s t a ha hs ht hp hd (mark_none ht0 hts hd)
    | some n =>
      cases hw : withinB n with
      | true =>
        obtain ⟨ns, r, hpar⟩ := parse_str t
        have hr := run_text hts hpar
        obtain ⟨u, hu⟩ : ∃ u, t.extract 0 (offs ns (lead ns)) = u := ⟨_, rfl⟩
        rw [hu] at hr
        have hus : u.size ≤ 65535 := by rw [← hu]; simp; omega
        obtain ⟨k, hk⟩ := wordOf_ex u
        by_cases hk0 : k = 0
        · subst hk0
          exact no_word s t u a n ha hs ht hp hd hw hr (word_of hus hk) hus
        · exact absurd ⟨hp2, n, hd, .inl ⟨hw, hk0, hk, ⟨ns, r, hpar, hu.symm⟩, rfl⟩⟩ (h k u u.size)
      | false => exact no_mark s t a n 0 ha hs ht hp hd hw (mark_no ht0 hts hd (dec_right hd) (fun u m hm => h 4 u m ⟨hp2, n, hd, .inr ⟨hw, rfl, hm⟩⟩))

end Go.Proofs.YteaojmcfppbgiaaGreatDoor

/- token.All over any text: its tokens, or the first error that shows, and its offset. Nothing that was there is written. -/
namespace Go.Proofs.YteaojmcfppbgiaaGreatDoor
open Go.RowKit
set_option linter.unusedVariables false

theorem dec_wid {t : ByteArray} {n : Int} (h : dec (bytesL t) = some n) : wid n ≤ t.size := by
  obtain ⟨_, q, e⟩ := sign_of_dec (fun b hb => bytesL_nonneg t b (List.mem_of_mem_head? hb)) h
  have h1 := congrArg List.length e
  rw [List.length_append, encI_length, bytesL_length] at h1
  omega
theorem tok_fits {t u : ByteArray} {k : Int} {m : Nat} (h : TokOf t k u m) : m ≤ t.size := by
  obtain ⟨_, n, hd, ⟨hw, _, _, ⟨ns, r, hp, rfl⟩, rfl⟩ | ⟨_, _, hm⟩⟩ := h
  · simp; omega
  · have hwd := dec_wid hd
    have h1 := wid_pos n
    rcases hm with ⟨_, _, rfl⟩ | ⟨rfl, _, rfl⟩ | ⟨rfl, _, rfl⟩ | ⟨_, hp, _, rfl⟩
    · omega
    · exact hwd
    · exact hwd
    · rw [pre_p2] at hp
      obtain ⟨q, e⟩ := p2_cases hp
      have h1 := congrArg List.length e
      rw [bytesL_length] at h1
      simp at h1
      omega

/-- The tokens from a place on, c being those ahead; where it stops, and with which error. -/
inductive Lex (s : ByteArray) : Nat → Nat → List (Int × ByteArray × Nat) → Nat → Int → Prop
  | done {a c : Nat} : a = s.size → Lex s a c [] a 0
  | long {a c : Nat} : a < s.size → c = 8192 → Lex s a c [] a 2
  | form {a c : Nat} : a < s.size → c ≠ 8192 → (∀ k u m, ¬ TokOf (s.extract a s.size) k u m) → Lex s a c [] a 1
  | tok {a c m : Nat} {k : Int} {u : ByteArray} {l : List (Int × ByteArray × Nat)} {stop : Nat} {e : Int} : a < s.size → c ≠ 8192 → TokOf (s.extract a s.size) k u m →
      Lex s (a + m + skipL ((bytesL s).drop (a + m))) (c + 1) l stop e → Lex s a c ((k, u, a) :: l) stop e

theorem lex_err {s : ByteArray} {a c stop : Nat} {l : List (Int × ByteArray × Nat)} {e : Int} (h : Lex s a c l stop e) : (e = 0 ∧ stop = s.size) ∨ e = 1 ∨ e = 2 := by
  induction h with
  | done h => exact .inl ⟨rfl, h⟩
  | long _ _ => exact .inr (.inr rfl)
  | form _ _ _ => exact .inr (.inl rfl)
  | tok _ _ _ _ ih => exact ih

theorem lex_inv {s : ByteArray} {a c stop : Nat} {l : List (Int × ByteArray × Nat)} {e : Int} (h : Lex s a c l stop e) :
    (a = s.size ∧ l = [] ∧ stop = s.size ∧ e = 0) ∨ (a < s.size ∧ c = 8192 ∧ l = [] ∧ a = stop ∧ e = 2) ∨ (a < s.size ∧ c ≠ 8192 ∧ (∀ k u m, ¬ TokOf (s.extract a s.size) k u m) ∧ l = [] ∧ a = stop ∧ e = 1) ∨
    (∃ m k u l', a < s.size ∧ c ≠ 8192 ∧ TokOf (s.extract a s.size) k u m ∧ l = (k, u, a) :: l' ∧ Lex s (a + m + skipL ((bytesL s).drop (a + m))) (c + 1) l' stop e) := by
  cases h with
  | done h => exact .inl ⟨h, rfl, h, rfl⟩
  | long h1 h2 => exact .inr (.inl ⟨h1, h2, rfl, rfl, rfl⟩)
  | form h1 h2 h3 => exact .inr (.inr (.inl ⟨h1, h2, h3, rfl, rfl, rfl⟩))
  | tok h1 h2 h3 h4 => exact .inr (.inr (.inr ⟨_, _, _, _, h1, h2, h3, rfl, h4⟩))

/-- Tokens as the cells of a row. -/
def cellsL : List (Int × ByteArray × Nat) → List Value
  | [] => []
  | (k, u, a) :: l => .int .i64 k :: .string u :: .int .i64 a :: cellsL l
theorem cellsL_append : ∀ (l r : List (Int × ByteArray × Nat)), cellsL (l ++ r) = cellsL l ++ cellsL r
  | [], r => rfl
  | (k, u, a) :: l, r => by rw [List.cons_append, cellsL, cellsL, cellsL_append l r]; rfl

/-- What token.All hands back: a row of the tokens, the end behind; or no row, and an error. -/
def AllOut (w w' : World) (v : Value) (l : List (Int × ByteArray × Nat)) (n : Nat) (E : Int) : Prop :=
  (E = 0 → w'.ownsRow w.heap.size 143 3 v (l.length + 1) (cellsL l ++ [.int .i64 5, .string ⟨#[]⟩, .int .i64 n])) ∧ (E ≠ 0 → v = .slice none 0 0)

set_option maxHeartbeats 1600000 in
theorem tokAll_any (s : ByteArray) (ns : List Int) (w : World) (l : List (Int × ByteArray × Nat)) (stop : Nat) (E : Int) (hs : s.size ≤ 65535) (hp : Parse (bytesL s) ns []) (hlex : Lex s (skipL (bytesL s)) 0 l stop E) :
    Calls Tryz.prog 46 #[.string s] w fun e w' => ∃ v, e = .returned (.tuple #[v, .int .i64 stop, .int .i64 E]) ∧
      AllOut w w' v l s.size E ∧ Below w.heap.size w w' := by
  obtain ⟨i0, hi, hz0, hz1, hz2⟩ := info_parts infoTok
  have HP := Lib.hid hp
  have hsk := skip_any s 0 (Nat.zero_le _) hs
  rw [List.drop_zero, Nat.zero_add] at hsk
  have hskl := skipL_le (bytesL s)
  rw [bytesL_length] at hskl
  obtain ⟨p0, hp0⟩ : ∃ p, skipL (bytesL s) = p := ⟨_, rfl⟩
  rw [hp0] at hsk hlex hskl
  have H0 := Lib.hid hsk
  have HX := Lib.hid hlex
  clear hp hsk hlex hp0
  go_enter Tryz.func46, Tryz.ntmps46
  go_wp2_with fail
  refine (all_ok s ns _ hs HP.out).mono ?_; rintro e w1 ⟨v1, rfl, -, hb1⟩
  have hsz1 := hb1.size
  go_wp2_with fail
  refine (H0.out _).mono ?_; rintro e w2 ⟨rfl, hb2⟩
  have hb12 := hb1.trans (hb2.mono hsz1)
  clear hb1 hb2 hsz1
  go_wp2_with fail
  go_loopw [8, 9] (fun v q wr => ∃ (a : Nat) (pre rest : List (Int × ByteArray × Nat)), a ≤ s.size ∧ pre.length ≤ 8192 ∧ q = .int .i64 a ∧ Hid (l = pre ++ rest) ∧ Hid (Lex s a pre.length rest stop E) ∧ wr.ownsRow w.heap.size 143 3 v pre.length (cellsL pre) ∧ Below w.heap.size w wr)
    (fun _ q _ => s.size - (intOf q).toNat)
  case atStart => exact ⟨p0, [], l, hskl, Nat.zero_le _, rfl, Lib.hid rfl, HX, World.ownsRow_nil _ _ _ _, hb12⟩
  case round =>
    clear hskl HX H0 hb12
    obtain ⟨a, pre, rest, ha, hpl, rfl, HL, HX, hown, hB⟩ := hrel
    have hsize := hB.size
    obtain ⟨a1, c1, rfl⟩ := own_shapeN hown
    obtain ⟨c, hc⟩ : ∃ c, pre.length = c := ⟨_, rfl⟩
    rw [hc] at hpl HX hown ⊢
    have HC := Lib.hid hc
    clear hc
    have hinv := lex_inv HX.out
    have HI := Lib.hid hinv
    clear hinv
    rcases HI.out with ⟨h, rfl, h2, rfl⟩ | ⟨h1, h2, rfl, rfl, rfl⟩ | ⟨h1, h2, h3, rfl, rfl, rfl⟩ | ⟨m, d, u, rest', h1, h2, h3, rfl, h4⟩
    · clear HI
      subst h2
      subst h
      have hd : decide ((s.size : Int) < (s.size : Int)) = false := decide_eq_false (by omega)
      have HF : Hid (l = pre) := Lib.hid (by rw [HL.out, List.append_nil])
      clear HL HX
      go_wp2_with (at_builtin; refine wpList_append_own _ rfl _ _ 90 rfl w.heap.size 143 i0 (.agg #[.int .i64 0, .string ⟨#[]⟩, .int .i64 0]) 3 32 Tryz.underlying90 hi hz0 hz1 hz2 rfl (by decide) _ _ _ rfl (hown.alloc _) ⟨wr.heap.size, 0, none⟩ 1 1 [.int .i64 5, .string ⟨#[]⟩, .int .i64 s.size] rfl rfl ?c1 ?c2 ?c3 ?c4 ?c5 ?_)
      case c1 => exact cells3_at _ _ _ _ _ _ (by simp)
      case c2 => exact cells3_one _ _ _
      case c3 => unfold maxLen; omega
      case c4 => omega
      case c5 => simp; omega
      intro v2 w3 hown3 hg3 _
      have hB3 := below_append (hB.alloc hsize _) (hown.alloc _) hg3 (by simp; omega)
      clear hg3 hown
      go_wp2_with fail
      go_ret3
      exact ⟨_, rfl, ⟨fun _ => by rw [HF.out, HC.out]; exact hown3, fun h => absurd rfl h⟩, hB3⟩
    · subst h2
      clear HL HX hown HI
      go_wp2_with fail
      go_ret3
      exact ⟨_, rfl, ⟨fun h => absurd h (by decide), fun _ => rfl⟩, hB⟩
    · have hn := next_no s _ a h1 hs rfl h3
      have HN := Lib.hid hn
      have hd : ((c : Int) == 8192) = false := by simp; omega
      clear HL HX hown hn h3 HI
      go_wp2_with fail
      refine (HN.out _).mono ?_; rintro e w2 ⟨rfl, hb2⟩
      rw [tokV]
      go_wp2_with fail
      go_ret3
      exact ⟨_, rfl, ⟨fun h => absurd h (by decide), fun _ => rfl⟩, (hB.trans (hb2.mono hsize)).alloc (by have := hb2.size; omega) _⟩
    · have hn := next_yes s _ u a m d h1 hs rfl h3
      have hfit := tok_fits h3
      have hz : (s.extract a s.size).size = s.size - a := by simp
      have hms := tok_size (by omega) h3
      have ham : a + m ≤ s.size := by omega
      have hsk := skip_any s (a + m) ham hs
      have hskl := skipL_le ((bytesL s).drop (a + m))
      rw [List.length_drop, bytesL_length] at hskl
      obtain ⟨q2, hq2⟩ : ∃ q2, a + m + skipL ((bytesL s).drop (a + m)) = q2 := ⟨_, rfl⟩
      rw [hq2] at hsk h4
      have hq2s : q2 ≤ s.size := by omega
      have hq2a : a + m ≤ q2 := by omega
      have hm0 := hms.1
      have HL' : Hid (l = (pre ++ [(d, u, a)]) ++ rest') := Lib.hid (by rw [HL.out]; simp)
      have HC' : Hid ((pre ++ [(d, u, a)]).length = c + 1) := Lib.hid (by rw [List.length_append, HC.out]; rfl)
      have HX' : Hid (Lex s q2 (pre ++ [(d, u, a)]).length rest' stop E) := Lib.hid (by rw [HC'.out]; exact h4)
      have HCS : Hid (cellsL (pre ++ [(d, u, a)]) = cellsL pre ++ [.int .i64 d, .string u, .int .i64 a]) := Lib.hid (cellsL_append _ _)
      have HN := Lib.hid hn
      have HS := Lib.hid hsk
      have HO := Lib.hid hown
      have hd : ((c : Int) == 8192) = false := by simp; omega
      have tm : ((m : Int) == 0) = false := by simp; omega
      clear HL HX HI hn hsk hown h3 h4 hq2 hskl hz hfit hms
      go_wp2_with fail
      refine (HN.out _).mono ?_; rintro e w2 ⟨rfl, hb2⟩
      rw [tokV]
      have hown2 := own_below HO.out hb2
      have hB2 := hB.trans (hb2.mono hsize)
      have hsz2 := hB2.size
      clear HO
      go_wp2_with (at_builtin; refine wpList_append_own _ rfl _ _ 90 rfl w.heap.size 143 i0 (.agg #[.int .i64 0, .string ⟨#[]⟩, .int .i64 0]) 3 32 Tryz.underlying90 hi hz0 hz1 hz2 rfl (by decide) _ _ _ rfl ((hown2.alloc _).alloc _) ⟨w2.heap.size + 1, 0, none⟩ 1 1 [.int .i64 d, .string u, .int .i64 a] rfl rfl ?c1 ?c2 ?c3 ?c4 ?c5 ?_)
      case c1 => exact cells3_at _ _ _ _ _ _ (by simp)
      case c2 => exact cells3_one _ _ _
      case c3 => unfold maxLen; omega
      case c4 => omega
      case c5 => simp; omega
      intro v2 w3 hown3 hg3 _
      have hB3 := below_append ((hB2.alloc hsz2 _).alloc (by simp; omega) _) ((hown2.alloc _).alloc _) hg3 (by simp; omega)
      have hB3' := Lib.hid hB3
      have HO3 := Lib.hid hown3
      clear hg3 hown2 hown3 hB3
      go_wp2_with fail
      refine (HS.out _).mono ?_; rintro e w4 ⟨rfl, hb4⟩
      go_wp2_with fail
      go_roundw
      case rel => exact ⟨q2, pre ++ [(d, u, a)], rest', hq2s, by rw [HC'.out]; omega, rfl, HL', HX', by rw [HC'.out, HCS.out]; exact own_below HO3.out hb4, hB3'.out.trans (hb4.mono hB3'.out.size)⟩
      case measure => simp [intOf]; omega

end Go.Proofs.YteaojmcfppbgiaaGreatDoor

/- A token's text, with a blank behind it, is that token again; blanks and remarks between tokens are skipped. No walk. -/
namespace Go.Proofs.YteaojmcfppbgiaaGreatDoor
open Go.RowKit
set_option linter.unusedVariables false
set_option maxRecDepth 100000

theorem lead_app {ms rs : List Int} (h : ∀ i, i < ms.length → withinB (ms.getD i 0) = true) (h0 : withinB (rs.getD 0 0) = false) : lead (ms ++ rs) = ms.length := by
  induction ms with
  | nil =>
    rw [List.nil_append]
    unfold lead
    cases rs with
    | nil => rfl
    | cons r rs => rw [List.takeWhile_cons]; simp only [List.getD_cons_zero] at h0; rw [h0]; rfl
  | cons m ms ih =>
    have hm := h 0 (by simp)
    simp only [List.getD_cons_zero] at hm
    have := ih (fun i hi => by have := h (i + 1) (by simp; omega); simpa using this)
    unfold lead at this ⊢
    rw [List.cons_append, List.takeWhile_cons, hm]
    simp [this]
theorem parse_nil_head {l rs r : List Int} {b : Int} {q : List Int} (hl : l = b :: q) (hb : b < 128) (hp : Parse l rs r) : 0 < rs.length ∧ rs.getD 0 0 = b := by
  have hd : dec l = some b := by rw [hl]; exact dec_1 hb
  rcases Nat.eq_zero_or_pos rs.length with h | h
  · have := dec_end hp
    rw [h, offs_0, List.drop_zero, hd] at this; cases this
  · have := dec_at hp h
    rw [offs_0, List.drop_zero, hd] at this
    exact ⟨h, (Option.some.inj this).symm⟩
theorem within_mark {n : Int} (h : n ∈ oneMarks) : n < 128 ∧ n ≠ 45 ∧ n ≠ 32 ∧ blankB n = false := by
  simp only [oneMarks, List.mem_cons, List.not_mem_nil, or_false] at h
  rcases h with rfl | rfl | rfl | rfl | rfl | rfl | rfl | rfl | rfl | rfl | rfl <;> decide
theorem p2_false_of {l : List Int} {n : Int} (hd : dec l = some n) (hn : n ≠ 123) : p2 l 123 45 = false := by
  cases h : p2 l 123 45 with
  | false => rfl
  | true =>
    obtain ⟨q, rfl⟩ := p2_cases h
    rw [dec_1 (by omega)] at hd
    exact absurd (Option.some.inj hd).symm hn

/-- A token begins with no blank and no remark. -/
theorem tok_gap {t u : ByteArray} {k : Int} {m : Nat} (h : TokOf t k u m) : gapL (bytesL t) = 0 := by
  obtain ⟨hp, n, hd, hc⟩ := h
  cases hl : bytesL t with
  | nil => rfl
  | cons x q =>
    rw [hl] at hp hd
    rw [gapL_cons, hp]
    have hx : blankB x = false ∧ p2 (x :: q) 45 45 = false := by
      by_cases h128 : x < 128
      · rw [dec_1 h128] at hd
        have hxn := Option.some.inj hd
        subst hxn
        rcases hc with ⟨hw, _⟩ | ⟨_, _, hm⟩
        · refine ⟨?_, ?_⟩
          · cases hb : blankB x with
            | false => rfl
            | true =>
              unfold blankB at hb
              simp only [Bool.or_eq_true, decide_eq_true_eq] at hb
              rcases hb with rfl | rfl | rfl | rfl <;> exact absurd hw (by decide)
          · cases h2 : p2 (x :: q) 45 45 with
            | false => rfl
            | true =>
              obtain ⟨q2, e2⟩ := p2_cases h2
              injection e2 with e2 _
              rw [e2] at hw; exact absurd hw (by decide)
        · rcases hm with ⟨hn, _, _⟩ | ⟨h9, _⟩ | ⟨h9, _⟩ | ⟨h9, hpre, _⟩
          · obtain ⟨_, z2, _, z4⟩ := within_mark hn
            refine ⟨z4, ?_⟩
            cases h2 : p2 (x :: q) 45 45 with
            | false => rfl
            | true =>
              obtain ⟨q2, e2⟩ := p2_cases h2
              injection e2 with e2 _
              exact absurd e2 z2
          · omega
          · omega
          · rw [pre_p2, hl] at hpre
            obtain ⟨q2, e2⟩ := p2_cases hpre
            subst h9
            refine ⟨by decide, ?_⟩
            injection e2 with _ e3
            rw [e3]; simp [p2]
      · refine ⟨?_, ?_⟩
        · cases hb : blankB x with
          | false => rfl
          | true =>
            unfold blankB at hb
            simp only [Bool.or_eq_true, decide_eq_true_eq] at hb
            omega
        · cases h2 : p2 (x :: q) 45 45 with
          | false => rfl
          | true =>
            obtain ⟨q2, e2⟩ := p2_cases h2
            injection e2 with e2 _
            omega
    rw [hx.1, hx.2]
    rfl
end Go.Proofs.YteaojmcfppbgiaaGreatDoor
