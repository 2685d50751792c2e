/- Plain facts on names and numbers behind them: decimal digits, where the digits at a text's end begin, how many signs have room, which name is fresh. No program. -/
import Derived.Test.YtkccjfbgepmfkaaA1
import Derived.Test.YtkccjfbgepmfkaaA3
import Derived.Lib.ItoaNum
import Derived.Lib.SlTrimSet
import Derived.Lib.Bits
import Derived.Test.YtkccjfbgepmfkaaA2
import Derived.LoopTactic
import Derived.Laws.RangeAny
import Derived.Lib.Hide
import Derived.Test.YtkccjfbgepmfkaaLib
import Derived.ProofKit
import Derived.Lib.LastIndexByte
namespace Go.Proofs.Ytkccjfbgepmfkaa
open Go.RowKit
set_option linter.unusedVariables false

/-! ### decimal digits -/
/-- A number's decimal digits, as bytes. -/
def digs (i : Nat) : List Int := (Lib.decDigits i).map fun b => (b.toNat : Int)
theorem digs_small {i : Nat} (h : i < 10) : digs i = [((48 + i : Nat) : Int)] := by
  unfold digs
  rw [Lib.decDigits_one h]
  simp
  omega
theorem digs_big {i : Nat} (h : ¬ i < 10) : digs i = digs (i / 10) ++ [((48 + i % 10 : Nat) : Int)] := by
  unfold digs
  rw [Lib.decDigits, dif_neg h]
  simp
  omega
theorem digs_length (i : Nat) : (digs i).length = Lib.nDigits i := by unfold digs; rw [List.length_map, Lib.decDigits_length]
theorem digs_pos (i : Nat) : 1 ≤ (digs i).length := by
  by_cases h : i < 10
  · rw [digs_small h]; exact Nat.le_refl _
  · rw [digs_big h]; simp
theorem digs_lt (k : Nat) : ∀ i, i < 10 ^ (k + 1) → (digs i).length ≤ k + 1 := by
  induction k with
  | zero => intro i h; rw [digs_small (by simpa using h)]; simp
  | succ k ih =>
    intro i h
    by_cases h1 : i < 10
    · rw [digs_small h1]; simp
    · rw [digs_big h1, List.length_append]
      have := ih (i / 10) (by rw [Nat.pow_succ] at h; omega)
      simp; omega
theorem digs_4 {i : Nat} (h : i < 10000) : (digs i).length ≤ 4 := digs_lt 3 i h
theorem digs_range (k : Nat) : ∀ i, i < k → ∀ x ∈ digs i, 48 ≤ x ∧ x ≤ 57 := by
  induction k with
  | zero => intro i h; omega
  | succ k ih =>
    intro i hi x hx
    by_cases h1 : i < 10
    · rw [digs_small h1] at hx; simp at hx; omega
    · rw [digs_big h1] at hx
      rcases List.mem_append.1 hx with h | h
      · exact ih (i / 10) (by omega) x h
      · simp at h; omega
theorem digs_mem {i : Nat} {x : Int} (h : x ∈ digs i) : 48 ≤ x ∧ x ≤ 57 := digs_range (i + 1) i (by omega) x h
/-- What digits say. -/
def valL (l : List Int) : Int := l.foldl (fun v x => 10 * v + (x - 48)) 0
theorem valL_snoc (l : List Int) (x : Int) : valL (l ++ [x]) = 10 * valL l + (x - 48) := by unfold valL; rw [List.foldl_append]; rfl
theorem val_digs' (k : Nat) : ∀ i, i < k → valL (digs i) = i := by
  induction k with
  | zero => intro i h; omega
  | succ k ih =>
    intro i hi
    by_cases h1 : i < 10
    · rw [digs_small h1]; unfold valL; simp; omega
    · rw [digs_big h1, valL_snoc, ih (i / 10) (by omega)]; omega
theorem digs_inj {i j : Nat} (h : digs i = digs j) : i = j := by
  have a := val_digs' (i + 1) i (by omega)
  have b := val_digs' (j + 1) j (by omega)
  rw [h] at a
  omega
theorem digs_len_eq {k i : Nat} (h1 : 10 ^ k ≤ i) (h2 : i < 10 ^ (k + 1)) : (digs i).length = k + 1 := by rw [digs_length, Lib.nDigits_unique k i h1 h2]

/-! ### where the digits at the end begin -/
theorem dig_contains (b : UInt8) : ([48, 49, 50, 51, 52, 53, 54, 55, 56, 57] : List UInt8).contains b = digitB (b.toNat : Int) := by
  have h : ∀ n : Fin 256, ([48, 49, 50, 51, 52, 53, 54, 55, 56, 57] : List UInt8).contains (UInt8.ofNat n.val) = digitB (n.val : Int) := by decide +kernel
  have := h ⟨b.toNat, b.toNat_lt⟩
  simpa using this

/-- Behind the first k bytes are digits alone, and these end in none. -/
structure IsStem (l : List Int) (k : Nat) : Prop where
  le : k ≤ l.length
  tail : ∀ j, k ≤ j → j < l.length → digitB (l.getD j 0) = true
  stop : k = 0 ∨ digitB (l.getD (k - 1) 0) = false
theorem stem_unique {l : List Int} {a b : Nat} (h : IsStem l a) (k : IsStem l b) : a = b := by
  rcases Nat.lt_trichotomy a b with e | e | e
  · rcases k.stop with s | s
    · omega
    · rw [h.tail (b - 1) (by omega) (by have := k.le; omega)] at s; cases s
  · exact e
  · rcases h.stop with s | s
    · omega
    · rw [k.tail (a - 1) (by omega) (by have := h.le; omega)] at s; cases s

/-- How many signs stand ahead of the digits at the end. -/
def downD (ns : List Int) : Nat → Nat
  | 0 => 0
  | j + 1 => if digitB (ns.getD j 0) then downD ns j else j + 1
theorem downD_le (ns : List Int) : ∀ j, downD ns j ≤ j
  | 0 => Nat.le_refl _
  | j + 1 => by have := downD_le ns j; unfold downD; split <;> omega
theorem downD_tail (ns : List Int) : ∀ j i, downD ns j ≤ i → i < j → digitB (ns.getD i 0) = true
  | 0, i, _, h => absurd h (Nat.not_lt_zero i)
  | j + 1, i, h1, h2 => by
    unfold downD at h1
    split at h1
    · rename_i hd
      by_cases hij : i = j
      · subst hij; exact hd
      · exact downD_tail ns j i h1 (by omega)
    · omega
theorem downD_stop (ns : List Int) : ∀ j, downD ns j = 0 ∨ digitB (ns.getD (downD ns j - 1) 0) = false
  | 0 => .inl rfl
  | j + 1 => by
    unfold downD
    split
    · exact downD_stop ns j
    · rename_i hd
      right
      simpa using hd
def stemJ (ns : List Int) : Nat := downD ns ns.length
/-- The signs ahead of the digits at the end. -/
def base (ns : List Int) : List Int := ns.take (stemJ ns)
theorem stemJ_le (ns : List Int) : stemJ ns ≤ ns.length := downD_le ns ns.length

theorem encAll_mem {l : List Int} {x : Int} (h : x ∈ encAll l) : ∃ n ∈ l, x ∈ encI n := by
  induction l with
  | nil => cases h
  | cons n l ih =>
    rcases List.mem_append.1 h with h | h
    · exact ⟨n, List.mem_cons_self .., h⟩
    · obtain ⟨m, hm, hx⟩ := ih h
      exact ⟨m, List.mem_cons_of_mem _ hm, hx⟩
theorem encAll_split (ns : List Int) (j : Nat) : encAll ns = encAll (ns.take j) ++ encAll (ns.drop j) := by rw [← encAll_append, List.take_append_drop]
theorem offs_take (ns : List Int) (j : Nat) : (encAll ns).take (offs ns j) = encAll (ns.take j) := by
  rw [encAll_split ns j]
  exact List.take_left
theorem getD_append_left {a b : List Int} {i : Nat} (h : i < a.length) : (a ++ b).getD i 0 = a.getD i 0 := by
  rw [List.getD, List.getElem?_append_left h]; rfl
theorem getD_append_right {a b : List Int} {i : Nat} (h : a.length ≤ i) : (a ++ b).getD i 0 = b.getD (i - a.length) 0 := by
  rw [List.getD, List.getElem?_append_right h]; rfl
/-- The last byte of a sign that is no digit is none. -/
theorem last_byte {n : Int} (hr : rightB n = true) (hd : digitB n = false) : digitB ((encI n).getD (wid n - 1) 0) = false := by
  obtain ⟨h0, h1, _⟩ := rightB_true.1 hr
  by_cases a1 : n ≤ 127
  · rw [encI_1 a1]; unfold wid; rw [if_pos a1]; exact hd
  · have hh : ∀ x : Int, 128 ≤ x → digitB x = false := fun x hx => by
      cases e : digitB x with
      | false => rfl
      | true => have := digit_cases.1 e; omega
    by_cases a2 : n ≤ 2047
    · rw [encI_2 (by omega) a2, wid_2 (by omega) a2]; exact hh (128 + n % 64) (by omega)
    · by_cases a3 : n ≤ 65535
      · rw [encI_3 (by omega) a3, wid_3 (by omega) a3]; exact hh (128 + n % 64) (by omega)
      · rw [encI_4 (by omega), wid_4 (by omega)]; exact hh (128 + n % 64) (by omega)
theorem wid_pos' (n : Int) : 1 ≤ wid n ∧ wid n ≤ 4 := by unfold wid; (repeat' split) <;> omega
theorem stem_base (ns : List Int) (hr : ∀ n ∈ ns, rightB n = true) : IsStem (encAll ns) (offs ns (stemJ ns)) := by
  have hle := stemJ_le ns
  refine ⟨offs_le ns _, fun j h1 h2 => ?_, ?_⟩
  · have e := encAll_split ns (stemJ ns)
    rw [e] at h2 ⊢
    rw [getD_append_right h1]
    have hlt : j - (encAll (ns.take (stemJ ns))).length < (encAll (ns.drop (stemJ ns))).length := by
      rw [List.length_append] at h2; unfold offs at h1; omega
    have hmem : (encAll (ns.drop (stemJ ns))).getD (j - (encAll (ns.take (stemJ ns))).length) 0 ∈ encAll (ns.drop (stemJ ns)) := by
      rw [List.getD, List.getElem?_eq_getElem hlt]; exact List.getElem_mem hlt
    obtain ⟨m, hm, hx⟩ := encAll_mem hmem
    obtain ⟨i, hi, rfl⟩ := List.getElem_of_mem hm
    rw [List.length_drop] at hi
    rw [List.getElem_drop] at hx
    have hdig := downD_tail ns ns.length (stemJ ns + i) (by unfold stemJ; omega) (by omega)
    rw [List.getD, List.getElem?_eq_getElem (by omega : stemJ ns + i < ns.length), Option.getD_some] at hdig
    have hb := digit_cases.1 hdig
    rw [encI_1 (by omega), List.mem_singleton] at hx
    rw [hx]; exact hdig
  · rcases downD_stop ns ns.length with h | h
    · left
      have : stemJ ns = 0 := h
      rw [this, offs_0]
    · right
      have hs : digitB (ns.getD (stemJ ns - 1) 0) = false := h
      by_cases h0 : stemJ ns = 0
      · rw [h0] at hs ⊢
        rw [offs_0]
        by_cases hn : ns = []
        · subst hn; rfl
        · have hl : 0 < ns.length := List.length_pos_iff.2 hn
          match ns, hl, hs, hr with
          | n :: r, _, hs, hr =>
            have hrn := hr n (List.mem_cons_self ..)
            have hsn : digitB n = false := hs
            have hh : ∀ x : Int, 128 ≤ x → digitB x = false := fun x hx => by
              cases e : digitB x with
              | false => rfl
              | true => have := digit_cases.1 e; omega
            show digitB ((encI n ++ encAll r).getD 0 0) = false
            have hw := encI_length n
            have hw1 := wid_pos' n
            rw [getD_append_left (by omega)]
            by_cases a1 : n ≤ 127
            · rw [encI_1 a1]; exact hsn
            · by_cases a2 : n ≤ 2047
              · rw [encI_2 (by omega) a2]; exact hh (192 + n / 64) (by omega)
              · have := (rightB_true.1 hrn).2.1
                by_cases a3 : n ≤ 65535
                · rw [encI_3 (by omega) a3]; exact hh (224 + n / 64 / 64) (by omega)
                · rw [encI_4 (by omega)]; exact hh (240 + n / 64 / 64 / 64) (by omega)
      · obtain ⟨k, hk⟩ : ∃ k, stemJ ns = k + 1 := ⟨stemJ ns - 1, by omega⟩
        rw [hk] at hs hle ⊢
        rw [Nat.add_sub_cancel] at hs
        have hkl : k < ns.length := by omega
        have hw := wid_pos' (ns.getD k 0)
        rw [offs_succ ns k hkl]
        have e := encAll_split ns k
        rw [drop_at hkl] at e
        have e2 : encAll (ns.getD k 0 :: ns.drop (k + 1)) = encI (ns.getD k 0) ++ encAll (ns.drop (k + 1)) := rfl
        rw [e2] at e
        rw [e]
        have ho : offs ns k = (encAll (ns.take k)).length := rfl
        have hl := encI_length (ns.getD k 0)
        rw [getD_append_right (by omega), getD_append_left (by omega)]
        have e3 : offs ns k + wid (ns.getD k 0) - 1 - (encAll (ns.take k)).length = wid (ns.getD k 0) - 1 := by omega
        rw [e3]
        exact last_byte (hr _ (getD_mem hkl)) hs

/-! ### boundaries of signs -/
theorem offs_mono {ns : List Int} {i j : Nat} (h : i < j) (hj : j ≤ ns.length) : offs ns i < offs ns j := by
  induction j with
  | zero => omega
  | succ j ih =>
    have hs := offs_succ ns j (by omega)
    have hw := wid_pos' (ns.getD j 0)
    by_cases e : i = j
    · subst e; omega
    · have := ih (by omega) (by omega); omega
theorem offs_mono_le {ns : List Int} {i j : Nat} (h : i ≤ j) (hj : j ≤ ns.length) : offs ns i ≤ offs ns j := by
  rcases Nat.lt_or_ge i j with e | e
  · exact Nat.le_of_lt (offs_mono e hj)
  · have : i = j := by omega
    rw [this]; exact Nat.le_refl _
theorem offs_inside (ns : List Int) (k : Nat) (hk : k < (encAll ns).length) : ∃ j, j < ns.length ∧ offs ns j ≤ k ∧ k < offs ns (j + 1) := by
  have : ∀ m, m ≤ ns.length → k < offs ns m → ∃ j, j < m ∧ offs ns j ≤ k ∧ k < offs ns (j + 1) := by
    intro m
    induction m with
    | zero => intro _ h; rw [offs_0] at h; omega
    | succ m ih =>
      intro hm h
      by_cases e : k < offs ns m
      · obtain ⟨j, hj, r⟩ := ih (by omega) e
        exact ⟨j, by omega, r⟩
      · exact ⟨m, by omega, by omega, h⟩
  obtain ⟨j, hj, r⟩ := this ns.length (Nat.le_refl _) (by rw [offs_all]; exact hk)
  exact ⟨j, hj, r⟩
theorem start_first {n : Int} (hr : rightB n = true) : Lib.runeStart ((encI n).getD 0 0) = true := by
  obtain ⟨h0, h1, _⟩ := rightB_true.1 hr
  have hh : ∀ x : Int, (x < 128 ∨ 192 ≤ x) → Lib.runeStart x = true := fun x hx => by
    unfold Lib.runeStart
    rw [bne_iff_ne]; omega
  by_cases a1 : n ≤ 127
  · rw [encI_1 a1]; exact hh n (by omega)
  · by_cases a2 : n ≤ 2047
    · rw [encI_2 (by omega) a2]; exact hh (192 + n / 64) (by omega)
    · by_cases a3 : n ≤ 65535
      · rw [encI_3 (by omega) a3]; exact hh (224 + n / 64 / 64) (by omega)
      · rw [encI_4 (by omega)]; exact hh (240 + n / 64 / 64 / 64) (by omega)
theorem start_later {n : Int} (hr : rightB n = true) {i : Nat} (h1 : 0 < i) (h2 : i < wid n) : Lib.runeStart ((encI n).getD i 0) = false := by
  obtain ⟨h0, hm, _⟩ := rightB_true.1 hr
  have hh : ∀ x : Int, 128 ≤ x → x < 192 → Lib.runeStart x = false := fun x hx hy => by
    unfold Lib.runeStart
    rw [bne_eq_false_iff_eq]; omega
  by_cases a1 : n ≤ 127
  · unfold wid at h2; rw [if_pos a1] at h2; omega
  · by_cases a2 : n ≤ 2047
    · rw [wid_2 (by omega) a2] at h2
      rw [encI_2 (by omega) a2]
      obtain rfl : i = 1 := by omega
      exact hh (128 + n % 64) (by omega) (by omega)
    · by_cases a3 : n ≤ 65535
      · rw [wid_3 (by omega) a3] at h2
        rw [encI_3 (by omega) a3]
        have : i = 1 ∨ i = 2 := by omega
        rcases this with rfl | rfl
        · exact hh (128 + n / 64 % 64) (by omega) (by omega)
        · exact hh (128 + n % 64) (by omega) (by omega)
      · rw [wid_4 (by omega)] at h2
        rw [encI_4 (by omega)]
        have : i = 1 ∨ i = 2 ∨ i = 3 := by omega
        rcases this with rfl | rfl | rfl
        · exact hh (128 + n / 64 / 64 % 64) (by omega) (by omega)
        · exact hh (128 + n / 64 % 64) (by omega) (by omega)
        · exact hh (128 + n % 64) (by omega) (by omega)
theorem byte_inside (ns : List Int) (j i : Nat) (hj : j < ns.length) (hi : i < wid (ns.getD j 0)) : (encAll ns).getD (offs ns j + i) 0 = (encI (ns.getD j 0)).getD i 0 := by
  have e := encAll_split ns j
  rw [drop_at hj] at e
  have e2 : encAll (ns.getD j 0 :: ns.drop (j + 1)) = encI (ns.getD j 0) ++ encAll (ns.drop (j + 1)) := rfl
  rw [e2] at e
  have ho : offs ns j = (encAll (ns.take j)).length := rfl
  have hl := encI_length (ns.getD j 0)
  rw [e, getD_append_right (by omega), getD_append_left (by omega)]
  congr 1
  omega
/-- A byte begins a sign just if a sign ends ahead of it. -/
theorem start_iff (ns : List Int) (hr : ∀ n ∈ ns, rightB n = true) (k : Nat) (hk : k < (encAll ns).length) : Lib.runeStart ((encAll ns).getD k 0) = true ↔ ∃ j, j ≤ ns.length ∧ offs ns j = k := by
  obtain ⟨j, hj, h1, h2⟩ := offs_inside ns k hk
  have hs := offs_succ ns j hj
  have hrn := hr _ (getD_mem hj)
  obtain ⟨i, rfl⟩ : ∃ i, k = offs ns j + i := ⟨k - offs ns j, by omega⟩
  rw [byte_inside ns j i hj (by omega)]
  by_cases hi : i = 0
  · subst hi
    exact ⟨fun _ => ⟨j, by omega, rfl⟩, fun _ => start_first hrn⟩
  · rw [start_later hrn (by omega) (by omega)]
    constructor
    · intro h; cases h
    · rintro ⟨m, hm, he⟩
      exfalso
      rcases Nat.lt_trichotomy m j with e | e | e
      · have := offs_mono e (by omega : j ≤ ns.length); omega
      · subst e; omega
      · have := offs_mono_le (show j + 1 ≤ m by omega) hm; omega

/-- How many signs, of the first j, have room in m bytes. -/
def fit (ns : List Int) (m : Nat) : Nat → Nat
  | 0 => 0
  | j + 1 => if offs ns (j + 1) ≤ m then j + 1 else fit ns m j
theorem fit_le (ns : List Int) (m : Nat) : ∀ j, fit ns m j ≤ j
  | 0 => Nat.le_refl _
  | j + 1 => by have := fit_le ns m j; unfold fit; split <;> omega
theorem fit_room (ns : List Int) (m : Nat) : ∀ j, offs ns (fit ns m j) ≤ m
  | 0 => by show offs ns 0 ≤ m; rw [offs_0]; exact Nat.zero_le _
  | j + 1 => by
    unfold fit
    split
    · assumption
    · exact fit_room ns m j
theorem fit_most (ns : List Int) (m : Nat) : ∀ j i, i ≤ j → offs ns i ≤ m → i ≤ fit ns m j
  | 0, i, h, _ => h
  | j + 1, i, h, hi => by
    unfold fit
    split
    · exact h
    · rename_i hn
      by_cases e : i = j + 1
      · subst e; exact absurd hi hn
      · exact fit_most ns m j i (by omega) hi
/-- The signs of a name's beginning for which there is room ahead of the digits of i. -/
def cutN (bs : List Int) (d : Nat) : List Int := bs.take (fit bs (40 - d) bs.length)
/-- A name's beginning with a number behind. -/
def numL (bs : List Int) (i : Nat) : List Int := encAll (cutN bs (digs i).length) ++ digs i
/-- The names that are tried, one behind the other. -/
def freshL (ns : List Int) : Nat → List Int
  | 0 => encAll ns
  | i + 1 => numL (base ns) (i + 1)

theorem nodup_sub {l1 l2 : List (List Int)} (h : l1.Nodup) (hs : ∀ x ∈ l1, x ∈ l2) : l1.length ≤ l2.length := by
  induction l1 generalizing l2 with
  | nil => exact Nat.zero_le _
  | cons x t ih =>
    have hx := hs x (List.mem_cons_self ..)
    have hnd := List.nodup_cons.1 h
    have := ih (l2 := l2.erase x) hnd.2 (fun y hy => by
      refine (List.mem_erase_of_ne (fun e => ?_)).2 (hs y (List.mem_cons_of_mem _ hy))
      subst e; exact hnd.1 hy)
    rw [List.length_erase_of_mem hx] at this
    have hpos : 0 < l2.length := List.length_pos_of_mem hx
    rw [List.length_cons]; omega

theorem numL_inj {bs : List Int} {k i j : Nat} (i1 : 10 ^ k ≤ i) (i2 : i < 10 ^ (k + 1)) (j1 : 10 ^ k ≤ j) (j2 : j < 10 ^ (k + 1)) (h : numL bs i = numL bs j) : i = j := by
  unfold numL at h
  rw [digs_len_eq i1 i2, digs_len_eq j1 j2] at h
  exact digs_inj (List.append_cancel_left h)

/-- Of the numbers with k + 1 digits one gives a name that is none of few. -/
theorem some_free (ns : List Int) (l : List (List Int)) (k : Nat) (hl : l.length < 9 * 10 ^ k) : ∃ i, 10 ^ k ≤ i ∧ i < 10 ^ (k + 1) ∧ freshL ns i ∉ l := by
  rcases Classical.em (∃ i, 10 ^ k ≤ i ∧ i < 10 ^ (k + 1) ∧ freshL ns i ∉ l) with h | h
  · exact h
  exfalso
  have hall : ∀ i, 10 ^ k ≤ i → i < 10 ^ (k + 1) → freshL ns i ∈ l := fun i h1 h2 => by
    rcases Classical.em (freshL ns i ∈ l) with e | e
    · exact e
    · exact absurd ⟨i, h1, h2, e⟩ h
  have hp : 10 ^ (k + 1) = 10 * 10 ^ k := by rw [Nat.pow_succ]; omega
  have hp0 : 0 < 10 ^ k := Nat.pow_pos (by omega)
  have hnd : ((List.range' (10 ^ k) (9 * 10 ^ k)).map (freshL ns)).Nodup := by
    refine List.pairwise_map.2 (List.Pairwise.imp_of_mem ?_ (List.nodup_range' (s := 10 ^ k) (n := 9 * 10 ^ k)))
    intro a b ha hb hne e
    rw [List.mem_range'_1] at ha hb
    apply hne
    match a, b, ha, hb, e with
    | a + 1, b + 1, ha, hb, e => exact numL_inj (k := k) (by omega) (by omega) (by omega) (by omega) e
    | 0, b, ha, hb, e => omega
    | a, 0, ha, hb, e => omega
  have := nodup_sub hnd (l2 := l) (fun x hx => by
    obtain ⟨i, hi, rfl⟩ := List.mem_map.1 hx
    rw [List.mem_range'_1] at hi
    exact hall i (by omega) (by omega))
  rw [List.length_map, List.length_range'] at this
  omega

/-- Beside at most 300 names a fresh one is found, and not late. -/
theorem fresh_exists (ns : List Int) (l : List (List Int)) (hl : l.length ≤ 300) : ∃ i, i ≤ 20 * l.length + 39 ∧ i < 1000 ∧ freshL ns i ∉ l := by
  by_cases h1 : l.length < 9
  · obtain ⟨i, a, b, c⟩ := some_free ns l 0 (by omega)
    have e : 10 ^ (0 + 1) = 10 := rfl
    exact ⟨i, by omega, by omega, c⟩
  · by_cases h2 : l.length < 90
    · obtain ⟨i, a, b, c⟩ := some_free ns l 1 (by omega)
      have e : 10 ^ (1 + 1) = 100 := rfl
      exact ⟨i, by omega, by omega, c⟩
    · obtain ⟨i, a, b, c⟩ := some_free ns l 2 (by omega)
      have e : 10 ^ (2 + 1) = 1000 := rfl
      exact ⟨i, by omega, by omega, c⟩

/-- The first one that is fresh. -/
theorem fresh_least (ns : List Int) (l : List (List Int)) (m : Nat) (h : freshL ns m ∉ l) : ∃ i, i ≤ m ∧ freshL ns i ∉ l ∧ ∀ j, j < i → freshL ns j ∈ l := by
  induction m using Nat.strongRecOn with
  | ind m ih =>
    rcases Classical.em (∃ j, j < m ∧ freshL ns j ∉ l) with ⟨j, hj, hf⟩ | hn
    · obtain ⟨i, hi, r⟩ := ih j hj hf
      exact ⟨i, by omega, r⟩
    · refine ⟨m, Nat.le_refl _, h, fun j hj => ?_⟩
      rcases Classical.em (freshL ns j ∈ l) with e | e
      · exact e
      · exact absurd ⟨j, hj, e⟩ hn

end Go.Proofs.Ytkccjfbgepmfkaa

/- A number's digits as the document's plain Decimal gives them; sizes and bytes of strings laid one behind the other. Nothing that was there is written. -/
namespace Go.Proofs.Ytkccjfbgepmfkaa
open Go.RowKit
set_option linter.unusedVariables false

theorem size_bytes (s : ByteArray) : s.size = (bytesL s).length := (bytesL_length s).symm
theorem bytes_cat (a b : ByteArray) : bytesL (a ++ b) = bytesL a ++ bytesL b := by
  unfold bytesL
  have h : (a ++ b).data.toList = a.data.toList ++ b.data.toList := by simp
  rw [h, List.map_append]
theorem size_cat (a b : ByteArray) : (a ++ b).size = a.size + b.size := by
  rw [size_bytes, bytes_cat, List.length_append, ← size_bytes, ← size_bytes]

end Go.Proofs.Ytkccjfbgepmfkaa

/- Is a text a number from 0 to 999, and which: token.Number and the document's plain Number: the same answer, for every text; nothing that was there is written. -/
namespace Go.Proofs.Ytkccjfbgepmfkaa
open Go.RowKit
set_option linter.unusedVariables false

/-- L is the digits of N, a number below 1000; or of none. -/
def IsNum (L : List Int) (N : Nat) (B : Bool) : Prop := (B = true ∧ N < 1000 ∧ digs N = L) ∨ (B = false ∧ N = 0 ∧ ∀ n, n < 1000 → digs n ≠ L)
theorem IsNum.uniq {L : List Int} {N M : Nat} {B C : Bool} (h : IsNum L N B) (k : IsNum L M C) : N = M ∧ B = C := by
  rcases h with ⟨rfl, h1, h2⟩ | ⟨rfl, rfl, h2⟩ <;> rcases k with ⟨rfl, k1, k2⟩ | ⟨rfl, rfl, k2⟩
  · exact ⟨digs_inj (h2.trans k2.symm), rfl⟩
  · exact absurd h2 (k2 _ h1)
  · exact absurd k2 (h2 _ k1)
  · exact ⟨rfl, rfl⟩
theorem isNum_ex (L : List Int) : ∃ N B, IsNum L N B := by
  rcases Classical.em (∃ n, n < 1000 ∧ digs n = L) with ⟨n, h1, h2⟩ | h
  · exact ⟨n, true, .inl ⟨rfl, h1, h2⟩⟩
  · exact ⟨0, false, .inr ⟨rfl, rfl, fun n h1 h2 => h ⟨n, h1, h2⟩⟩⟩
theorem IsNum.no {L : List Int} (h : ∀ n, n < 1000 → digs n ≠ L) : IsNum L 0 false := .inr ⟨rfl, rfl, h⟩
theorem IsNum.yes {L : List Int} {n : Nat} (h : n < 1000) (k : digs n = L) : IsNum L n true := .inl ⟨rfl, h, k⟩

theorem digs_snoc {v d : Nat} (hv : 0 < v) (hd : d < 10) : digs (10 * v + d) = digs v ++ [((48 + d : Nat) : Int)] := by
  rw [digs_big (i := 10 * v + d) (by omega), show (10 * v + d) / 10 = v by omega, show (10 * v + d) % 10 = d by omega]
theorem digs_head (k : Nat) : ∀ n, n < k → ∀ t, digs n = 48 :: t → n = 0 ∧ t = [] := by
  induction k with
  | zero => intro n h; omega
  | succ k ih =>
    intro n hn t ht
    by_cases h : n < 10
    · rw [digs_small h] at ht
      simp at ht
      exact ⟨by omega, ht.2⟩
    · rw [digs_big h] at ht
      match hd : digs (n / 10) with
      | [] => have := digs_pos (n / 10); rw [hd] at this; simp at this
      | y :: ys =>
        rw [hd] at ht
        simp at ht
        obtain ⟨rfl, _⟩ := ht
        have := (ih (n / 10) (by omega) ys hd).1
        omega

theorem take_byt (s : ByteArray) (k : Nat) (h : k < s.size) : (bytesL s).take (k + 1) = (bytesL s).take k ++ [byt s k] := by
  have hk : k < (bytesL s).length := by rw [bytesL_length]; exact h
  rw [List.take_succ_eq_append_getElem hk]
  unfold byt
  rw [List.getD_eq_getElem?_getD, List.getElem?_eq_getElem hk]
  rfl
theorem byt_mem (s : ByteArray) (k : Nat) (h : k < s.size) : byt s k ∈ bytesL s := by
  have hk : k < (bytesL s).length := by rw [bytesL_length]; exact h
  unfold byt
  rw [List.getD_eq_getElem?_getD, List.getElem?_eq_getElem hk]
  exact List.getElem_mem hk

/-- A number that begins so has as many bytes at least. -/
theorem num_len {L : List Int} {n v k : Nat} (hn : n < 1000) (h : digs n = L) (hv : 999 < v) (ht : L.take k = digs v) : False := by
  have h1 : (digs n).length ≤ 3 := digs_lt 2 n hn
  have h2 : (L.take k).length ≤ L.length := by rw [List.length_take]; omega
  have h3 : 4 ≤ (digs v).length := by
    have e : ∀ j, 999 < j → 4 ≤ (digs j).length := by
      intro j hj
      rw [digs_big (by omega), digs_big (i := j / 10) (by omega), digs_big (i := j / 10 / 10) (by omega)]
      have := digs_pos (j / 10 / 10 / 10)
      simp
      omega
    exact e v hv
  rw [ht] at h2
  rw [h] at h1
  omega

/-- What a range over a text's signs hands over at a place: a digit just where the byte there is one. -/
theorem rune_at (s : ByteArray) (k : Nat) (h : k < s.size) : ∃ (r : Int) (d : Nat),
    (∀ (w : World) ty, (Instr.next (.pointer (some ⟨w.heap.size, 0, none⟩)) true ty).run Try.prog (w.iter s k) = .ok (.tuple #[.bool true, .int .i64 k, .int .i32 r]) (w.iter s (k + d))) ∧
    digitB r = digitB (byt s k) ∧ (digitB (byt s k) = true → r = byt s k ∧ d = 1) ∧ 0 ≤ r ∧ r ≤ 2147483647 := by
  have hb := byt_eq s k h
  refine ⟨(Utf8.decode s k).1, (Utf8.decode s k).2, fun w ty => run_next_any w s k ty h, ?_, ?_, by omega, by have := decode_le s k; omega⟩
  · by_cases ha : (s[k]'h).toNat < 128
    · rw [decode_ascii s k h ha]
      show digitB ((s[k].toNat : Int)) = _
      rw [hb]
    · have h1 := (decode_high s k h (by omega)).1
      have e1 : digitB ((Utf8.decode s k).1 : Int) = false := by unfold digitB; simp; omega
      have e2 : digitB (byt s k) = false := by rw [← hb]; unfold digitB; simp; omega
      rw [e1, e2]
  · intro hd
    have hd2 := digit_cases.1 hd
    have ha : (s[k]'h).toNat < 128 := by omega
    rw [decode_ascii s k h ha]
    exact ⟨hb, rfl⟩

theorem toList_nil : (⟨#[]⟩ : ByteArray).toList = [] := by rw [ByteArray.toList_eq]
theorem str_nil_true {s : ByteArray} (h : bytesL s = []) : (s.toList == []) = true := by
  have e := str_eq_true (a := s) (b := ⟨#[]⟩) h
  rwa [toList_nil] at e
theorem str_nil_false {s : ByteArray} (h : bytesL s ≠ []) : (s.toList == []) = false := by
  have e := str_eq_false (a := s) (b := ⟨#[]⟩) h
  rwa [toList_nil] at e

theorem number_num (s : ByteArray) (N : Nat) (B : Bool) (w : World) (hs : s.size ≤ 9223372036854775807) (h : IsNum (bytesL s) N B) :
    Calls Try.prog 54 #[.string s] w fun e w' => e = .returned (.tuple #[.int .i64 N, .bool B]) ∧ Below w.heap.size w w' := by
  have H := Lib.hid h
  clear h
  go_enter Try.func54, Try.ntmps54
  go_wp2_with fail
  go_loopw [4] (fun n wr => ∃ k v : Nat, k ≤ s.size ∧ wr = w.iter s k ∧ n = .int .i64 v ∧ v < 1000 ∧ (k = 0 → v = 0) ∧ Hid (0 < k → (bytesL s).take k = digs v)) (fun _ wr => s.size - wr.iterPos w.heap.size)
  case atStart => exact ⟨0, 0, Nat.zero_le _, rfl, rfl, by decide, fun _ => rfl, Lib.hid (fun h => absurd h (Nat.lt_irrefl 0))⟩
  case round =>
    obtain ⟨k, v, hk, rfl, rfl, hv, hk0, HT⟩ := hrel
    have hB : Below w.heap.size w (w.iter s k) := (Below.refl _ _).alloc (Nat.le_refl _) _
    by_cases hlt : k < s.size
    · obtain ⟨r, d, hnx0, hr1, hr2, hr3, hr4⟩ := rune_at s k hlt
      have hnx := hnx0 w
      have hBd : Below w.heap.size w (w.iter s (k + d)) := (Below.refl _ _).alloc (Nat.le_refl _) _
      clear hnx0
      have HTK := Lib.hid (take_byt s k hlt)
      have HM := Lib.hid (byt_mem s k hlt)
      obtain ⟨b, hb⟩ : ∃ b, byt s k = b := ⟨_, rfl⟩
      rw [hb] at hr1 hr2 HTK HM
      clear hb
      cases hd : digitB b with
      | false =>
        have hno := H.out.uniq (IsNum.no (fun n hn e => by
          have hm := HM.out
          rw [← e] at hm
          have := digs_mem hm
          have := (digit_cases (n := b)).2 this
          rw [hd] at this; cases this))
        obtain ⟨rfl, rfl⟩ := hno
        rw [hd] at hr1
        clear hr2 HTK HM H HT
        go_wp2_with fail
        refine (digit_any _ _).mono ?_; rintro e w2 ⟨rfl, rfl⟩
        rw [hr1]
        go_wp2_with fail
        go_ret2
        exact ⟨rfl, hBd⟩
      | true =>
        obtain ⟨rfl, rfl⟩ := hr2 hd
        have hd2 := digit_cases.1 hd
        obtain ⟨g, hg⟩ : ∃ g : Nat, r = 48 + (g : Int) := ⟨(r - 48).toNat, by omega⟩
        have hg10 : g < 10 := by omega
        have e1 : r - 48 = (g : Int) := by omega
        have HD := Lib.hid hd
        clear hr1 hd
        by_cases hkz : k = 0
        · subst hkz
          obtain rfl : v = 0 := hk0 rfl
          have HT' : Hid (0 < 0 + 1 → (bytesL s).take (0 + 1) = digs g) := Lib.hid (fun _ => by rw [HTK.out, digs_small hg10, hg]; simp)
          have e2 : (0 : Int) * 10 + (g : Int) = (g : Int) := by omega
          clear HTK HM HT hg hr2 hk0
          go_wp2_with fail
          refine (digit_any _ _).mono ?_; rintro e w2 ⟨rfl, rfl⟩
          rw [HD.out]
          go_wp2_with fail
          go_roundw
          case rel => exact ⟨0 + 1, g, by omega, rfl, by first | rfl | go_num, by omega, fun h => by omega, HT'⟩
          case measure => simp; omega
        · have t0 : decide ((0 : Int) < (k : Int)) = true := decide_eq_true (by omega)
          have hTk := HT.out (by omega)
          have htk1 := HTK.out
          rw [hTk] at htk1
          by_cases hv0 : v = 0
          · subst hv0
            have hno := H.out.uniq (IsNum.no (fun n hn e => by
              have h48 : digs 0 = [48] := digs_small (by decide)
              rw [h48] at htk1
              have hL : bytesL s = 48 :: (r :: (bytesL s).drop (k + 1)) := by
                have := (List.take_append_drop (k + 1) (bytesL s)).symm
                rw [htk1] at this
                simpa using this
              have := (digs_head (n + 1) n (by omega) _ (e.trans hL)).2
              cases this))
            obtain ⟨rfl, rfl⟩ := hno
            clear hr2 HTK HM H HT htk1 hTk hg hk0
            go_wp2_with fail
            refine (digit_any _ _).mono ?_; rintro e w2 ⟨rfl, rfl⟩
            rw [HD.out]
            go_wp2_with fail
            go_ret2
            exact ⟨rfl, hBd⟩
          · have tv : ((v : Int) == 0) = false := by simp; omega
            have hsn := digs_snoc (v := v) (d := g) (by omega) hg10
            obtain ⟨x, hx⟩ : ∃ x : Nat, 10 * v + g = x := ⟨_, rfl⟩
            rw [hx] at hsn
            have htx : (bytesL s).take (k + 1) = digs x := by rw [htk1, hsn, hg]; simp
            have e2 : (v : Int) * 10 + (g : Int) = (x : Int) := by omega
            by_cases hbig : 999 < x
            · have hno := H.out.uniq (IsNum.no (fun n hn e => num_len hn e hbig htx))
              obtain ⟨rfl, rfl⟩ := hno
              clear hr2 HTK HM H HT htk1 hTk hg hsn htx hx hk0
              go_wp2_with fail
              refine (digit_any _ _).mono ?_; rintro e w2 ⟨rfl, rfl⟩
              rw [HD.out]
              go_wp2_with fail
              go_ret2
              exact ⟨rfl, hBd⟩
            · have HT' : Hid (0 < k + 1 → (bytesL s).take (k + 1) = digs x) := Lib.hid (fun _ => htx)
              clear hr2 HTK HM H HT htk1 hTk hg hsn htx hx hk0
              go_wp2_with fail
              refine (digit_any _ _).mono ?_; rintro e w2 ⟨rfl, rfl⟩
              rw [HD.out]
              go_wp2_with fail
              go_roundw
              case rel => exact ⟨k + 1, x, by omega, rfl, by first | rfl | go_num, by omega, fun h => by omega, HT'⟩
              case measure => simp; omega
    · obtain rfl : k = s.size := by omega
      have hnx : ∀ ty, (Instr.next (.pointer (some ⟨w.heap.size, 0, none⟩)) true ty).run Try.prog (w.iter s s.size) = _ := fun ty => run_next_end w s s.size ty (by omega)
      by_cases hz : s.size = 0
      · obtain rfl : v = 0 := hk0 hz
        have hL : bytesL s = [] := List.eq_nil_of_length_eq_zero (by rw [bytesL_length]; exact hz)
        have hno := H.out.uniq (IsNum.no (fun n hn e => by
          have := digs_pos n
          rw [e, hL] at this
          simp at this))
        obtain ⟨rfl, rfl⟩ := hno
        have t1 : (s.toList == []) = true := str_nil_true hL
        have t2 : (s.toList != []) = false := by rw [bne, t1]; rfl
        clear H HT hL hk0 hz
        go_wp2_with fail
        go_ret2
        exact ⟨rfl, hB⟩
      · have hL := HT.out (by omega)
        rw [← bytesL_length, List.take_length] at hL
        have hno := H.out.uniq (IsNum.yes hv hL.symm)
        obtain ⟨rfl, rfl⟩ := hno
        have t1 : (s.toList == []) = false := str_nil_false (fun e => by
          have := digs_pos N
          rw [← hL, e] at this
          exact absurd this (by decide))
        have t2 : (s.toList != []) = true := by rw [bne, t1]; rfl
        clear H HT hL hk0
        go_wp2_with fail
        go_ret2
        exact ⟨rfl, hB⟩

end Go.Proofs.Ytkccjfbgepmfkaa

/- The contract of utf8.RuneStart at this program, out of the library's theorem over any program. -/
namespace Go.Proofs.Ytkccjfbgepmfkaa
open Go.RowKit Go.Shelf

end Go.Proofs.Ytkccjfbgepmfkaa

/- The contracts of strings.LastIndexByte, strings.Count at a text of one byte, and strings.HasPrefix at this program, out of the library's theorems over any program. -/
namespace Go.Proofs.Ytkccjfbgepmfkaa
open Go.RowKit Go.Shelf

theorem prefix_any (s p : ByteArray) (w : World) :
    Calls Try.prog 27 #[.string s, .string p] w fun e w' => e = .returned (.bool (Lib.hasPrefix s.data.toList p.data.toList)) ∧ w = w' := by
  refine (Any.strings_HasPrefix Try.lays99 s p w).mono ?_
  rintro e w' ⟨rfl, rfl⟩
  exact ⟨rfl, rfl⟩

end Go.Proofs.Ytkccjfbgepmfkaa

/- The line and the column of an offset: token.Place and the document's plain answer: the same numbers, for every text of at most 70000 bytes and every offset; nothing that was there is written. -/
namespace Go.Proofs.Ytkccjfbgepmfkaa
open Go.RowKit
set_option linter.unusedVariables false

/-- The line behind the first k bytes. -/
def lineK (s : ByteArray) : Nat → Nat
  | 0 => 1
  | k + 1 => if byt s k = 10 then lineK s k + 1 else lineK s k
/-- The column there. -/
def colK (s : ByteArray) : Nat → Nat
  | 0 => 1
  | k + 1 => if byt s k = 10 then 1 else if Lib.runeStart (byt s k) then colK s k + 1 else colK s k

theorem lineK_le (s : ByteArray) : ∀ k, lineK s k ≤ k + 1
  | 0 => Nat.le_refl _
  | k + 1 => by have := lineK_le s k; unfold lineK; split <;> omega
theorem colK_le (s : ByteArray) : ∀ k, colK s k ≤ k + 1
  | 0 => Nat.le_refl _
  | k + 1 => by have := colK_le s k; unfold colK; split <;> (try split) <;> omega
theorem lineK_br {s : ByteArray} {k : Nat} (h : byt s k = 10) : lineK s (k + 1) = lineK s k + 1 := by rw [lineK, if_pos h]
theorem lineK_no {s : ByteArray} {k : Nat} (h : byt s k ≠ 10) : lineK s (k + 1) = lineK s k := by rw [lineK, if_neg h]
theorem colK_br {s : ByteArray} {k : Nat} (h : byt s k = 10) : colK s (k + 1) = 1 := by rw [colK, if_pos h]
theorem colK_st {s : ByteArray} {k : Nat} (h : byt s k ≠ 10) (hr : Lib.runeStart (byt s k) = true) : colK s (k + 1) = colK s k + 1 := by rw [colK, if_neg h, if_pos hr]
theorem colK_no {s : ByteArray} {k : Nat} (h : byt s k ≠ 10) (hr : Lib.runeStart (byt s k) = false) : colK s (k + 1) = colK s k := by rw [colK, if_neg h, hr]; rfl

/-- How far an offset is counted. -/
def stopK (s : ByteArray) (at' : Int) : Nat := (max 0 (min at' (s.size : Int))).toNat

theorem start_lo {b : Int} (h0 : 0 ≤ b) (h : b < 128) : Lib.runeStart b = true := by
  unfold Lib.runeStart; simp; omega
theorem start_hi {b : Int} (h : 191 < b) : Lib.runeStart b = true := by
  unfold Lib.runeStart; simp; omega
theorem start_mid {b : Int} (h : ¬ b < 128) (h1 : ¬ 191 < b) : Lib.runeStart b = false := by
  unfold Lib.runeStart; simp; omega

/-- What strings.LastIndexByte says of a text's first m bytes. -/
theorem last_break (s t : ByteArray) (m : Nat) (hm : m ≤ s.size) (ht : s.extract 0 m = t) :
    ∃ b : Nat, b ≤ m ∧ Lib.lastIndexByte t 10 = (b : Int) - 1 ∧ colK s b = 1 ∧ ∀ j, b ≤ j → j < m → byt s j ≠ 10 := by
  have hz : t.size = m := by rw [← ht]; simp; omega
  have hb : ∀ j, j < m → (t.data[j]!.toNat : Int) = byt s j := by
    intro j hj
    have e1 : bytesL t = (bytesL s).take m := by rw [← ht, bytesL_extract]; simp
    have hj' : j < t.size := by omega
    have h1 := bytesL_get t j hj'
    have h2 : t.data[j]! = t[j] := by rw [getElem!_pos t.data j (by simpa using hj')]; rfl
    rw [h2]
    unfold byt
    rw [e1] at h1
    rw [List.getD_eq_getElem?_getD, ← List.getElem?_take_of_lt hj, h1]
    rfl
  rcases Lib.lastIndexByte_spec t 10 with ⟨e, hn⟩ | ⟨i, hi, e, hc, hn⟩
  · exact ⟨0, Nat.zero_le _, by rw [e]; rfl, rfl, fun j _ hj => by rw [← hb j hj]; exact hn j (by omega)⟩
  · refine ⟨i + 1, by omega, by rw [e]; omega, ?_, fun j h1 h2 => by rw [← hb j h2]; exact hn j (by omega) (by omega)⟩
    exact colK_br (by rw [← hb i (by omega)]; exact hc)

/-- What strings.Count says of them. -/
theorem count_breaks (s : ByteArray) : ∀ m, m ≤ s.size → Lib.countByte (s.extract 0 m).data.toList 10 + 1 = lineK s m := by
  intro m
  induction m with
  | zero =>
    intro _
    have e : (s.extract 0 0).data.toList = [] := by simp
    rw [e]; rfl
  | succ m ih =>
    intro hm
    have ih' := ih (by omega)
    have e : ∀ k, (s.extract 0 k).data.toList = s.data.toList.take k := by intro k; simp [List.extract_eq_take_drop]
    have h2 : m < s.size := by omega
    have hs : m < s.data.toList.length := by simpa using h2
    have hb := byt_eq s m (by omega)
    have hg : s.data.toList[m] = s[m] := by simp; rfl
    rw [e] at ih' ⊢
    unfold Lib.countByte at ih' ⊢
    rw [List.take_succ_eq_append_getElem hs, List.count_append, hg]
    by_cases h : byt s m = 10
    · rw [lineK_br h]
      have h10 : s[m] = 10 := UInt8.toNat_inj.1 (by rw [h] at hb; exact_mod_cast hb)
      rw [h10]
      simp
      omega
    · rw [lineK_no h]
      have h10 : s[m] ≠ 10 := fun e' => by rw [e'] at hb; exact h hb.symm
      rw [List.count_singleton]
      simp [h10]
      omega

end Go.Proofs.Ytkccjfbgepmfkaa
