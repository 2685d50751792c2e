/- Plain facts on names and numbers behind them: decimal digits, where the digits at a text's end begin, how many signs have room, which name is fresh. No program. -/
import Derived.Test.YtmaomnpanfdjeaaDoorParse
import Derived.Test.YtmaomnpanfdjeaaDoorKind
import Derived.Lib.ItoaNum
import Derived.Lib.SlTrimSet
import Derived.Lib.Bits
namespace Go.Proofs.YtmaomnpanfdjeaaDoor
open Go.RowKit
set_option linter.unusedVariables false

/-! ### decimal digits -/
/-- A number's decimal digits, as bytes. -/
def digs (i : Nat) : List Int := (Lib.decDigits i).map fun b => (b.toNat : Int)
theorem digs_small {i : Nat} (h : i < 10) : digs i = [((48 + i : Nat) : Int)] := by
  unfold digs
  rw [Lib.decDigits_one h]
  simp
  omega
theorem digs_big {i : Nat} (h : ¬ i < 10) : digs i = digs (i / 10) ++ [((48 + i % 10 : Nat) : Int)] := by
  unfold digs
  rw [Lib.decDigits, dif_neg h]
  simp
  omega
theorem digs_length (i : Nat) : (digs i).length = Lib.nDigits i := by unfold digs; rw [List.length_map, Lib.decDigits_length]
theorem digs_pos (i : Nat) : 1 ≤ (digs i).length := by
  by_cases h : i < 10
  · rw [digs_small h]; exact Nat.le_refl _
  · rw [digs_big h]; simp
theorem digs_lt (k : Nat) : ∀ i, i < 10 ^ (k + 1) → (digs i).length ≤ k + 1 := by
  induction k with
  | zero => intro i h; rw [digs_small (by simpa using h)]; simp
  | succ k ih =>
    intro i h
    by_cases h1 : i < 10
    · rw [digs_small h1]; simp
    · rw [digs_big h1, List.length_append]
      have := ih (i / 10) (by rw [Nat.pow_succ] at h; omega)
      simp; omega
theorem digs_4 {i : Nat} (h : i < 10000) : (digs i).length ≤ 4 := digs_lt 3 i h
theorem digs_range (k : Nat) : ∀ i, i < k → ∀ x ∈ digs i, 48 ≤ x ∧ x ≤ 57 := by
  induction k with
  | zero => intro i h; omega
  | succ k ih =>
    intro i hi x hx
    by_cases h1 : i < 10
    · rw [digs_small h1] at hx; simp at hx; omega
    · rw [digs_big h1] at hx
      rcases List.mem_append.1 hx with h | h
      · exact ih (i / 10) (by omega) x h
      · simp at h; omega
theorem digs_mem {i : Nat} {x : Int} (h : x ∈ digs i) : 48 ≤ x ∧ x ≤ 57 := digs_range (i + 1) i (by omega) x h
/-- What digits say. -/
def valL (l : List Int) : Int := l.foldl (fun v x => 10 * v + (x - 48)) 0
theorem valL_snoc (l : List Int) (x : Int) : valL (l ++ [x]) = 10 * valL l + (x - 48) := by unfold valL; rw [List.foldl_append]; rfl
theorem val_digs' (k : Nat) : ∀ i, i < k → valL (digs i) = i := by
  induction k with
  | zero => intro i h; omega
  | succ k ih =>
    intro i hi
    by_cases h1 : i < 10
    · rw [digs_small h1]; unfold valL; simp; omega
    · rw [digs_big h1, valL_snoc, ih (i / 10) (by omega)]; omega
theorem digs_inj {i j : Nat} (h : digs i = digs j) : i = j := by
  have a := val_digs' (i + 1) i (by omega)
  have b := val_digs' (j + 1) j (by omega)
  rw [h] at a
  omega
theorem digs_len_eq {k i : Nat} (h1 : 10 ^ k ≤ i) (h2 : i < 10 ^ (k + 1)) : (digs i).length = k + 1 := by rw [digs_length, Lib.nDigits_unique k i h1 h2]

/-! ### where the digits at the end begin -/
theorem dig_contains (b : UInt8) : ([48, 49, 50, 51, 52, 53, 54, 55, 56, 57] : List UInt8).contains b = digitB (b.toNat : Int) := by
  have h : ∀ n : Fin 256, ([48, 49, 50, 51, 52, 53, 54, 55, 56, 57] : List UInt8).contains (UInt8.ofNat n.val) = digitB (n.val : Int) := by decide +kernel
  have := h ⟨b.toNat, b.toNat_lt⟩
  simpa using this

/-- Behind the first k bytes are digits alone, and these end in none. -/
structure IsStem (l : List Int) (k : Nat) : Prop where
  le : k ≤ l.length
  tail : ∀ j, k ≤ j → j < l.length → digitB (l.getD j 0) = true
  stop : k = 0 ∨ digitB (l.getD (k - 1) 0) = false
theorem stem_unique {l : List Int} {a b : Nat} (h : IsStem l a) (k : IsStem l b) : a = b := by
  rcases Nat.lt_trichotomy a b with e | e | e
  · rcases k.stop with s | s
    · omega
    · rw [h.tail (b - 1) (by omega) (by have := k.le; omega)] at s; cases s
  · exact e
  · rcases h.stop with s | s
    · omega
    · rw [k.tail (a - 1) (by omega) (by have := h.le; omega)] at s; cases s

/-- How many signs stand ahead of the digits at the end. -/
def downD (ns : List Int) : Nat → Nat
  | 0 => 0
  | j + 1 => if digitB (ns.getD j 0) then downD ns j else j + 1
theorem downD_le (ns : List Int) : ∀ j, downD ns j ≤ j
  | 0 => Nat.le_refl _
  | j + 1 => by have := downD_le ns j; unfold downD; split <;> omega
theorem downD_tail (ns : List Int) : ∀ j i, downD ns j ≤ i → i < j → digitB (ns.getD i 0) = true
  | 0, i, _, h => absurd h (Nat.not_lt_zero i)
  | j + 1, i, h1, h2 => by
    unfold downD at h1
    split at h1
    · rename_i hd
      by_cases hij : i = j
      · subst hij; exact hd
      · exact downD_tail ns j i h1 (by omega)
    · omega
theorem downD_stop (ns : List Int) : ∀ j, downD ns j = 0 ∨ digitB (ns.getD (downD ns j - 1) 0) = false
  | 0 => .inl rfl
  | j + 1 => by
    unfold downD
    split
    · exact downD_stop ns j
    · rename_i hd
      right
      simpa using hd
def stemJ (ns : List Int) : Nat := downD ns ns.length
/-- The signs ahead of the digits at the end. -/
def base (ns : List Int) : List Int := ns.take (stemJ ns)
theorem stemJ_le (ns : List Int) : stemJ ns ≤ ns.length := downD_le ns ns.length

theorem encAll_mem {l : List Int} {x : Int} (h : x ∈ encAll l) : ∃ n ∈ l, x ∈ encI n := by
  induction l with
  | nil => cases h
  | cons n l ih =>
    rcases List.mem_append.1 h with h | h
    · exact ⟨n, List.mem_cons_self .., h⟩
    · obtain ⟨m, hm, hx⟩ := ih h
      exact ⟨m, List.mem_cons_of_mem _ hm, hx⟩
theorem encAll_split (ns : List Int) (j : Nat) : encAll ns = encAll (ns.take j) ++ encAll (ns.drop j) := by rw [← encAll_append, List.take_append_drop]
theorem offs_take (ns : List Int) (j : Nat) : (encAll ns).take (offs ns j) = encAll (ns.take j) := by
  rw [encAll_split ns j]
  exact List.take_left
theorem getD_append_left {a b : List Int} {i : Nat} (h : i < a.length) : (a ++ b).getD i 0 = a.getD i 0 := by
  rw [List.getD, List.getElem?_append_left h]; rfl
theorem getD_append_right {a b : List Int} {i : Nat} (h : a.length ≤ i) : (a ++ b).getD i 0 = b.getD (i - a.length) 0 := by
  rw [List.getD, List.getElem?_append_right h]; rfl
/-- The last byte of a sign that is no digit is none. -/
theorem last_byte {n : Int} (hr : rightB n = true) (hd : digitB n = false) : digitB ((encI n).getD (wid n - 1) 0) = false := by
  obtain ⟨h0, h1, _⟩ := rightB_true.1 hr
  by_cases a1 : n ≤ 127
  · rw [encI_1 a1]; unfold wid; rw [if_pos a1]; exact hd
  · have hh : ∀ x : Int, 128 ≤ x → digitB x = false := fun x hx => by
      cases e : digitB x with
      | false => rfl
      | true => have := digit_cases.1 e; omega
    by_cases a2 : n ≤ 2047
    · rw [encI_2 (by omega) a2, wid_2 (by omega) a2]; exact hh (128 + n % 64) (by omega)
    · by_cases a3 : n ≤ 65535
      · rw [encI_3 (by omega) a3, wid_3 (by omega) a3]; exact hh (128 + n % 64) (by omega)
      · rw [encI_4 (by omega), wid_4 (by omega)]; exact hh (128 + n % 64) (by omega)
theorem wid_pos' (n : Int) : 1 ≤ wid n ∧ wid n ≤ 4 := by unfold wid; (repeat' split) <;> omega
theorem stem_base (ns : List Int) (hr : ∀ n ∈ ns, rightB n = true) : IsStem (encAll ns) (offs ns (stemJ ns)) := by
  have hle := stemJ_le ns
  refine ⟨offs_le ns _, fun j h1 h2 => ?_, ?_⟩
  · have e := encAll_split ns (stemJ ns)
    rw [e] at h2 ⊢
    rw [getD_append_right h1]
    have hlt : j - (encAll (ns.take (stemJ ns))).length < (encAll (ns.drop (stemJ ns))).length := by
      rw [List.length_append] at h2; unfold offs at h1; omega
    have hmem : (encAll (ns.drop (stemJ ns))).getD (j - (encAll (ns.take (stemJ ns))).length) 0 ∈ encAll (ns.drop (stemJ ns)) := by
      rw [List.getD, List.getElem?_eq_getElem hlt]; exact List.getElem_mem hlt
    obtain ⟨m, hm, hx⟩ := encAll_mem hmem
    obtain ⟨i, hi, rfl⟩ := List.getElem_of_mem hm
    rw [List.length_drop] at hi
    rw [List.getElem_drop] at hx
    have hdig := downD_tail ns ns.length (stemJ ns + i) (by unfold stemJ; omega) (by omega)
    rw [List.getD, List.getElem?_eq_getElem (by omega : stemJ ns + i < ns.length), Option.getD_some] at hdig
    have hb := digit_cases.1 hdig
    rw [encI_1 (by omega), List.mem_singleton] at hx
    rw [hx]; exact hdig
  · rcases downD_stop ns ns.length with h | h
    · left
      have : stemJ ns = 0 := h
      rw [this, offs_0]
    · right
      have hs : digitB (ns.getD (stemJ ns - 1) 0) = false := h
      by_cases h0 : stemJ ns = 0
      · rw [h0] at hs ⊢
        rw [offs_0]
        by_cases hn : ns = []
        · subst hn; rfl
        · have hl : 0 < ns.length := List.length_pos_iff.2 hn
          match ns, hl, hs, hr with
          | n :: r, _, hs, hr =>
            have hrn := hr n (List.mem_cons_self ..)
            have hsn : digitB n = false := hs
            have hh : ∀ x : Int, 128 ≤ x → digitB x = false := fun x hx => by
              cases e : digitB x with
              | false => rfl
              | true => have := digit_cases.1 e; omega
            show digitB ((encI n ++ encAll r).getD 0 0) = false
            have hw := encI_length n
            have hw1 := wid_pos' n
            rw [getD_append_left (by omega)]
            by_cases a1 : n ≤ 127
            · rw [encI_1 a1]; exact hsn
            · by_cases a2 : n ≤ 2047
              · rw [encI_2 (by omega) a2]; exact hh (192 + n / 64) (by omega)
              · have := (rightB_true.1 hrn).2.1
                by_cases a3 : n ≤ 65535
                · rw [encI_3 (by omega) a3]; exact hh (224 + n / 64 / 64) (by omega)
                · rw [encI_4 (by omega)]; exact hh (240 + n / 64 / 64 / 64) (by omega)
      · obtain ⟨k, hk⟩ : ∃ k, stemJ ns = k + 1 := ⟨stemJ ns - 1, by omega⟩
        rw [hk] at hs hle ⊢
        rw [Nat.add_sub_cancel] at hs
        have hkl : k < ns.length := by omega
        have hw := wid_pos' (ns.getD k 0)
        rw [offs_succ ns k hkl]
        have e := encAll_split ns k
        rw [drop_at hkl] at e
        have e2 : encAll (ns.getD k 0 :: ns.drop (k + 1)) = encI (ns.getD k 0) ++ encAll (ns.drop (k + 1)) := rfl
        rw [e2] at e
        rw [e]
        have ho : offs ns k = (encAll (ns.take k)).length := rfl
        have hl := encI_length (ns.getD k 0)
        rw [getD_append_right (by omega), getD_append_left (by omega)]
        have e3 : offs ns k + wid (ns.getD k 0) - 1 - (encAll (ns.take k)).length = wid (ns.getD k 0) - 1 := by omega
        rw [e3]
        exact last_byte (hr _ (getD_mem hkl)) hs

/-! ### boundaries of signs -/
theorem offs_mono {ns : List Int} {i j : Nat} (h : i < j) (hj : j ≤ ns.length) : offs ns i < offs ns j := by
  induction j with
  | zero => omega
  | succ j ih =>
    have hs := offs_succ ns j (by omega)
    have hw := wid_pos' (ns.getD j 0)
    by_cases e : i = j
    · subst e; omega
    · have := ih (by omega) (by omega); omega
theorem offs_mono_le {ns : List Int} {i j : Nat} (h : i ≤ j) (hj : j ≤ ns.length) : offs ns i ≤ offs ns j := by
  rcases Nat.lt_or_ge i j with e | e
  · exact Nat.le_of_lt (offs_mono e hj)
  · have : i = j := by omega
    rw [this]; exact Nat.le_refl _
theorem offs_inside (ns : List Int) (k : Nat) (hk : k < (encAll ns).length) : ∃ j, j < ns.length ∧ offs ns j ≤ k ∧ k < offs ns (j + 1) := by
  have : ∀ m, m ≤ ns.length → k < offs ns m → ∃ j, j < m ∧ offs ns j ≤ k ∧ k < offs ns (j + 1) := by
    intro m
    induction m with
    | zero => intro _ h; rw [offs_0] at h; omega
    | succ m ih =>
      intro hm h
      by_cases e : k < offs ns m
      · obtain ⟨j, hj, r⟩ := ih (by omega) e
        exact ⟨j, by omega, r⟩
      · exact ⟨m, by omega, by omega, h⟩
  obtain ⟨j, hj, r⟩ := this ns.length (Nat.le_refl _) (by rw [offs_all]; exact hk)
  exact ⟨j, hj, r⟩
theorem start_first {n : Int} (hr : rightB n = true) : Lib.runeStart ((encI n).getD 0 0) = true := by
  obtain ⟨h0, h1, _⟩ := rightB_true.1 hr
  have hh : ∀ x : Int, (x < 128 ∨ 192 ≤ x) → Lib.runeStart x = true := fun x hx => by
    unfold Lib.runeStart
    rw [bne_iff_ne]; omega
  by_cases a1 : n ≤ 127
  · rw [encI_1 a1]; exact hh n (by omega)
  · by_cases a2 : n ≤ 2047
    · rw [encI_2 (by omega) a2]; exact hh (192 + n / 64) (by omega)
    · by_cases a3 : n ≤ 65535
      · rw [encI_3 (by omega) a3]; exact hh (224 + n / 64 / 64) (by omega)
      · rw [encI_4 (by omega)]; exact hh (240 + n / 64 / 64 / 64) (by omega)
theorem start_later {n : Int} (hr : rightB n = true) {i : Nat} (h1 : 0 < i) (h2 : i < wid n) : Lib.runeStart ((encI n).getD i 0) = false := by
  obtain ⟨h0, hm, _⟩ := rightB_true.1 hr
  have hh : ∀ x : Int, 128 ≤ x → x < 192 → Lib.runeStart x = false := fun x hx hy => by
    unfold Lib.runeStart
    rw [bne_eq_false_iff_eq]; omega
  by_cases a1 : n ≤ 127
  · unfold wid at h2; rw [if_pos a1] at h2; omega
  · by_cases a2 : n ≤ 2047
    · rw [wid_2 (by omega) a2] at h2
      rw [encI_2 (by omega) a2]
      obtain rfl : i = 1 := by omega
      exact hh (128 + n % 64) (by omega) (by omega)
    · by_cases a3 : n ≤ 65535
      · rw [wid_3 (by omega) a3] at h2
        rw [encI_3 (by omega) a3]
        have : i = 1 ∨ i = 2 := by omega
        rcases this with rfl | rfl
        · exact hh (128 + n / 64 % 64) (by omega) (by omega)
        · exact hh (128 + n % 64) (by omega) (by omega)
      · rw [wid_4 (by omega)] at h2
        rw [encI_4 (by omega)]
        have : i = 1 ∨ i = 2 ∨ i = 3 := by omega
        rcases this with rfl | rfl | rfl
        · exact hh (128 + n / 64 / 64 % 64) (by omega) (by omega)
        · exact hh (128 + n / 64 % 64) (by omega) (by omega)
        · exact hh (128 + n % 64) (by omega) (by omega)
theorem byte_inside (ns : List Int) (j i : Nat) (hj : j < ns.length) (hi : i < wid (ns.getD j 0)) : (encAll ns).getD (offs ns j + i) 0 = (encI (ns.getD j 0)).getD i 0 := by
  have e := encAll_split ns j
  rw [drop_at hj] at e
  have e2 : encAll (ns.getD j 0 :: ns.drop (j + 1)) = encI (ns.getD j 0) ++ encAll (ns.drop (j + 1)) := rfl
  rw [e2] at e
  have ho : offs ns j = (encAll (ns.take j)).length := rfl
  have hl := encI_length (ns.getD j 0)
  rw [e, getD_append_right (by omega), getD_append_left (by omega)]
  congr 1
  omega
/-- A byte begins a sign just if a sign ends ahead of it. -/
theorem start_iff (ns : List Int) (hr : ∀ n ∈ ns, rightB n = true) (k : Nat) (hk : k < (encAll ns).length) : Lib.runeStart ((encAll ns).getD k 0) = true ↔ ∃ j, j ≤ ns.length ∧ offs ns j = k := by
  obtain ⟨j, hj, h1, h2⟩ := offs_inside ns k hk
  have hs := offs_succ ns j hj
  have hrn := hr _ (getD_mem hj)
  obtain ⟨i, rfl⟩ : ∃ i, k = offs ns j + i := ⟨k - offs ns j, by omega⟩
  rw [byte_inside ns j i hj (by omega)]
  by_cases hi : i = 0
  · subst hi
    exact ⟨fun _ => ⟨j, by omega, rfl⟩, fun _ => start_first hrn⟩
  · rw [start_later hrn (by omega) (by omega)]
    constructor
    · intro h; cases h
    · rintro ⟨m, hm, he⟩
      exfalso
      rcases Nat.lt_trichotomy m j with e | e | e
      · have := offs_mono e (by omega : j ≤ ns.length); omega
      · subst e; omega
      · have := offs_mono_le (show j + 1 ≤ m by omega) hm; omega

/-- How many signs, of the first j, have room in m bytes. -/
def fit (ns : List Int) (m : Nat) : Nat → Nat
  | 0 => 0
  | j + 1 => if offs ns (j + 1) ≤ m then j + 1 else fit ns m j
theorem fit_le (ns : List Int) (m : Nat) : ∀ j, fit ns m j ≤ j
  | 0 => Nat.le_refl _
  | j + 1 => by have := fit_le ns m j; unfold fit; split <;> omega
theorem fit_room (ns : List Int) (m : Nat) : ∀ j, offs ns (fit ns m j) ≤ m
  | 0 => by show offs ns 0 ≤ m; rw [offs_0]; exact Nat.zero_le _
  | j + 1 => by
    unfold fit
    split
    · assumption
    · exact fit_room ns m j
theorem fit_most (ns : List Int) (m : Nat) : ∀ j i, i ≤ j → offs ns i ≤ m → i ≤ fit ns m j
  | 0, i, h, _ => h
  | j + 1, i, h, hi => by
    unfold fit
    split
    · exact h
    · rename_i hn
      by_cases e : i = j + 1
      · subst e; exact absurd hi hn
      · exact fit_most ns m j i (by omega) hi
/-- The signs of a name's beginning for which there is room ahead of the digits of i. -/
def cutN (bs : List Int) (d : Nat) : List Int := bs.take (fit bs (40 - d) bs.length)
/-- A name's beginning with a number behind. -/
def numL (bs : List Int) (i : Nat) : List Int := encAll (cutN bs (digs i).length) ++ digs i
/-- The names that are tried, one behind the other. -/
def freshL (ns : List Int) : Nat → List Int
  | 0 => encAll ns
  | i + 1 => numL (base ns) (i + 1)

theorem nodup_sub {l1 l2 : List (List Int)} (h : l1.Nodup) (hs : ∀ x ∈ l1, x ∈ l2) : l1.length ≤ l2.length := by
  induction l1 generalizing l2 with
  | nil => exact Nat.zero_le _
  | cons x t ih =>
    have hx := hs x (List.mem_cons_self ..)
    have hnd := List.nodup_cons.1 h
    have := ih (l2 := l2.erase x) hnd.2 (fun y hy => by
      refine (List.mem_erase_of_ne (fun e => ?_)).2 (hs y (List.mem_cons_of_mem _ hy))
      subst e; exact hnd.1 hy)
    rw [List.length_erase_of_mem hx] at this
    have hpos : 0 < l2.length := List.length_pos_of_mem hx
    rw [List.length_cons]; omega

theorem numL_inj {bs : List Int} {k i j : Nat} (i1 : 10 ^ k ≤ i) (i2 : i < 10 ^ (k + 1)) (j1 : 10 ^ k ≤ j) (j2 : j < 10 ^ (k + 1)) (h : numL bs i = numL bs j) : i = j := by
  unfold numL at h
  rw [digs_len_eq i1 i2, digs_len_eq j1 j2] at h
  exact digs_inj (List.append_cancel_left h)

/-- Of the numbers with k + 1 digits one gives a name that is none of few. -/
theorem some_free (ns : List Int) (l : List (List Int)) (k : Nat) (hl : l.length < 9 * 10 ^ k) : ∃ i, 10 ^ k ≤ i ∧ i < 10 ^ (k + 1) ∧ freshL ns i ∉ l := by
  rcases Classical.em (∃ i, 10 ^ k ≤ i ∧ i < 10 ^ (k + 1) ∧ freshL ns i ∉ l) with h | h
  · exact h
  exfalso
  have hall : ∀ i, 10 ^ k ≤ i → i < 10 ^ (k + 1) → freshL ns i ∈ l := fun i h1 h2 => by
    rcases Classical.em (freshL ns i ∈ l) with e | e
    · exact e
    · exact absurd ⟨i, h1, h2, e⟩ h
  have hp : 10 ^ (k + 1) = 10 * 10 ^ k := by rw [Nat.pow_succ]; omega
  have hp0 : 0 < 10 ^ k := Nat.pow_pos (by omega)
  have hnd : ((List.range' (10 ^ k) (9 * 10 ^ k)).map (freshL ns)).Nodup := by
    refine List.pairwise_map.2 (List.Pairwise.imp_of_mem ?_ (List.nodup_range' (s := 10 ^ k) (n := 9 * 10 ^ k)))
    intro a b ha hb hne e
    rw [List.mem_range'_1] at ha hb
    apply hne
    match a, b, ha, hb, e with
    | a + 1, b + 1, ha, hb, e => exact numL_inj (k := k) (by omega) (by omega) (by omega) (by omega) e
    | 0, b, ha, hb, e => omega
    | a, 0, ha, hb, e => omega
  have := nodup_sub hnd (l2 := l) (fun x hx => by
    obtain ⟨i, hi, rfl⟩ := List.mem_map.1 hx
    rw [List.mem_range'_1] at hi
    exact hall i (by omega) (by omega))
  rw [List.length_map, List.length_range'] at this
  omega

/-- Beside at most 300 names a fresh one is found, and not late. -/
theorem fresh_exists (ns : List Int) (l : List (List Int)) (hl : l.length ≤ 300) : ∃ i, i ≤ 20 * l.length + 39 ∧ i < 1000 ∧ freshL ns i ∉ l := by
  by_cases h1 : l.length < 9
  · obtain ⟨i, a, b, c⟩ := some_free ns l 0 (by omega)
    have e : 10 ^ (0 + 1) = 10 := rfl
    exact ⟨i, by omega, by omega, c⟩
  · by_cases h2 : l.length < 90
    · obtain ⟨i, a, b, c⟩ := some_free ns l 1 (by omega)
      have e : 10 ^ (1 + 1) = 100 := rfl
      exact ⟨i, by omega, by omega, c⟩
    · obtain ⟨i, a, b, c⟩ := some_free ns l 2 (by omega)
      have e : 10 ^ (2 + 1) = 1000 := rfl
      exact ⟨i, by omega, by omega, c⟩

/-- The first one that is fresh. -/
theorem fresh_least (ns : List Int) (l : List (List Int)) (m : Nat) (h : freshL ns m ∉ l) : ∃ i, i ≤ m ∧ freshL ns i ∉ l ∧ ∀ j, j < i → freshL ns j ∈ l := by
  induction m using Nat.strongRecOn with
  | ind m ih =>
    rcases Classical.em (∃ j, j < m ∧ freshL ns j ∉ l) with ⟨j, hj, hf⟩ | hn
    · obtain ⟨i, hi, r⟩ := ih j hj hf
      exact ⟨i, by omega, r⟩
    · refine ⟨m, Nat.le_refl _, h, fun j hj => ?_⟩
      rcases Classical.em (freshL ns j ∈ l) with e | e
      · exact e
      · exact absurd ⟨j, hj, e⟩ hn

end Go.Proofs.YtmaomnpanfdjeaaDoor
