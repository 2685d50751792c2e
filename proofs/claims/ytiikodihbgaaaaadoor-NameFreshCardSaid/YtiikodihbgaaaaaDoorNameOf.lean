/- What a fresh name is: a name. No program. -/
import Derived.Test.YtiikodihbgaaaaaDoorFresh
namespace Go.Proofs.YtiikodihbgaaaaaDoor
open Go.RowKit
set_option linter.unusedVariables false

theorem encAll_digs {l : List Int} (h : ∀ x ∈ l, 48 ≤ x ∧ x ≤ 57) : encAll l = l := by
  induction l with
  | nil => rfl
  | cons x l ih =>
    show encI x ++ encAll l = x :: l
    rw [ih (fun y hy => h y (List.mem_cons_of_mem _ hy)), encI_1 (by have := h x (List.mem_cons_self ..); omega)]
    rfl
theorem digit_right {x : Int} (h : 48 ≤ x ∧ x ≤ 57) : rightB x = true := rightB_true.2 (by omega)
theorem digit_within {x : Int} (h : 48 ≤ x ∧ x ≤ 57) : withinB x = true := by
  unfold withinB; rw [digit_cases.2 h]; simp

theorem bytes_list {t : ByteArray} {l : List UInt8} (h : (t.toList == l) = true) : bytesL t = l.map fun b => (b.toNat : Int) := by
  rw [beq_iff_eq, ByteArray.toList_eq] at h
  unfold bytesL
  rw [h]
theorem key_end {t : ByteArray} {x : Int} (h : (bytesL t).getLast? = some x) (hx : 48 ≤ x ∧ x ≤ 57) : keyB t = false := by
  cases hk : keyB t with
  | false => rfl
  | true =>
    exfalso
    unfold keyB at hk
    simp only [Bool.or_eq_true] at hk
    rcases hk with e | e | e | e
    · rw [bytes_list e] at h
      have : (97 : Int) = x := by simpa using h
      omega
    · rw [bytes_list e] at h
      have : (100 : Int) = x := by simpa using h
      omega
    · rw [bytes_list e] at h
      have : (102 : Int) = x := by simpa using h
      omega
    · rw [bytes_list e] at h
      have : (116 : Int) = x := by simpa using h
      omega

theorem fresh_name {s t : ByteArray} {ns : List Int} (h : IsName s ns) (m : Nat) (hm : m < 10000) (ht : bytesL t = freshL ns m) : ∃ ms, IsName t ms := by
  cases m with
  | zero =>
    have e : t = s := bytesL_inj (by rw [ht, h.parse.eq, List.append_nil]; rfl)
    exact ⟨ns, e ▸ h⟩
  | succ i =>
    have hn : freshL ns (i + 1) = encAll (cutN (base ns) (digs (i + 1)).length) ++ digs (i + 1) := rfl
    rw [hn] at ht
    have hd4 := digs_4 hm
    have hd1 := digs_pos (i + 1)
    have hdm : ∀ x ∈ digs (i + 1), 48 ≤ x ∧ x ≤ 57 := fun x hx => digs_mem hx
    have hsz : t.size ≤ 40 := by rw [size_bytes, ht]; exact numL_length (base ns) (i + 1) hm
    have hlast : ∃ x, (bytesL t).getLast? = some x ∧ 48 ≤ x ∧ x ≤ 57 := by
      have hne : digs (i + 1) ≠ [] := fun e => by rw [e] at hd1; simp at hd1
      refine ⟨(digs (i + 1)).getLast hne, ?_, hdm _ (List.getLast_mem hne)⟩
      rw [ht, List.getLast?_append, List.getLast?_eq_some_getLast hne]; rfl
    obtain ⟨x, hx1, hx2⟩ := hlast
    obtain ⟨D, hD⟩ : ∃ D, digs (i + 1) = D := ⟨_, rfl⟩
    rw [hD] at ht hd4 hd1 hdm
    have hcm : ∀ n ∈ cutN (base ns) D.length, n ∈ ns := fun n hn => List.mem_of_mem_take (List.mem_of_mem_take hn)
    have hright : ∀ n ∈ cutN (base ns) D.length ++ D, rightB n = true := fun n hn => by
      rcases List.mem_append.1 hn with e | e
      · exact h.parse.right n (hcm n e)
      · exact digit_right (hdm n e)
    have hparse : Parse (bytesL t) (cutN (base ns) D.length ++ D) [] := by
      have e : bytesL t = encAll (cutN (base ns) D.length ++ D) := by rw [ht, encAll_append, encAll_digs hdm]
      rw [e]; exact parse_enc hright
    have hall : (cutN (base ns) D.length ++ D).all withinB = true := by
      rw [List.all_eq_true]
      intro n hn
      rcases List.mem_append.1 hn with e | e
      · exact List.all_eq_true.1 h.all n (hcm n e)
      · exact digit_within (hdm n e)
    have hbp := base_pos h
    have hfit : 1 ≤ fit (base ns) (40 - D.length) (base ns).length := by
      refine fit_most (base ns) (40 - D.length) (base ns).length 1 hbp ?_
      have e : offs (base ns) 1 = offs (base ns) 0 + wid ((base ns).getD 0 0) := offs_succ (base ns) 0 hbp
      have w := wid_pos' ((base ns).getD 0 0)
      rw [offs_0] at e
      omega
    obtain ⟨_, hpos, hok⟩ := name_ok h
    have h0 := hok 0 hpos
    have hbeg : begB (cutN (base ns) D.length ++ D) = true := by
      obtain ⟨f, hf⟩ : ∃ f, fit (base ns) (40 - D.length) (base ns).length = f + 1 := ⟨_, (Nat.sub_add_cancel hfit).symm⟩
      obtain ⟨j, hj⟩ : ∃ j, stemJ ns = j + 1 := by
        have hb2 := hbp
        unfold base at hb2
        rw [List.length_take] at hb2
        exact ⟨stemJ ns - 1, by omega⟩
      unfold cutN
      rw [hf]
      unfold base
      rw [hj]
      match ns, hpos, h0, D, hd1 with
      | n :: r, _, h0, y :: D, _ =>
        have e : ((n :: r).take (j + 1)).take (f + 1) ++ (y :: D) = n :: ((r.take j).take f ++ (y :: D)) := rfl
        rw [e]
        show (letterB n || (decide (n = 95) && decide (0 < ((r.take j).take f ++ (y :: D)).length))) = true
        have hl : 0 < ((r.take j).take f ++ (y :: D)).length := by rw [List.length_append, List.length_cons]; omega
        rw [decide_eq_true hl]
        rcases h0 with h | h | ⟨h, _⟩
        · have h' : letterB n = true := h
          rw [h']; rfl
        · have h' : n = 95 := h
          rw [decide_eq_true h']; simp
        · exact absurd rfl h
    exact ⟨_, hparse, hsz, key_end hx1 hx2, hbeg, hall⟩

end Go.Proofs.YtiikodihbgaaaaaDoor
