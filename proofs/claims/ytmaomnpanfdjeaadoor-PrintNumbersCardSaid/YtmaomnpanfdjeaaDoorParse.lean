/- Reading a whole text: the signs that it begins with and what is left, as plain lists; that there is one such reading alone. No program. -/
import Derived.Test.YtmaomnpanfdjeaaDoorStr
namespace Go.Proofs.YtmaomnpanfdjeaaDoor
open Go.RowKit

/-- The bytes of signs, one behind the other. -/
def encAll : List Int → List Int
  | [] => []
  | n :: ns => encI n ++ encAll ns
theorem encAll_append (a b : List Int) : encAll (a ++ b) = encAll a ++ encAll b := by
  induction a with
  | nil => rfl
  | cons n a ih => show encI n ++ encAll (a ++ b) = (encI n ++ encAll a) ++ encAll b; rw [ih, List.append_assoc]

/-- The list l is the bytes of the signs ns, then r, with which no sign begins. -/
structure Parse (l ns r : List Int) : Prop where
  eq : l = encAll ns ++ r
  right : ∀ n ∈ ns, rightB n = true
  stop : dec r = none

theorem parse_exists : ∀ (k : Nat) (l : List Int), l.length ≤ k → (∀ x ∈ l, 0 ≤ x) → ∃ ns r, Parse l ns r
  | 0, l, h, _ => by
    have : l = [] := List.eq_nil_of_length_eq_zero (by omega)
    subst this
    exact ⟨[], [], rfl, by simp, rfl⟩
  | k + 1, l, h, hp => by
    cases hd : dec l with
    | none => exact ⟨[], l, rfl, by simp, hd⟩
    | some n =>
      have hs : IsSign l n := sign_of_dec (fun b hb => hp b (List.mem_of_mem_head? hb)) hd
      obtain ⟨hr, t, rfl⟩ := hs
      have hw := (encI_length n)
      have hw1 : 1 ≤ wid n := by unfold wid; (repeat' split) <;> omega
      obtain ⟨ns, r, e1, e2, e3⟩ := parse_exists k t (by rw [List.length_append] at h; omega) (fun x hx => hp x (List.mem_append_right _ hx))
      refine ⟨n :: ns, r, ?_, ?_, e3⟩
      · show _ = (encI n ++ encAll ns) ++ r
        rw [List.append_assoc, ← e1]
      · intro m hm
        rcases List.mem_cons.1 hm with rfl | hm
        · exact hr
        · exact e2 m hm

theorem parse_unique : ∀ {ns l r ms q : List Int}, Parse l ns r → Parse l ms q → ns = ms ∧ r = q
  | [], l, r, [], q, h, k => ⟨rfl, h.eq.symm.trans k.eq⟩
  | [], l, r, m :: ms, q, h, k => by
    have hs : IsSign l m := ⟨k.right m (List.mem_cons_self ..), encAll ms ++ q, by rw [k.eq]; show (encI m ++ encAll ms) ++ q = _; rw [List.append_assoc]⟩
    have hl : l = r := h.eq
    have := dec_of_sign hs
    rw [hl, h.stop] at this; cases this
  | n :: ns, l, r, [], q, h, k => by
    have hs : IsSign l n := ⟨h.right n (List.mem_cons_self ..), encAll ns ++ r, by rw [h.eq]; show (encI n ++ encAll ns) ++ r = _; rw [List.append_assoc]⟩
    have hl : l = q := k.eq
    have := dec_of_sign hs
    rw [hl, k.stop] at this; cases this
  | n :: ns, l, r, m :: ms, q, h, k => by
    have h1 : l = encI n ++ (encAll ns ++ r) := by rw [h.eq]; show (encI n ++ encAll ns) ++ r = _; rw [List.append_assoc]
    have k1 : l = encI m ++ (encAll ms ++ q) := by rw [k.eq]; show (encI m ++ encAll ms) ++ q = _; rw [List.append_assoc]
    have e : n = m := sign_unique ⟨h.right n (List.mem_cons_self ..), _, h1⟩ ⟨k.right m (List.mem_cons_self ..), _, k1⟩
    subst e
    have e2 : encAll ns ++ r = encAll ms ++ q := List.append_cancel_left (h1.symm.trans k1)
    obtain ⟨a, b⟩ := parse_unique (l := encAll ns ++ r) ⟨rfl, fun x hx => h.right x (List.mem_cons_of_mem _ hx), h.stop⟩ ⟨e2, fun x hx => k.right x (List.mem_cons_of_mem _ hx), k.stop⟩
    exact ⟨by rw [a], b⟩

theorem parse_enc {ns : List Int} (h : ∀ n ∈ ns, rightB n = true) : Parse (encAll ns) ns [] := ⟨(List.append_nil _).symm, h, rfl⟩

/-- The offset of the j-th sign. -/
def offs (ns : List Int) (j : Nat) : Nat := (encAll (ns.take j)).length
theorem offs_0 (ns : List Int) : offs ns 0 = 0 := by simp [offs, encAll]
theorem offs_succ (ns : List Int) (j : Nat) (h : j < ns.length) : offs ns (j + 1) = offs ns j + wid (ns.getD j 0) := by
  unfold offs
  rw [List.take_succ_eq_append_getElem h, encAll_append, List.length_append]
  show _ + (encI _ ++ []).length = _
  rw [List.append_nil, encI_length]
  simp [List.getD, h]
theorem offs_all (ns : List Int) : offs ns ns.length = (encAll ns).length := by unfold offs; rw [List.take_length]

theorem offs_drop {l ns r : List Int} (h : Parse l ns r) (j : Nat) : l.drop (offs ns j) = encAll (ns.drop j) ++ r := by
  have e : encAll ns = encAll (ns.take j) ++ encAll (ns.drop j) := by rw [← encAll_append, List.take_append_drop]
  rw [h.eq, e, List.append_assoc]
  exact List.drop_left
theorem offs_le (ns : List Int) (j : Nat) : offs ns j ≤ (encAll ns).length := by
  have e : encAll ns = encAll (ns.take j) ++ encAll (ns.drop j) := by rw [← encAll_append, List.take_append_drop]
  rw [e, List.length_append]; unfold offs; omega

theorem drop_at {ns : List Int} {j : Nat} (h : j < ns.length) : ns.drop j = ns.getD j 0 :: ns.drop (j + 1) := by
  rw [List.drop_eq_getElem_cons h]; simp [List.getD, h]
theorem getD_mem {ns : List Int} {j : Nat} (h : j < ns.length) : ns.getD j 0 ∈ ns := by
  have : ns.getD j 0 = ns[j] := by simp [List.getD, h]
  rw [this]; exact List.getElem_mem h

theorem dec_at {l ns r : List Int} (h : Parse l ns r) {j : Nat} (hj : j < ns.length) : dec (l.drop (offs ns j)) = some (ns.getD j 0) := by
  apply dec_of_sign
  refine ⟨h.right _ (getD_mem hj), encAll (ns.drop (j + 1)) ++ r, ?_⟩
  rw [offs_drop h, drop_at hj]
  show (encI _ ++ encAll _) ++ r = _
  rw [List.append_assoc]
theorem dec_end {l ns r : List Int} (h : Parse l ns r) : dec (l.drop (offs ns ns.length)) = none := by
  rw [offs_drop h, List.drop_length]; exact h.stop

theorem length_encAll : ∀ (ns : List Int), ns.length ≤ (encAll ns).length
  | [] => Nat.le_refl _
  | n :: ns => by
    have h1 := length_encAll ns
    have h2 := encI_length n
    have h3 : 1 ≤ wid n := by unfold wid; (repeat' split) <;> omega
    show ns.length + 1 ≤ (encI n ++ encAll ns).length
    rw [List.length_append]; omega

theorem parse_length {l ns r : List Int} (h : Parse l ns r) : l.length = (encAll ns).length + r.length := by rw [h.eq, List.length_append]
theorem offs_lt {ns : List Int} {j : Nat} (hj : j < ns.length) : offs ns j + wid (ns.getD j 0) ≤ (encAll ns).length := by
  rw [← offs_succ ns j hj]; exact offs_le _ _

theorem bytesL_nonneg (s : ByteArray) : ∀ x ∈ bytesL s, 0 ≤ x := by
  intro x hx
  unfold bytesL at hx
  obtain ⟨b, _, rfl⟩ := List.mem_map.1 hx
  omega
theorem parse_str (s : ByteArray) : ∃ ns r, Parse (bytesL s) ns r := parse_exists _ _ (Nat.le_refl _) (bytesL_nonneg s)

theorem take_snocI {ns : List Int} {j : Nat} (h : j < ns.length) : ns.take (j + 1) = ns.take j ++ [ns.getD j 0] := by
  rw [List.take_succ_eq_append_getElem h]; simp [List.getD, h]

end Go.Proofs.YtmaomnpanfdjeaaDoor
