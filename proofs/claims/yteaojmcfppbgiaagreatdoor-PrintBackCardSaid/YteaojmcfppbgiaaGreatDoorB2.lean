/- parse's reader: which token is next, the first error; the tokens of a text in memory. What a call does that moves it. No program. -/
import Derived.Test.YteaojmcfppbgiaaGreatDoorA6
import Derived.Test.YteaojmcfppbgiaaGreatDoorB1
import Derived.ProofKit
import Derived.BigRegion
namespace Go.Proofs.YteaojmcfppbgiaaGreatDoor
open Go.RowKit
set_option linter.unusedVariables false
set_option maxRecDepth 100000

/-- A token: its kind, its text, its offset. -/
abbrev Tk := Int × ByteArray × Nat
def tk (L : List Tk) (k : Nat) : Tk := L.getD k (0, ⟨#[]⟩, 0)
/-- Which token is next, the first error's offset, the error. -/
structure St where
  k : Nat
  f : Int
  e : Int
/-- The tokens, the end behind, in block g. -/
structure Toks (w : World) (g : Nat) (L : List Tk) (cap : Nat) : Prop where
  le : L.length ≤ cap
  mx : cap ≤ maxLen
  lt : g < w.heap.size
  cell : ∀ i, i < L.length → w.cell? ⟨g, i * 3, none⟩ = some (.int .i64 (tk L i).1) ∧ w.cell? ⟨g, i * 3 + 1, none⟩ = some (.string (tk L i).2.1) ∧ w.cell? ⟨g, i * 3 + 2, none⟩ = some (.int .i64 (tk L i).2.2)
  txt : ∀ i, i < L.length → (tk L i).2.1.size ≤ maxLen
  fin : ∀ i, i < L.length → ((tk L i).1 = 5 ↔ i + 1 = L.length)
  few : L.length ≤ 8193
structure Rd (w : World) (r g : Nat) (L : List Tk) (cap : Nat) (s : St) : Prop where
  bk : Bk w r 133 #[.slice (some ⟨g, s.k * 3, none⟩) (L.length - s.k) (cap - s.k), .int .i64 s.f, .int .i64 s.e]
  lt : s.k < L.length
  ne : g < r
  toks : Toks w g L cap
/-- A call that writes the reader alone, and lays new blocks. -/
def Kp (r : Nat) (w w' : World) : Prop := w.grownBy w' (some r)
theorem Kp.refl (r : Nat) (w : World) : Kp r w w := World.grownBy.refl w _
theorem Kp.size {r : Nat} {w w' : World} (h : Kp r w w') : w.heap.size ≤ w'.heap.size := World.grownBy.size h
theorem Kp.trans {r : Nat} {a b c : World} (h : Kp r a b) (k : Kp r b c) : Kp r a c := World.grownBy.trans h k
theorem Kp.of {r : Nat} {w w' : World} (h : Below w.heap.size w w') : Kp r w w' := ⟨h.os, h.tape, h.output, h.size, fun k hk _ => h.block k hk⟩
theorem Kp.cell {r : Nat} {w w' : World} (h : Kp r w w') {b : Nat} (o : Nat) (hb : b < w.heap.size) (hr : b ≠ r) : w'.cell? ⟨b, o, none⟩ = w.cell? ⟨b, o, none⟩ :=
  World.cell?_of_block (a := ⟨b, o, none⟩) (h.block b hb (fun e => hr (by injection e)))
theorem Kp.alloc {r : Nat} {w w' : World} (h : Kp r w w') (o : Obj) : Kp r w (w'.alloc o) := h.trans (.of ((Below.refl _ _).alloc (Nat.le_refl _) o))
theorem Kp.drew {r : Nat} {w w' : World} (h : Kp r w w') : Kp r w w'.drew := ⟨h.os, h.tape, h.output, h.size, h.block⟩
theorem Kp.set {r : Nat} {w w' : World} (h : Kp r w w') (o : Nat) (v : Value) : Kp r w (w'.setCell ⟨r, o, none⟩ v) :=
  ⟨h.os, h.tape, h.output, by simp [World.setCell]; exact h.size, fun k hk hr => (Below.heap_setCell w' ⟨r, o, none⟩ v k (fun e => hr (by rw [e]))).trans (h.block k hk hr)⟩
theorem Kp.setNew {r : Nat} {w w' : World} (h : Kp r w w') {a : Addr} (ha : w.heap.size ≤ a.block) (v : Value) : Kp r w (w'.setCell a v) :=
  ⟨h.os, h.tape, h.output, by simp [World.setCell]; exact h.size, fun k hk hr => (Below.heap_setCell w' a v k (by omega)).trans (h.block k hk hr)⟩
theorem Toks.kept {w w' : World} {r g : Nat} {L : List Tk} {cap : Nat} (h : Toks w g L cap) (hk : Kp r w w') (hr : g ≠ r) : Toks w' g L cap := by
  refine ⟨h.le, h.mx, Nat.lt_of_lt_of_le h.lt hk.size, fun i hi => ?_, h.txt, h.fin, h.few⟩
  obtain ⟨a, b, c⟩ := h.cell i hi
  exact ⟨by rw [hk.cell _ h.lt hr, a], by rw [hk.cell _ h.lt hr, b], by rw [hk.cell _ h.lt hr, c]⟩
theorem Rd.below {w w' : World} {r g : Nat} {L : List Tk} {cap : Nat} {s : St} (h : Rd w r g L cap s) (hb : Below w.heap.size w w') : Rd w' r g L cap s :=
  ⟨h.bk.below hb h.bk.lt, h.lt, h.ne, h.toks.kept (Kp.of (r := r) hb) (Nat.ne_of_lt h.ne)⟩
theorem Rd.alloc {w : World} {r g : Nat} {L : List Tk} {cap : Nat} {s : St} (h : Rd w r g L cap s) (o : Obj) : Rd (w.alloc o) r g L cap s := h.below ((Below.refl _ _).alloc (Nat.le_refl _) o)
/-- The reader, moved. -/
theorem Rd.moved {w w' : World} {r g : Nat} {L : List Tk} {cap : Nat} {s s' : St} (h : Rd w r g L cap s) (hk : Kp r w w') (hb : Bk w' r 133 #[.slice (some ⟨g, s'.k * 3, none⟩) (L.length - s'.k) (cap - s'.k), .int .i64 s'.f, .int .i64 s'.e]) (hlt : s'.k < L.length) : Rd w' r g L cap s' :=
  ⟨hb, hlt, h.ne, h.toks.kept hk (Nat.ne_of_lt h.ne)⟩
theorem Rd.sz {w : World} {r g : Nat} {L : List Tk} {cap : Nat} {s : St} (h : Rd w r g L cap s) : ∃ m c : Nat, 0 < m ∧ m ≤ 8193 ∧ m ≤ c ∧ c ≤ maxLen ∧ m = L.length - s.k ∧ c = cap - s.k := by
  have := h.lt; have := h.toks.le; have := h.toks.mx; have := h.toks.few
  exact ⟨_, _, by omega, by omega, by omega, by omega, rfl, rfl⟩
/-- What its cells hold, the token's too. -/
theorem Rd.cells {w : World} {r g : Nat} {L : List Tk} {cap : Nat} {s : St} (h : Rd w r g L cap s) {m c : Nat} (hm : m = L.length - s.k) (hc : c = cap - s.k) :
    w.cell? ⟨r, 0, none⟩ = some (.slice (some ⟨g, s.k * 3, none⟩) m c) ∧ w.cell? ⟨r, 1, none⟩ = some (.int .i64 s.f) ∧ w.cell? ⟨r, 2, none⟩ = some (.int .i64 s.e) ∧
    w.cell? ⟨g, s.k * 3, none⟩ = some (.int .i64 (tk L s.k).1) ∧ w.cell? ⟨g, s.k * 3 + 1, none⟩ = some (.string (tk L s.k).2.1) ∧ w.cell? ⟨g, s.k * 3 + 2, none⟩ = some (.int .i64 (tk L s.k).2.2) := by
  subst hm hc
  obtain ⟨a, b, d⟩ := h.toks.cell s.k h.lt
  exact ⟨h.bk.cell 0, h.bk.cell 1, h.bk.cell 2, a, b, d⟩

/-- What is next. -/
def isB (L : List Tk) (k : Nat) (d : Int) (u : ByteArray) : Bool := decide ((tk L k).1 = d) && ((tk L k).2.1.toList == u.toList)
def mkB (L : List Tk) (k : Nat) (u : ByteArray) : Bool := isB L k 4 u
def kyB (L : List Tk) (k : Nat) (u : ByteArray) : Bool := isB L k 2 u
def loB (L : List Tk) (k : Nat) : Bool := isB L k 1 ⟨#[95]⟩
def nmdB (L : List Tk) (k : Nat) : Bool := decide ((tk L k).1 = 1) && !loB L k
def enB (L : List Tk) (k : Nat) : Bool := decide ((tk L k).1 = 5)
def fnB (L : List Tk) (k : Nat) : Bool := mkB L k ⟨#[40]⟩ && (decide ((tk L (k + 1)).1 = 1) && (decide ((tk L (k + 2)).1 = 4) && ((tk L (k + 2)).2.1.toList == [58])))
def agB (L : List Tk) (k : Nat) : Bool := nmdB L k || (kyB L k ⟨#[83, 101, 116]⟩ || (mkB L k ⟨#[40]⟩ && !fnB L k))
def ptB (L : List Tk) (k : Nat) : Bool := nmdB L k || (loB L k || (mkB L k ⟨#[40]⟩ || mkB L k ⟨#[46]⟩))
/-- How it moves. -/
def stepS (L : List Tk) (s : St) : St := if s.k + 1 < L.length then { s with k := s.k + 1 } else s
def failS (L : List Tk) (s : St) (a e : Int) : St := ⟨L.length - 1, if s.e = 0 then a else s.f, if s.e = 0 then e else s.e⟩
def badS (L : List Tk) (s : St) : St := failS L s (tk L s.k).2.2 1
def takeS (L : List Tk) (u : ByteArray) (s : St) : St := stepS L (if mkB L s.k u then s else badS L s)
def nameS (L : List Tk) (s : St) : St := if nmdB L s.k then s else badS L s
def varS (L : List Tk) (s : St) : St := if (tk L s.k).1 = 1 then s else badS L s

theorem isB_kind {L : List Tk} {k : Nat} {d : Int} {u : ByteArray} (h : isB L k d u = true) : (tk L k).1 = d := by
  simp [isB] at h; exact h.1
theorem Rd.next {w : World} {r g : Nat} {L : List Tk} {cap : Nat} {s : St} (h : Rd w r g L cap s) {i : Nat} (hi : i < L.length) (hk : (tk L i).1 ≠ 5) : i + 1 < L.length := by
  have := (h.toks.fin i hi).2
  by_cases e : i + 1 = L.length
  · exact absurd (this e) hk
  · omega

end Go.Proofs.YteaojmcfppbgiaaGreatDoor

/- parse's reader: which token is next (next, mark, key, low, named, goesOn, ..). Nothing is written. -/
namespace Go.Proofs.YteaojmcfppbgiaaGreatDoor
open Go.RowKit
set_option linter.unusedVariables false
set_option maxRecDepth 100000

/-- It tells b, and nothing has changed. -/
def Tells (b : Bool) (w : World) (e : Ending) (w' : World) : Prop := e = .returned (.bool b) ∧ w = w'

set_option maxHeartbeats 1000000 in
theorem next_tells {w : World} {r g : Nat} {L : List Tk} {cap : Nat} {s : St} (h : Rd w r g L cap s) (d : Int) (u : ByteArray) :
    Calls Tryz.prog 153 #[.pointer (some ⟨r, 0, none⟩), .int .i64 d, .string u] w (Tells (isB L s.k d u) w) := by
  obtain ⟨m, c, h0, h1, h2, h3, hm, hc⟩ := h.sz
  obtain ⟨c0, c1, c2, t0, t1, t2⟩ := h.cells hm hc
  clear hm hc h
  unfold isB
  obtain ⟨kd, hkd⟩ : ∃ x, (tk L s.k).1 = x := ⟨_, rfl⟩
  obtain ⟨tx, htx⟩ : ∃ x, (tk L s.k).2.1 = x := ⟨_, rfl⟩
  obtain ⟨k3, hk3⟩ : ∃ x, s.k * 3 = x := ⟨_, rfl⟩
  rw [hkd, htx]
  rw [hk3] at c0 t0 t1 t2
  rw [hkd] at t0
  rw [htx] at t1
  clear hkd htx hk3 t2
  have hm0 : (0 : Int) < (m : Int) := by omega
  unfold maxLen at h3
  by_cases hd : kd = d
  · subst hd
    go_enter Tryz.func153, Tryz.ntmps153
    go_wp2_with fail
    go_ret
    exact ⟨by simp, rfl⟩
  · have hb : (kd == d) = false := by simpa using hd
    go_enter Tryz.func153, Tryz.ntmps153
    go_wp2_with fail
    go_ret
    exact ⟨by simp [hd], rfl⟩

set_option maxHeartbeats 1000000 in
theorem mark_tells {w : World} {r g : Nat} {L : List Tk} {cap : Nat} {s : St} (h : Rd w r g L cap s) (u : ByteArray) : Calls Tryz.prog 111 #[.pointer (some ⟨r, 0, none⟩), .string u] w (Tells (mkB L s.k u) w) := by
  have H := Lib.hid (next_tells h 4 u)
  unfold mkB
  obtain ⟨b, hb⟩ : ∃ b, isB L s.k 4 u = b := ⟨_, rfl⟩
  rw [hb] at H ⊢
  clear hb h
  go_enter Tryz.func111, Tryz.ntmps111
  go_wp2_with fail
  refine H.out.mono ?_; rintro e w' ⟨rfl, rfl⟩
  go_wp2_with fail
  go_ret
  exact ⟨rfl, rfl⟩
set_option maxHeartbeats 1000000 in
theorem key_tells {w : World} {r g : Nat} {L : List Tk} {cap : Nat} {s : St} (h : Rd w r g L cap s) (u : ByteArray) : Calls Tryz.prog 168 #[.pointer (some ⟨r, 0, none⟩), .string u] w (Tells (kyB L s.k u) w) := by
  have H := Lib.hid (next_tells h 2 u)
  unfold kyB
  obtain ⟨b, hb⟩ : ∃ b, isB L s.k 2 u = b := ⟨_, rfl⟩
  rw [hb] at H ⊢
  clear hb h
  go_enter Tryz.func168, Tryz.ntmps168
  go_wp2_with fail
  refine H.out.mono ?_; rintro e w' ⟨rfl, rfl⟩
  go_wp2_with fail
  go_ret
  exact ⟨rfl, rfl⟩
set_option maxHeartbeats 1000000 in
theorem low_tells {w : World} {r g : Nat} {L : List Tk} {cap : Nat} {s : St} (h : Rd w r g L cap s) : Calls Tryz.prog 119 #[.pointer (some ⟨r, 0, none⟩)] w (Tells (loB L s.k) w) := by
  have H := Lib.hid (next_tells h 1 ⟨#[95]⟩)
  unfold loB
  obtain ⟨b, hb⟩ : ∃ b, isB L s.k 1 ⟨#[95]⟩ = b := ⟨_, rfl⟩
  rw [hb] at H ⊢
  clear hb h
  go_enter Tryz.func119, Tryz.ntmps119
  go_wp2_with fail
  refine H.out.mono ?_; rintro e w' ⟨rfl, rfl⟩
  go_wp2_with fail
  go_ret
  exact ⟨rfl, rfl⟩
set_option maxHeartbeats 1000000 in
theorem named_tells {w : World} {r g : Nat} {L : List Tk} {cap : Nat} {s : St} (h : Rd w r g L cap s) : Calls Tryz.prog 118 #[.pointer (some ⟨r, 0, none⟩)] w (Tells (nmdB L s.k) w) := by
  have H := Lib.hid (low_tells h)
  obtain ⟨m, c, h0, h1, h2, h3, hm, hc⟩ := h.sz
  obtain ⟨c0, c1, c2, t0, t1, t2⟩ := h.cells hm hc
  clear hm hc h
  unfold nmdB
  obtain ⟨b, hb⟩ : ∃ b, loB L s.k = b := ⟨_, rfl⟩
  obtain ⟨kd, hkd⟩ : ∃ x, (tk L s.k).1 = x := ⟨_, rfl⟩
  obtain ⟨k3, hk3⟩ : ∃ x, s.k * 3 = x := ⟨_, rfl⟩
  rw [hb] at H
  rw [hkd, hb]
  rw [hk3] at c0 t0 t1 t2
  rw [hkd] at t0
  clear hb hkd hk3 t1 t2
  have hm0 : (0 : Int) < (m : Int) := by omega
  unfold maxLen at h3
  by_cases hd : kd = 1
  · subst hd
    go_enter Tryz.func118, Tryz.ntmps118
    go_wp2_with fail
    refine H.out.mono ?_; rintro e w' ⟨rfl, rfl⟩
    go_wp2_with fail
    go_ret
    exact ⟨by simp, rfl⟩
  · have hb : (kd == 1) = false := by simpa using hd
    go_enter Tryz.func118, Tryz.ntmps118
    go_wp2_with fail
    go_ret
    exact ⟨by simp [hd], rfl⟩
set_option maxHeartbeats 1000000 in
theorem goesOn_tells {w : World} {r g : Nat} {L : List Tk} {cap : Nat} {s : St} (h : Rd w r g L cap s) : Calls Tryz.prog 74 #[.pointer (some ⟨r, 0, none⟩)] w (Tells (!enB L s.k) w) := by
  obtain ⟨m, c, h0, h1, h2, h3, hm, hc⟩ := h.sz
  obtain ⟨c0, c1, c2, t0, t1, t2⟩ := h.cells hm hc
  clear hm hc h
  unfold enB
  obtain ⟨kd, hkd⟩ : ∃ x, (tk L s.k).1 = x := ⟨_, rfl⟩
  obtain ⟨k3, hk3⟩ : ∃ x, s.k * 3 = x := ⟨_, rfl⟩
  rw [hkd]
  rw [hk3] at c0 t0 t1 t2
  rw [hkd] at t0
  clear hkd hk3 t1 t2
  have hm0 : (0 : Int) < (m : Int) := by omega
  unfold maxLen at h3
  go_enter Tryz.func74, Tryz.ntmps74
  go_wp2_with fail
  go_ret
  refine ⟨?_, rfl⟩
  by_cases hd : kd = 5 <;> simp [hd]
set_option maxHeartbeats 1000000 in
theorem bindNext_tells {w : World} {r g : Nat} {L : List Tk} {cap : Nat} {s : St} (h : Rd w r g L cap s) : Calls Tryz.prog 131 #[.pointer (some ⟨r, 0, none⟩)] w (Tells (mkB L s.k ⟨#[40]⟩) w) := by
  have H := Lib.hid (mark_tells h ⟨#[40]⟩)
  obtain ⟨b, hb⟩ : ∃ b, mkB L s.k ⟨#[40]⟩ = b := ⟨_, rfl⟩
  rw [hb] at H ⊢
  clear hb h
  go_enter Tryz.func131, Tryz.ntmps131
  go_wp2_with fail
  refine H.out.mono ?_; rintro e w' ⟨rfl, rfl⟩
  go_wp2_with fail
  go_ret
  exact ⟨rfl, rfl⟩
set_option maxHeartbeats 1000000 in
theorem inBody_tells {w : World} {r g : Nat} {L : List Tk} {cap : Nat} {s : St} (h : Rd w r g L cap s) : Calls Tryz.prog 135 #[.pointer (some ⟨r, 0, none⟩)] w (Tells (!mkB L s.k ⟨#[125]⟩) w) := by
  have H := Lib.hid (mark_tells h ⟨#[125]⟩)
  obtain ⟨b, hb⟩ : ∃ b, mkB L s.k ⟨#[125]⟩ = b := ⟨_, rfl⟩
  rw [hb] at H ⊢
  clear hb h
  go_enter Tryz.func135, Tryz.ntmps135
  go_wp2_with fail
  refine H.out.mono ?_; rintro e w' ⟨rfl, rfl⟩
  go_wp2_with fail
  go_ret
  exact ⟨rfl, rfl⟩
set_option maxHeartbeats 1000000 in
theorem patternNext_tells {w : World} {r g : Nat} {L : List Tk} {cap : Nat} {s : St} (h : Rd w r g L cap s) : Calls Tryz.prog 81 #[.pointer (some ⟨r, 0, none⟩)] w (Tells (ptB L s.k) w) := by
  have H1 := Lib.hid (named_tells h)
  have H2 := Lib.hid (low_tells h)
  have H3 := Lib.hid (mark_tells h ⟨#[40]⟩)
  have H4 := Lib.hid (mark_tells h ⟨#[46]⟩)
  unfold ptB
  obtain ⟨b1, hb1⟩ : ∃ b, nmdB L s.k = b := ⟨_, rfl⟩
  obtain ⟨b2, hb2⟩ : ∃ b, loB L s.k = b := ⟨_, rfl⟩
  obtain ⟨b3, hb3⟩ : ∃ b, mkB L s.k ⟨#[40]⟩ = b := ⟨_, rfl⟩
  obtain ⟨b4, hb4⟩ : ∃ b, mkB L s.k ⟨#[46]⟩ = b := ⟨_, rfl⟩
  rw [hb1] at H1
  rw [hb2] at H2
  rw [hb3] at H3
  rw [hb4] at H4
  rw [hb1, hb2, hb3, hb4]
  clear hb1 hb2 hb3 hb4 h
  cases b1 with
  | true =>
    go_enter Tryz.func81, Tryz.ntmps81
    go_wp2_with fail
    refine H1.out.mono ?_; rintro e w' ⟨rfl, rfl⟩
    go_wp2_with fail
    go_ret
    exact ⟨rfl, rfl⟩
  | false =>
    cases b2 with
    | true =>
      go_enter Tryz.func81, Tryz.ntmps81
      go_wp2_with fail
      refine H1.out.mono ?_; rintro e w' ⟨rfl, rfl⟩
      go_wp2_with fail
      refine H2.out.mono ?_; rintro e w' ⟨rfl, rfl⟩
      go_wp2_with fail
      go_ret
      exact ⟨rfl, rfl⟩
    | false =>
      cases b3 with
      | true =>
        go_enter Tryz.func81, Tryz.ntmps81
        go_wp2_with fail
        refine H1.out.mono ?_; rintro e w' ⟨rfl, rfl⟩
        go_wp2_with fail
        refine H2.out.mono ?_; rintro e w' ⟨rfl, rfl⟩
        go_wp2_with fail
        refine H3.out.mono ?_; rintro e w' ⟨rfl, rfl⟩
        go_wp2_with fail
        go_ret
        exact ⟨rfl, rfl⟩
      | false =>
        go_enter Tryz.func81, Tryz.ntmps81
        go_wp2_with fail
        refine H1.out.mono ?_; rintro e w' ⟨rfl, rfl⟩
        go_wp2_with fail
        refine H2.out.mono ?_; rintro e w' ⟨rfl, rfl⟩
        go_wp2_with fail
        refine H3.out.mono ?_; rintro e w' ⟨rfl, rfl⟩
        go_wp2_with fail
        refine H4.out.mono ?_; rintro e w' ⟨rfl, rfl⟩
        go_wp2_with fail
        go_ret
        exact ⟨rfl, rfl⟩

end Go.Proofs.YteaojmcfppbgiaaGreatDoor

/- parse's reader: does the type of functions begin, does an argument begin? Nothing is written. -/
namespace Go.Proofs.YteaojmcfppbgiaaGreatDoor
open Go.RowKit
set_option linter.unusedVariables false
set_option maxRecDepth 100000

theorem Rd.two {w : World} {r g : Nat} {L : List Tk} {cap : Nat} {s : St} (h : Rd w r g L cap s) (j : Nat) (hj : s.k + j < L.length) :
    w.cell? ⟨g, s.k * 3 + j * 3, none⟩ = some (.int .i64 (tk L (s.k + j)).1) ∧ w.cell? ⟨g, s.k * 3 + j * 3 + 1, none⟩ = some (.string (tk L (s.k + j)).2.1) := by
  obtain ⟨a, b, _⟩ := h.toks.cell (s.k + j) hj
  rw [Nat.add_mul] at a b
  exact ⟨a, b⟩

set_option maxHeartbeats 1000000 in
theorem fnNext_tells {w : World} {r g : Nat} {L : List Tk} {cap : Nat} {s : St} (h : Rd w r g L cap s) : Calls Tryz.prog 114 #[.pointer (some ⟨r, 0, none⟩)] w (Tells (fnB L s.k) w) := by
  have H := Lib.hid (mark_tells h ⟨#[40]⟩)
  obtain ⟨m, c, h0, h1, h2, h3, hm, hc⟩ := h.sz
  obtain ⟨c0, c1, c2, t0, t1, t2⟩ := h.cells hm hc
  unfold maxLen at h3
  unfold fnB
  cases hb : mkB L s.k ⟨#[40]⟩ with
  | false =>
    rw [hb] at H
    clear hm hc h hb
    go_enter Tryz.func114, Tryz.ntmps114
    go_wp2_with fail
    refine H.out.mono ?_; rintro e w' ⟨rfl, rfl⟩
    go_wp2_with fail
    go_ret
    exact ⟨rfl, rfl⟩
  | true =>
    rw [hb] at H
    have hlt1 : s.k + 1 < L.length := h.next h.lt (by rw [isB_kind hb]; decide)
    have hm1 : (1 : Int) < (m : Int) := by omega
    obtain ⟨u0, u1⟩ := h.two 1 hlt1
    have hn1 := fun h5 => h.next hlt1 h5
    have hn2 := fun h5 => h.two 2 h5
    obtain ⟨kd, hkd⟩ : ∃ x, (tk L (s.k + 1)).1 = x := ⟨_, rfl⟩
    obtain ⟨kd2, hkd2⟩ : ∃ x, (tk L (s.k + 2)).1 = x := ⟨_, rfl⟩
    obtain ⟨tx2, htx2⟩ : ∃ x, (tk L (s.k + 2)).2.1 = x := ⟨_, rfl⟩
    obtain ⟨k3, hk3⟩ : ∃ x, s.k * 3 = x := ⟨_, rfl⟩
    rw [hkd] at u0 hn1
    rw [hkd2, htx2] at hn2
    rw [hk3] at u0 u1 c0 hn2
    rw [hkd, hkd2, htx2]
    simp only [Nat.one_mul, Nat.reduceMul] at u0 u1 hn2
    by_cases hd : kd = 1
    · subst hd
      have hlt2 : s.k + 2 < L.length := hn1 (by decide)
      obtain ⟨v0, v1⟩ := hn2 hlt2
      have hm2 : (2 : Int) < (m : Int) := by omega
      clear hn1 hn2 hm hc h hb hkd hkd2 htx2 hk3 t0 t1 t2 hlt1 hlt2
      by_cases hd2 : kd2 = 4
      · subst hd2
        go_enter Tryz.func114, Tryz.ntmps114
        go_wp2_with fail
        refine H.out.mono ?_; rintro e w' ⟨rfl, rfl⟩
        go_wp2_with fail
        go_ret
        exact ⟨by simp, rfl⟩
      · have hb2 : (kd2 == 4) = false := by simpa using hd2
        go_enter Tryz.func114, Tryz.ntmps114
        go_wp2_with fail
        refine H.out.mono ?_; rintro e w' ⟨rfl, rfl⟩
        go_wp2_with fail
        go_ret
        exact ⟨by simp [hd2], rfl⟩
    · have hb1 : (kd == 1) = false := by simpa using hd
      clear hn1 hn2 hm hc h hb hkd hkd2 htx2 hk3 t0 t1 t2 hlt1
      go_enter Tryz.func114, Tryz.ntmps114
      go_wp2_with fail
      refine H.out.mono ?_; rintro e w' ⟨rfl, rfl⟩
      go_wp2_with fail
      go_ret
      exact ⟨by simp [hd], rfl⟩

set_option maxHeartbeats 1000000 in
theorem atomNext_tells {w : World} {r g : Nat} {L : List Tk} {cap : Nat} {s : St} (h : Rd w r g L cap s) : Calls Tryz.prog 156 #[.pointer (some ⟨r, 0, none⟩)] w (Tells (agB L s.k) w) := by
  have H1 := Lib.hid (named_tells h)
  have H2 := Lib.hid (key_tells h ⟨#[83, 101, 116]⟩)
  have H3 := Lib.hid (mark_tells h ⟨#[40]⟩)
  have H4 := Lib.hid (fnNext_tells h)
  unfold agB
  obtain ⟨b1, hb1⟩ : ∃ b, nmdB L s.k = b := ⟨_, rfl⟩
  obtain ⟨b2, hb2⟩ : ∃ b, kyB L s.k ⟨#[83, 101, 116]⟩ = b := ⟨_, rfl⟩
  obtain ⟨b3, hb3⟩ : ∃ b, mkB L s.k ⟨#[40]⟩ = b := ⟨_, rfl⟩
  obtain ⟨b4, hb4⟩ : ∃ b, fnB L s.k = b := ⟨_, rfl⟩
  rw [hb1] at H1
  rw [hb2] at H2
  rw [hb3] at H3
  rw [hb4] at H4
  rw [hb1, hb2, hb3, hb4]
  clear hb1 hb2 hb3 hb4 h
  cases b1 with
  | true =>
    go_enter Tryz.func156, Tryz.ntmps156
    go_wp2_with fail
    refine H1.out.mono ?_; rintro e w' ⟨rfl, rfl⟩
    go_wp2_with fail
    go_ret
    exact ⟨by simp, rfl⟩
  | false =>
    cases b2 with
    | true =>
      go_enter Tryz.func156, Tryz.ntmps156
      go_wp2_with fail
      refine H1.out.mono ?_; rintro e w' ⟨rfl, rfl⟩
      go_wp2_with fail
      refine H2.out.mono ?_; rintro e w' ⟨rfl, rfl⟩
      go_wp2_with fail
      go_ret
      exact ⟨by simp, rfl⟩
    | false =>
      cases b3 with
      | false =>
        go_enter Tryz.func156, Tryz.ntmps156
        go_wp2_with fail
        refine H1.out.mono ?_; rintro e w' ⟨rfl, rfl⟩
        go_wp2_with fail
        refine H2.out.mono ?_; rintro e w' ⟨rfl, rfl⟩
        go_wp2_with fail
        refine H3.out.mono ?_; rintro e w' ⟨rfl, rfl⟩
        go_wp2_with fail
        go_ret
        exact ⟨by simp, rfl⟩
      | true =>
        go_enter Tryz.func156, Tryz.ntmps156
        go_wp2_with fail
        refine H1.out.mono ?_; rintro e w' ⟨rfl, rfl⟩
        go_wp2_with fail
        refine H2.out.mono ?_; rintro e w' ⟨rfl, rfl⟩
        go_wp2_with fail
        refine H3.out.mono ?_; rintro e w' ⟨rfl, rfl⟩
        go_wp2_with fail
        refine H4.out.mono ?_; rintro e w' ⟨rfl, rfl⟩
        go_wp2_with fail
        go_ret
        exact ⟨by simp, rfl⟩

end Go.Proofs.YteaojmcfppbgiaaGreatDoor

/- parse's reader: how it moves (fail, bad, step, take, takeName, takeVar). The reader alone is written. -/
namespace Go.Proofs.YteaojmcfppbgiaaGreatDoor
open Go.RowKit
set_option linter.unusedVariables false
set_option maxRecDepth 100000

/-- It comes back with v, and the reader is there. -/
def Moves (v : Value) (r g : Nat) (L : List Tk) (cap : Nat) (s' : St) (w : World) (e : Ending) (w' : World) : Prop := e = .returned v ∧ Rd w' r g L cap s' ∧ Kp r w w'
def tkV (t : Tk) : Value := .agg #[.int .i64 t.1, .string t.2.1, .int .i64 t.2.2]

set_option maxHeartbeats 2000000 in
theorem fail_moves {w : World} {r g : Nat} {L : List Tk} {cap : Nat} {s : St} (h : Rd w r g L cap s) (a e : Int) :
    Calls Tryz.prog 110 #[.pointer (some ⟨r, 0, none⟩), .int .i64 a, .int .i64 e] w (Moves (.tuple #[]) r g L cap (failS L s a e) w) := by
  have HR := Lib.hid h
  obtain ⟨m, c, h0, h1, h2, h3, hm, hc⟩ := h.sz
  obtain ⟨c0, c1, c2, -, -, -⟩ := h.cells hm hc
  have hz : ∀ o, w.frozen? ⟨r, o, none⟩ = false := fun o => h.bk.cold o
  have hlt := h.bk.lt
  have hl := h.lt
  obtain ⟨n, rfl⟩ : ∃ n, m = n + 1 := ⟨m - 1, by omega⟩
  obtain ⟨k3, hk3⟩ : ∃ x, s.k * 3 = x := ⟨_, rfl⟩
  rw [hk3] at c0
  have HBK : Hid (Bk w r 133 #[.slice (some ⟨g, k3, none⟩) (n + 1) c, .int .i64 s.f, .int .i64 s.e]) := Lib.hid (by rw [← hk3, hm, hc]; exact h.bk)
  have HEQ : Hid (k3 + n * 3 = (L.length - 1) * 3 ∧ 1 = L.length - (L.length - 1) ∧ c - n = cap - (L.length - 1) ∧ L.length - 1 < L.length) := Lib.hid ⟨by omega, by omega, by omega, by omega⟩
  unfold maxLen at h3
  have hn0 : (0 : Int) ≤ (n : Int) := by omega
  have hn1 : (n : Int) ≤ (n : Int) + 1 := by omega
  have hn2 : n ≤ 8193 := by omega
  have hnc : n + 1 ≤ c := by omega
  clear hm hc hk3 h hl h0 h1
  have hK0 : Hid (∀ (f' e' : Int) (W V : World), Kp r w W → Bk W r 133 #[.slice (some ⟨g, k3, none⟩) (n + 1) c, .int .i64 f', .int .i64 e'] → V = (W.setCell ⟨r, 0, none⟩ (.slice (some ⟨g, k3 + n * 3, none⟩) 1 (c - n))).drew →
      Rd V r g L cap ⟨L.length - 1, f', e'⟩ ∧ Kp r w V) := Lib.hid (by
    rintro f' e' W V hk hb rfl
    obtain ⟨q1, q2, q3, q4⟩ := HEQ.out
    have hk' := (hk.set 0 (.slice (some ⟨g, k3 + n * 3, none⟩) 1 (c - n))).drew
    refine ⟨HR.out.moved hk' ?_ q4, hk'⟩
    have := hb.at_ 0 (.slice (some ⟨g, k3 + n * 3, none⟩) 1 (c - n))
    rw [q1, q3] at this ⊢
    show Bk (W.setCell _ _) _ _ _
    simp only [← q2]
    exact this)
  by_cases he : s.e = 0
  · have hb : (s.e == 0) = true := by simpa using he
    have HF : Hid (failS L s a e = ⟨L.length - 1, a, e⟩) := Lib.hid (by unfold failS; rw [if_pos he, if_pos he])
    clear he
    obtain ⟨W, hW⟩ : ∃ W, (w.setCell ⟨r, 1, none⟩ (.int .i64 a)).setCell ⟨r, 2, none⟩ (.int .i64 e) = W := ⟨_, rfl⟩
    have hb2 : Bk W r 133 #[.slice (some ⟨g, k3, none⟩) (n + 1) c, .int .i64 a, .int .i64 e] := by rw [← hW]; exact (HBK.out.at_ 1 (.int .i64 a)).at_ 2 (.int .i64 e)
    have d0 : W.cell? ⟨r, 0, none⟩ = some (.slice (some ⟨g, k3, none⟩) (n + 1) c) := hb2.cell 0
    have dz : ∀ o, W.frozen? ⟨r, o, none⟩ = false := fun o => hb2.cold o
    have dl := hb2.lt
    have HB2 := Lib.hid hb2
    have HK2 : Hid (Kp r w W) := Lib.hid (by rw [← hW]; exact ((Kp.refl r w).set 1 _).set 2 _)
    have HW := Lib.hid hW
    clear hb2 hW
    go_enter Tryz.func110, Tryz.ntmps110
    go_wp2_with fail
    rw [HW.out]
    clear c0 c1 c2 hz hlt hb
    go_region
    all_goals
      go_wp2_with fail
      go_end0
      obtain ⟨z1, z2⟩ := hK0.out a e W _ HK2.out HB2.out rfl
      exact ⟨rfl, by rw [HF.out]; exact z1, z2⟩
  · have hb : (s.e == 0) = false := by simpa using he
    have HF : Hid (failS L s a e = ⟨L.length - 1, s.f, s.e⟩) := Lib.hid (by unfold failS; rw [if_neg he, if_neg he])
    clear he
    go_enter Tryz.func110, Tryz.ntmps110
    go_wp2_with fail
    go_region
    all_goals
      go_wp2_with fail
      go_end0
      obtain ⟨z1, z2⟩ := hK0.out s.f s.e w _ (Kp.refl r w) HBK.out rfl
      exact ⟨rfl, by rw [HF.out]; exact z1, z2⟩

set_option maxHeartbeats 1000000 in
theorem bad_moves {w : World} {r g : Nat} {L : List Tk} {cap : Nat} {s : St} (h : Rd w r g L cap s) :
    Calls Tryz.prog 75 #[.pointer (some ⟨r, 0, none⟩)] w (Moves (.tuple #[]) r g L cap (badS L s) w) := by
  have H := Lib.hid (fail_moves h (tk L s.k).2.2 1)
  obtain ⟨m, c, h0, h1, h2, h3, hm, hc⟩ := h.sz
  obtain ⟨c0, c1, c2, t0, t1, t2⟩ := h.cells hm hc
  have hm0 : (0 : Int) < (m : Int) := by omega
  unfold maxLen at h3
  unfold badS
  obtain ⟨x, hx⟩ : ∃ x, failS L s (tk L s.k).2.2 1 = x := ⟨_, rfl⟩
  rw [hx] at H ⊢
  obtain ⟨k3, hk3⟩ : ∃ x, s.k * 3 = x := ⟨_, rfl⟩
  rw [hk3] at c0 t0 t1 t2
  obtain ⟨y, hy⟩ : ∃ x, (tk L s.k).2.2 = x := ⟨_, rfl⟩
  rw [hy] at H t2
  clear hm hc h hx hk3 hy
  go_enter Tryz.func75, Tryz.ntmps75
  go_wp2_with fail
  refine H.out.mono ?_; rintro e w' ⟨rfl, hr, hk⟩
  have HRR := Lib.hid hr
  have HKK := Lib.hid hk
  clear hr hk
  go_wp2_with fail
  go_end0
  exact ⟨rfl, HRR.out, HKK.out⟩

set_option maxHeartbeats 2000000 in
theorem step_moves {w : World} {r g : Nat} {L : List Tk} {cap : Nat} {s : St} (h : Rd w r g L cap s) :
    Calls Tryz.prog 113 #[.pointer (some ⟨r, 0, none⟩)] w (Moves (tkV (tk L s.k)) r g L cap (stepS L s) w) := by
  have HR := Lib.hid h
  obtain ⟨m, c, h0, h1, h2, h3, hm, hc⟩ := h.sz
  obtain ⟨c0, c1, c2, t0, t1, t2⟩ := h.cells hm hc
  have hz : ∀ o, w.frozen? ⟨r, o, none⟩ = false := fun o => h.bk.cold o
  have hlt := h.bk.lt
  have hgl := h.toks.lt
  have hl := h.lt
  have hm0 : (0 : Int) < (m : Int) := by omega
  unfold maxLen at h3
  unfold tkV
  obtain ⟨kd, hkd⟩ : ∃ x, (tk L s.k).1 = x := ⟨_, rfl⟩
  obtain ⟨tx, htx⟩ : ∃ x, (tk L s.k).2.1 = x := ⟨_, rfl⟩
  obtain ⟨y, hy⟩ : ∃ x, (tk L s.k).2.2 = x := ⟨_, rfl⟩
  obtain ⟨k3, hk3⟩ : ∃ x, s.k * 3 = x := ⟨_, rfl⟩
  rw [hkd, htx, hy]
  rw [hk3] at c0 t0 t1 t2
  rw [hkd] at t0
  rw [htx] at t1
  rw [hy] at t2
  by_cases hs : s.k + 1 < L.length
  · have HS : Hid (stepS L s = ⟨s.k + 1, s.f, s.e⟩) := Lib.hid (by unfold stepS; rw [if_pos hs])
    have hm1 : decide ((1 : Int) < (m : Int)) = true := decide_eq_true (by omega)
    have hm2 : (1 : Int) ≤ (m : Int) := by omega
    have hc1 : 1 ≤ c := by omega
    have hm3 : 1 ≤ m := by omega
    have hc2 : c ≠ 1 := by omega
    have hc3 : c - 1 ≠ 0 := by omega
    have HBK : Hid (∀ W, Kp r w W → Bk W r 133 #[.slice (some ⟨g, k3, none⟩) m c, .int .i64 s.f, .int .i64 s.e] → Rd (W.setCell ⟨r, 0, none⟩ (.slice (some ⟨g, k3 + 3, none⟩) (m - 1) (c - 1))) r g L cap ⟨s.k + 1, s.f, s.e⟩) := Lib.hid (fun W hk hb => by
      refine HR.out.moved (hk.set 0 _) ?_ hs
      have := hb.at_ 0 (.slice (some ⟨g, k3 + 3, none⟩) (m - 1) (c - 1))
      rw [show (⟨s.k + 1, s.f, s.e⟩ : St).k * 3 = k3 + 3 by show (s.k + 1) * 3 = _; omega, show L.length - (⟨s.k + 1, s.f, s.e⟩ : St).k = m - 1 by show L.length - (s.k + 1) = _; omega, show cap - (⟨s.k + 1, s.f, s.e⟩ : St).k = c - 1 by show cap - (s.k + 1) = _; omega]
      exact this)
    have HB0 : Hid (Bk w r 133 #[.slice (some ⟨g, k3, none⟩) m c, .int .i64 s.f, .int .i64 s.e]) := Lib.hid (by rw [← hk3, hm, hc]; exact h.bk)
    clear hm hc h hkd htx hy hk3 hs hl
    go_enter Tryz.func113, Tryz.ntmps113
    go_wp2_with fail
    refine bodyPost_ret (v := .agg #[.int .i64 kd, .string tx, .int .i64 y]) (by simp [results, Tryz.results113, go_sem]) rfl ⟨rfl, ?_, ?_⟩
    · rw [HS.out]; exact ((HBK.out w (Kp.refl r w) HB0.out).alloc _).alloc _
    · exact (((Kp.refl r w).set 0 _).alloc _).alloc _
  · have HS : Hid (stepS L s = s) := Lib.hid (by unfold stepS; rw [if_neg hs])
    have hm1 : decide ((1 : Int) < (m : Int)) = false := decide_eq_false (by omega)
    clear hm hc h hkd htx hy hk3 hs hl
    go_enter Tryz.func113, Tryz.ntmps113
    go_wp2_with fail
    refine bodyPost_ret (v := .agg #[.int .i64 kd, .string tx, .int .i64 y]) (by simp [results, Tryz.results113, go_sem]) rfl ⟨rfl, ?_, ?_⟩
    · rw [HS.out]; exact (HR.out.alloc _).alloc _
    · exact ((Kp.refl r w).alloc _).alloc _

set_option maxHeartbeats 1000000 in
theorem take_moves {w : World} {r g : Nat} {L : List Tk} {cap : Nat} {s : St} (h : Rd w r g L cap s) (u : ByteArray) :
    Calls Tryz.prog 133 #[.pointer (some ⟨r, 0, none⟩), .string u] w (Moves (.tuple #[]) r g L cap (takeS L u s) w) := by
  have H1 := Lib.hid (mark_tells h u)
  have H2 := Lib.hid (bad_moves h)
  have H3 := Lib.hid (fun (V : World) (z : St) (hz : Rd V r g L cap z) => step_moves hz)
  have HR := Lib.hid h
  unfold takeS
  obtain ⟨b, hb⟩ : ∃ b, mkB L s.k u = b := ⟨_, rfl⟩
  rw [hb] at H1 ⊢
  clear hb h
  cases b with
  | true =>
    go_enter Tryz.func133, Tryz.ntmps133
    go_wp2_with fail
    refine H1.out.mono ?_; rintro e w' ⟨rfl, rfl⟩
    go_wp2_with fail
    refine (H3.out _ _ HR.out).mono ?_; rintro e w2 ⟨rfl, hr, hk⟩
    have HRR := Lib.hid hr
    have HKK := Lib.hid hk
    clear hr hk
    unfold tkV
    go_wp2_with fail
    go_end0
    exact ⟨rfl, HRR.out, HKK.out⟩
  | false =>
    go_enter Tryz.func133, Tryz.ntmps133
    go_wp2_with fail
    refine H1.out.mono ?_; rintro e w' ⟨rfl, rfl⟩
    go_wp2_with fail
    refine H2.out.mono ?_; rintro e w1 ⟨rfl, hr1, hk1⟩
    have HR1 := Lib.hid hr1
    have HK1 := Lib.hid hk1
    clear hr1 hk1
    go_wp2_with fail
    refine (H3.out _ _ HR1.out).mono ?_; rintro e w2 ⟨rfl, hr, hk⟩
    have HRR := Lib.hid hr
    have HKK := Lib.hid (HK1.out.trans hk)
    clear hr hk
    unfold tkV
    go_wp2_with fail
    go_end0
    exact ⟨rfl, HRR.out, HKK.out⟩

end Go.Proofs.YteaojmcfppbgiaaGreatDoor

/- parse's reader: a name taken, a variable's name taken; a call's result in a block of its own. -/
namespace Go.Proofs.YteaojmcfppbgiaaGreatDoor
open Go.RowKit
set_option linter.unusedVariables false
set_option maxRecDepth 100000

theorem Bk.kp {w w' : World} {b r : Nat} {e : TypeId} {cs : Array Value} (h : Bk w b e cs) (hk : Kp r w w') (hb : b ≠ r) : Bk w' b e cs := (hk.block b h.lt (fun e => hb (by injection e))).trans h
theorem Rd.under {w w' : World} {r g : Nat} {L : List Tk} {cap : Nat} {s : St} {B : Nat} (h : Rd w r g L cap s) (hb : Below B w w') (hr : r < B) : Rd w' r g L cap s := by
  have hg := h.ne
  refine ⟨h.bk.below hb hr, h.lt, h.ne, ⟨h.toks.le, h.toks.mx, Nat.lt_of_lt_of_le h.toks.lt hb.size, fun i hi => ?_, h.toks.txt, h.toks.fin, h.toks.few⟩⟩
  obtain ⟨a, b, c⟩ := h.toks.cell i hi
  have e := fun o => hb.cell (p := ⟨g, o, none⟩) (show g < B by omega)
  exact ⟨by rw [e, a], by rw [e, b], by rw [e, c]⟩
/-- Three stores, one behind the other. -/
theorem Bk.three {w : World} {g : Nat} {e : TypeId} {a0 a1 a2 : Value} (h : Bk w g e #[a0, a1, a2]) (v0 v1 v2 : Value) :
    (((w.setCell ⟨g, 0, none⟩ v0).setCell ⟨g, 1, none⟩ v1).setCell ⟨g, 2, none⟩ v2).cell? ⟨g, 0, none⟩ = some v0 ∧ (((w.setCell ⟨g, 0, none⟩ v0).setCell ⟨g, 1, none⟩ v1).setCell ⟨g, 2, none⟩ v2).cell? ⟨g, 1, none⟩ = some v1 ∧
    (((w.setCell ⟨g, 0, none⟩ v0).setCell ⟨g, 1, none⟩ v1).setCell ⟨g, 2, none⟩ v2).cell? ⟨g, 2, none⟩ = some v2 := by
  have k := ((h.at_ 0 v0).at_ 1 v1).at_ 2 v2
  exact ⟨k.cell 0, k.cell 1, k.cell 2⟩
/-- A reader over a call whose result lies in a block of three cells. -/
theorem Rd.res3 {w w2 : World} {r g : Nat} {L : List Tk} {cap : Nat} {s : St} (h : Rd w2 r g L cap s) (hr : r < w.heap.size) {o : Obj} (hk : Kp r (w.alloc o) w2) (v0 v1 v2 : Value) :
    Rd (((w2.setCell ⟨w.heap.size, 0, none⟩ v0).setCell ⟨w.heap.size, 1, none⟩ v1).setCell ⟨w.heap.size, 2, none⟩ v2) r g L cap s ∧ Kp r w (((w2.setCell ⟨w.heap.size, 0, none⟩ v0).setCell ⟨w.heap.size, 1, none⟩ v1).setCell ⟨w.heap.size, 2, none⟩ v2) :=
  ⟨h.under ((((Below.refl w.heap.size w2).setCell (Nat.le_refl _) v0).setCell (Nat.le_refl _) v1).setCell (Nat.le_refl _) v2) hr, (((((Kp.refl r w).alloc o).trans hk).setNew (Nat.le_refl _) v0).setNew (Nat.le_refl _) v1).setNew (Nat.le_refl _) v2⟩

set_option maxHeartbeats 1000000 in
theorem takeName_moves {w : World} {r g : Nat} {L : List Tk} {cap : Nat} {s : St} (h : Rd w r g L cap s) :
    Calls Tryz.prog 129 #[.pointer (some ⟨r, 0, none⟩)] w (Moves (tkV (tk L (nameS L s).k)) r g L cap (stepS L (nameS L s)) w) := by
  have H2 := Lib.hid (fun o => bad_moves (h.alloc o))
  have H3 := Lib.hid (fun (V : World) (z : St) (hz : Rd V r g L cap z) => step_moves hz)
  have HR := Lib.hid h
  have hrl := h.bk.lt
  unfold tkV
  unfold tkV at H3
  have H1 := Lib.hid (fun o => named_tells (h.alloc o))
  by_cases hb : nmdB L s.k = true
  all_goals first | rw [hb] at H1 | rw [show nmdB L s.k = false by simpa using hb] at H1
  · have HD : Hid (nameS L s = s) := Lib.hid (by unfold nameS; rw [if_pos hb])
    obtain ⟨q, hq⟩ : ∃ q, nameS L s = q := ⟨_, rfl⟩
    rw [hq] at HD ⊢
    obtain ⟨z, hz⟩ : ∃ z, q.k = z := ⟨_, rfl⟩
    have HH : Hid (s = q) := Lib.hid HD.out.symm
    have H4 := Lib.hid (fun (V : World) (hV : Rd V r g L cap q) => H3.out V q hV)
    rw [hz] at H4 ⊢
    have HRQ : Hid (Rd w r g L cap q) := Lib.hid (by rw [← HH.out]; exact HR.out)
    clear hq hz HD HH H3 HR H2 h
    go_enter Tryz.func129, Tryz.ntmps129
    go_wp2_with fail
    refine (H1.out _).mono ?_; rintro e w' ⟨rfl, rfl⟩
    go_wp2_with fail
    refine (H4.out _ (HRQ.out.alloc _)).mono ?_; rintro e w2 ⟨rfl, hr, hk⟩
    have hk0 : Kp r (w.alloc (.cells #[.int .i64 0, .string ⟨#[]⟩, .int .i64 0] 143)) w2 := hk
    have BX := (Bk.new w 143 #[.int .i64 0, .string ⟨#[]⟩, .int .i64 0]).kp hk0 (by omega)
    have d0 : w2.cell? ⟨w.heap.size, 0, none⟩ = some (.int .i64 0) := BX.cell 0
    have d1 : w2.cell? ⟨w.heap.size, 1, none⟩ = some (.string ⟨#[]⟩) := BX.cell 1
    have d2 : w2.cell? ⟨w.heap.size, 2, none⟩ = some (.int .i64 0) := BX.cell 2
    have hfz : ∀ o, w2.frozen? ⟨w.heap.size, o, none⟩ = false := fun o => BX.cold o
    have hl2 := BX.lt
    obtain ⟨s0, s1, s2⟩ := BX.three (.int .i64 (tk L z).1) (.string (tk L z).2.1) (.int .i64 (tk L z).2.2)
    have HS0 := Lib.hid s0
    have HS1 := Lib.hid s1
    have HS2 := Lib.hid s2
    have HRR := Lib.hid (hr.res3 hrl hk0 (.int .i64 (tk L z).1) (.string (tk L z).2.1) (.int .i64 (tk L z).2.2))
    clear hr hk hk0 BX s0 s1 s2
    go_wp2_with fail
    refine bodyPost_ret (v := .agg #[.int .i64 (tk L z).1, .string (tk L z).2.1, .int .i64 (tk L z).2.2]) (by simp [results, Tryz.results129, go_sem, HS0.out, HS1.out, HS2.out]) rfl ?_
    exact ⟨rfl, HRR.out.1, HRR.out.2⟩

  · have HD : Hid (nameS L s = badS L s) := Lib.hid (by unfold nameS; rw [if_neg hb])
    obtain ⟨q, hq⟩ : ∃ q, nameS L s = q := ⟨_, rfl⟩
    rw [hq] at HD ⊢
    obtain ⟨z, hz⟩ : ∃ z, q.k = z := ⟨_, rfl⟩
    have H4 := Lib.hid (fun (V : World) (hV : Rd V r g L cap q) => H3.out V q hV)
    rw [← HD.out] at H2
    rw [hz] at H4 ⊢
    clear hq hz HD H3 HR h
    go_enter Tryz.func129, Tryz.ntmps129
    go_wp2_with fail
    refine (H1.out _).mono ?_; rintro e w' ⟨rfl, rfl⟩
    go_wp2_with fail
    refine (H2.out _).mono ?_; rintro e w1 ⟨rfl, hr1, hk1⟩
    have HR1 := Lib.hid hr1
    have HK1 := Lib.hid hk1
    clear hr1 hk1
    go_wp2_with fail
    refine (H4.out _ HR1.out).mono ?_; rintro e w2 ⟨rfl, hr, hk⟩
    have hk0 : Kp r (w.alloc (.cells #[.int .i64 0, .string ⟨#[]⟩, .int .i64 0] 143)) w2 := HK1.out.trans hk
    have BX := (Bk.new w 143 #[.int .i64 0, .string ⟨#[]⟩, .int .i64 0]).kp hk0 (by omega)
    have d0 : w2.cell? ⟨w.heap.size, 0, none⟩ = some (.int .i64 0) := BX.cell 0
    have d1 : w2.cell? ⟨w.heap.size, 1, none⟩ = some (.string ⟨#[]⟩) := BX.cell 1
    have d2 : w2.cell? ⟨w.heap.size, 2, none⟩ = some (.int .i64 0) := BX.cell 2
    have hfz : ∀ o, w2.frozen? ⟨w.heap.size, o, none⟩ = false := fun o => BX.cold o
    have hl2 := BX.lt
    obtain ⟨s0, s1, s2⟩ := BX.three (.int .i64 (tk L z).1) (.string (tk L z).2.1) (.int .i64 (tk L z).2.2)
    have HS0 := Lib.hid s0
    have HS1 := Lib.hid s1
    have HS2 := Lib.hid s2
    have HRR := Lib.hid (hr.res3 hrl hk0 (.int .i64 (tk L z).1) (.string (tk L z).2.1) (.int .i64 (tk L z).2.2))
    clear hr hk hk0 BX s0 s1 s2
    go_wp2_with fail
    refine bodyPost_ret (v := .agg #[.int .i64 (tk L z).1, .string (tk L z).2.1, .int .i64 (tk L z).2.2]) (by simp [results, Tryz.results129, go_sem, HS0.out, HS1.out, HS2.out]) rfl ?_
    exact ⟨rfl, HRR.out.1, HRR.out.2⟩

set_option maxHeartbeats 1000000 in
theorem takeVar_moves {w : World} {r g : Nat} {L : List Tk} {cap : Nat} {s : St} (h : Rd w r g L cap s) :
    Calls Tryz.prog 154 #[.pointer (some ⟨r, 0, none⟩)] w (Moves (tkV (tk L (varS L s).k)) r g L cap (stepS L (varS L s)) w) := by
  have H2 := Lib.hid (fun o => bad_moves (h.alloc o))
  have H3 := Lib.hid (fun (V : World) (z : St) (hz : Rd V r g L cap z) => step_moves hz)
  have HR := Lib.hid h
  have hrl := h.bk.lt
  unfold tkV
  unfold tkV at H3
  obtain ⟨m, c, h0, h1, h2, h3, hm, hc⟩ := h.sz
  obtain ⟨c0, c1, c2, t0, t1, t2⟩ := h.cells hm hc
  have hgl := h.toks.lt
  have hm0 : (0 : Int) < (m : Int) := by omega
  unfold maxLen at h3
  obtain ⟨kd, hkd⟩ : ∃ x, (tk L s.k).1 = x := ⟨_, rfl⟩
  obtain ⟨k3, hk3⟩ : ∃ x, s.k * 3 = x := ⟨_, rfl⟩
  rw [hk3] at c0 t0 t1 t2
  rw [hkd] at t0
  clear hm hc hk3 t1 t2
  by_cases hb : kd = 1
  all_goals first | (have hb1 : (kd != 1) = false := by simpa using hb) | (have hb1 : (kd != 1) = true := by simpa using hb)
  · have HD : Hid (varS L s = s) := Lib.hid (by unfold varS; rw [if_pos (hkd.trans hb)])
    obtain ⟨q, hq⟩ : ∃ q, varS L s = q := ⟨_, rfl⟩
    rw [hq] at HD ⊢
    obtain ⟨z, hz⟩ : ∃ z, q.k = z := ⟨_, rfl⟩
    have HH : Hid (s = q) := Lib.hid HD.out.symm
    have H4 := Lib.hid (fun (V : World) (hV : Rd V r g L cap q) => H3.out V q hV)
    rw [hz] at H4 ⊢
    have HRQ : Hid (Rd w r g L cap q) := Lib.hid (by rw [← HH.out]; exact HR.out)
    clear hq hz HD HH H3 HR H2 h
    go_enter Tryz.func154, Tryz.ntmps154
    go_wp2_with fail
    refine (H4.out _ (HRQ.out.alloc _)).mono ?_; rintro e w2 ⟨rfl, hr, hk⟩
    have hk0 : Kp r (w.alloc (.cells #[.int .i64 0, .string ⟨#[]⟩, .int .i64 0] 143)) w2 := hk
    have BX := (Bk.new w 143 #[.int .i64 0, .string ⟨#[]⟩, .int .i64 0]).kp hk0 (by omega)
    have d0 : w2.cell? ⟨w.heap.size, 0, none⟩ = some (.int .i64 0) := BX.cell 0
    have d1 : w2.cell? ⟨w.heap.size, 1, none⟩ = some (.string ⟨#[]⟩) := BX.cell 1
    have d2 : w2.cell? ⟨w.heap.size, 2, none⟩ = some (.int .i64 0) := BX.cell 2
    have hfz : ∀ o, w2.frozen? ⟨w.heap.size, o, none⟩ = false := fun o => BX.cold o
    have hl2 := BX.lt
    obtain ⟨s0, s1, s2⟩ := BX.three (.int .i64 (tk L z).1) (.string (tk L z).2.1) (.int .i64 (tk L z).2.2)
    have HS0 := Lib.hid s0
    have HS1 := Lib.hid s1
    have HS2 := Lib.hid s2
    have HRR := Lib.hid (hr.res3 hrl hk0 (.int .i64 (tk L z).1) (.string (tk L z).2.1) (.int .i64 (tk L z).2.2))
    clear hr hk hk0 BX s0 s1 s2
    go_wp2_with fail
    refine bodyPost_ret (v := .agg #[.int .i64 (tk L z).1, .string (tk L z).2.1, .int .i64 (tk L z).2.2]) (by simp [results, Tryz.results154, go_sem, HS0.out, HS1.out, HS2.out]) rfl ?_
    exact ⟨rfl, HRR.out.1, HRR.out.2⟩

  · have HD : Hid (varS L s = badS L s) := Lib.hid (by unfold varS; rw [if_neg (fun e => hb (hkd.symm.trans e))])
    obtain ⟨q, hq⟩ : ∃ q, varS L s = q := ⟨_, rfl⟩
    rw [hq] at HD ⊢
    obtain ⟨z, hz⟩ : ∃ z, q.k = z := ⟨_, rfl⟩
    have H4 := Lib.hid (fun (V : World) (hV : Rd V r g L cap q) => H3.out V q hV)
    rw [← HD.out] at H2
    rw [hz] at H4 ⊢
    clear hq hz HD H3 HR h
    go_enter Tryz.func154, Tryz.ntmps154
    go_wp2_with fail
    refine (H2.out _).mono ?_; rintro e w1 ⟨rfl, hr1, hk1⟩
    have HR1 := Lib.hid hr1
    have HK1 := Lib.hid hk1
    clear hr1 hk1
    go_wp2_with fail
    refine (H4.out _ HR1.out).mono ?_; rintro e w2 ⟨rfl, hr, hk⟩
    have hk0 : Kp r (w.alloc (.cells #[.int .i64 0, .string ⟨#[]⟩, .int .i64 0] 143)) w2 := HK1.out.trans hk
    have BX := (Bk.new w 143 #[.int .i64 0, .string ⟨#[]⟩, .int .i64 0]).kp hk0 (by omega)
    have d0 : w2.cell? ⟨w.heap.size, 0, none⟩ = some (.int .i64 0) := BX.cell 0
    have d1 : w2.cell? ⟨w.heap.size, 1, none⟩ = some (.string ⟨#[]⟩) := BX.cell 1
    have d2 : w2.cell? ⟨w.heap.size, 2, none⟩ = some (.int .i64 0) := BX.cell 2
    have hfz : ∀ o, w2.frozen? ⟨w.heap.size, o, none⟩ = false := fun o => BX.cold o
    have hl2 := BX.lt
    obtain ⟨s0, s1, s2⟩ := BX.three (.int .i64 (tk L z).1) (.string (tk L z).2.1) (.int .i64 (tk L z).2.2)
    have HS0 := Lib.hid s0
    have HS1 := Lib.hid s1
    have HS2 := Lib.hid s2
    have HRR := Lib.hid (hr.res3 hrl hk0 (.int .i64 (tk L z).1) (.string (tk L z).2.1) (.int .i64 (tk L z).2.2))
    clear hr hk hk0 BX s0 s1 s2
    go_wp2_with fail
    refine bodyPost_ret (v := .agg #[.int .i64 (tk L z).1, .string (tk L z).2.1, .int .i64 (tk L z).2.2]) (by simp [results, Tryz.results154, go_sem, HS0.out, HS1.out, HS2.out]) rfl ?_
    exact ⟨rfl, HRR.out.1, HRR.out.2⟩

end Go.Proofs.YteaojmcfppbgiaaGreatDoor
