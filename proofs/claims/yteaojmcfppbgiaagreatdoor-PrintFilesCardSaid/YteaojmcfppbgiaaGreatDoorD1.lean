/- Trees' texts, as bytes: the document's words. No program. -/
import Derived.Test.YteaojmcfppbgiaaGreatDoorC8
import Derived.Test.YteaojmcfppbgiaaGreatDoorA4
import Derived.Test.YteaojmcfppbgiaaGreatDoorC6
import Derived.Test.YteaojmcfppbgiaaGreatDoorA2
import Derived.Test.YteaojmcfppbgiaaGreatDoorB1
import Derived.Lib.Builder
import Derived.Lib.AppendStr
import Derived.Lib.UnsafeStr
import Derived.Lib.MakeNoZero
import Derived.Laws.Externs
import Derived.WalkKit
import Derived.RegionTactic
import Derived.LoopTactic
import Derived.LoopN
import Derived.Test.YteaojmcfppbgiaaGreatDoorA3
namespace Go.Proofs.YteaojmcfppbgiaaGreatDoor
open Go.RowKit
set_option linter.unusedVariables false

abbrev Tx := List UInt8
def tx (s : ByteArray) : Tx := s.data.toList
theorem tx_length (s : ByteArray) : (tx s).length = s.size := rfl
def subT (l : List (Nat → Tx)) (i lv : Nat) : Tx := (l.getD i (fun _ => [])) lv
def setX (n : Int) : Tx := if n = 0 then [83, 101, 116] else [83, 101, 116] ++ ([32] ++ Lib.decDigits n.toNat)
/-- A name and its type. -/
def typedX (s : Tx) (t : Tx) : Tx := (s ++ [32, 58, 32]) ++ t
def bindX (s : Tx) (t : Tx) : Tx := [40] ++ (typedX s t ++ [41])
def innerX (k : Int) (s : ByteArray) (n : Int) (l : List (Nat → Tx)) : Tx :=
  if k = 1 then tx s else if k = 2 then setX n
  else if k = 5 then subT l 0 1 ++ ([32] ++ subT l 1 2)
  else if k = 3 ∧ lowB s = true then subT l 0 1 ++ ([32, 45, 62, 32] ++ subT l 1 0)
  else if k = 4 then [92, 32] ++ (bindX (tx s) (subT l 0 0) ++ ([32, 45, 62, 32] ++ subT l 1 0))
  else bindX (tx s) (subT l 0 0) ++ ([32, 45, 62, 32] ++ subT l 1 0)
def lowest (k : Int) : Nat := if k = 3 ∨ k = 4 then 1 else if k = 5 then 2 else 9
mutual
def exprX : RT → Nat → Tx
  | .node k _ s n l, lv => if lowest k ≤ lv then [40] ++ (innerX k s n (exprXL l) ++ [41]) else innerX k s n (exprXL l)
def exprXL : List RT → List (Nat → Tx)
  | [] => []
  | t :: r => exprX t :: exprXL r
end
theorem exprX_node (k a : Int) (s : ByteArray) (n : Int) (l : List RT) (lv : Nat) : exprX (.node k a s n l) lv = if lowest k ≤ lv then [40] ++ (innerX k s n (exprXL l) ++ [41]) else innerX k s n (exprXL l) := by rw [exprX]
theorem exprXL_at : ∀ (l : List RT) (i : Nat) (h : i < l.length) (lv : Nat), subT (exprXL l) i lv = exprX l[i] lv
  | t :: r, 0, _, lv => by rw [exprXL]; rfl
  | t :: r, i + 1, h, lv => by
    have := exprXL_at r i (by simpa using h) lv
    rw [exprXL]
    exact this
theorem exprX_par {k a : Int} {s : ByteArray} {n : Int} {l : List RT} {lv : Nat} (h : lowest k ≤ lv) : exprX (.node k a s n l) lv = [40] ++ (exprX (.node k a s n l) 0 ++ [41]) := by
  rw [exprX_node, exprX_node, if_pos h]
  have : ¬ lowest k ≤ 0 := by unfold lowest; split; · omega
                              · split <;> omega
  rw [if_neg this]
theorem exprX_bare {k a : Int} {s : ByteArray} {n : Int} {l : List RT} {lv : Nat} (h : ¬ lowest k ≤ lv) : exprX (.node k a s n l) lv = innerX k s n (exprXL l) := by rw [exprX_node, if_neg h]

mutual
def patX : RT → Tx
  | .node k _ s n l => if k = 6 then tx s else if k = 7 then [95] else if k = 9 then [40, 41] else if k = 10 then [46] ++ subT (exprXL l) 0 2 else ([40] ++ tx s) ++ (patXL l ++ [41])
def patXL : List RT → Tx
  | [] => []
  | t :: r => ([32] ++ patX t) ++ patXL r
end
theorem patX_node (k a : Int) (s : ByteArray) (n : Int) (l : List RT) : patX (.node k a s n l) = if k = 6 then tx s else if k = 7 then [95] else if k = 9 then [40, 41] else if k = 10 then [46] ++ subT (exprXL l) 0 2 else ([40] ++ tx s) ++ (patXL l ++ [41]) := by rw [patX]
theorem patXL_nil : patXL [] = [] := by rw [patXL]
theorem patXL_cons (t : RT) (r : List RT) : patXL (t :: r) = ([32] ++ patX t) ++ patXL r := by rw [patXL]
theorem patXL_append : ∀ (l r : List RT), patXL (l ++ r) = patXL l ++ patXL r
  | [], r => by show patXL r = patXL [] ++ patXL r; rw [patXL]; rfl
  | t :: l, r => by rw [List.cons_append, patXL_cons, patXL_cons, patXL_append l r, List.append_assoc, List.append_assoc, List.append_assoc]

/-- What has been written behind T: X, or more than may be told. -/
def Wrote (T X T' : Tx) : Prop := if T.length + X.length ≤ 65535 then T' = T ++ X else 65535 < T'.length
theorem Wrote.nil (T : Tx) : Wrote T [] T := by
  unfold Wrote
  split
  · simp
  · rename_i h; simp at h; exact h
theorem Wrote.trans {A X B Y C : Tx} (h : Wrote A X B) (k : Wrote B Y C) : Wrote A (X ++ Y) C := by
  unfold Wrote at *
  rw [List.length_append]
  split
  · rename_i hl
    rw [if_pos (by omega)] at h
    subst h
    rw [List.length_append, if_pos (by omega)] at k
    rw [k, List.append_assoc]
  · rename_i hl
    split at h
    · subst h
      rw [List.length_append, if_neg (by omega)] at k
      exact k
    · rw [if_neg (by omega)] at k
      exact k
theorem Wrote.go {T X : Tx} (h : ¬ 65535 < T.length) : Wrote T X (T ++ X) := by
  unfold Wrote
  split
  · rfl
  · rw [List.length_append]; omega
theorem Wrote.full {T X : Tx} (h : 65535 < T.length) : Wrote T X T := by
  unfold Wrote
  rw [if_neg (by omega)]; exact h
theorem Wrote.told {X T' : Tx} (h : Wrote [] X T') (hl : ¬ 65535 < T'.length) : T' = X ∧ X.length ≤ 65535 := by
  unfold Wrote at h
  split at h
  · rename_i h1
    simp at h h1
    exact ⟨h, h1⟩
  · exact absurd h hl
theorem Wrote.long {X T' : Tx} (h : Wrote [] X T') (hl : 65535 < T'.length) : 65535 < X.length := by
  unfold Wrote at h
  split at h
  · simp at h; subst h; exact hl
  · rename_i h1; simpa using h1

end Go.Proofs.YteaojmcfppbgiaaGreatDoor

/- Declarations' texts, as bytes: the document's words. No program. -/
namespace Go.Proofs.YteaojmcfppbgiaaGreatDoor
open Go.RowKit
set_option linter.unusedVariables false
set_option maxRecDepth 100000

/-- The word with which each kind of declaration begins. -/
def kwX (k : Int) : Tx := if k = 1 then [100, 97, 116, 97] else if k = 2 then [114, 101, 99, 111, 114, 100] else [100, 101, 102]
def bindsX : List BT → Tx
  | [] => []
  | x :: l => [32] ++ (bindX (tx x.s) (exprX x.t 0) ++ bindsX l)
def rowPX : List RT → Tx
  | [] => []
  | t :: l => (patX t ++ [32]) ++ rowPX l
def conX (x : BT) : Tx := typedX (tx x.s) (exprX x.t 0)
def rowX (x : CT) : Tx := rowPX x.ps ++ (if x.h then [61, 32] ++ exprX x.t 0 else [])
def itemsX {α : Type} (f : α → Tx) : List α → Tx
  | [] => []
  | x :: l => [32, 32] ++ (f x ++ ([59, 10] ++ itemsX f l))
def declX (x : DT) : Tx := kwX x.k ++ ([32] ++ (tx x.s ++ (bindsX x.te ++ ([32, 58, 32] ++ (exprX x.t 0 ++ ([32, 123, 10] ++ (itemsX conX x.co ++ (itemsX rowX x.ro ++ [125, 10]))))))))
def fileX : List DT → Tx
  | [] => []
  | x :: l => declX x ++ fileX l

end Go.Proofs.YteaojmcfppbgiaaGreatDoor

/- print's writer, a struct that embeds strings.Builder: what it holds, what its calls change; copyCheck, Len, WriteString, String, full. -/
namespace Go.Proofs.YteaojmcfppbgiaaGreatDoor
open Go.RowKit
set_option linter.unusedVariables false
set_option maxRecDepth 100000

/-- A row of bytes. -/
def isU8 (w : World) (k : Nat) : Prop := ∃ cs fr, w.heap[k]? = some (.cells cs 5 fr)
/-- Nothing has changed but the writer b and rows of bytes behind it. -/
structure Wk (b : Nat) (w w' : World) : Prop where
  os : w'.os = w.os
  tape : w'.tape = w.tape
  output : w'.output = w.output
  size : w.heap.size ≤ w'.heap.size
  low : ∀ k, k < b → w'.heap[k]? = w.heap[k]?
  high : ∀ k, k < w.heap.size → k ≠ b → ¬ isU8 w k → w'.heap[k]? = w.heap[k]?
theorem Wk.refl (b : Nat) (w : World) : Wk b w w := ⟨rfl, rfl, rfl, Nat.le_refl _, fun _ _ => rfl, fun _ _ _ _ => rfl⟩
theorem Wk.trans {b : Nat} {w w1 w2 : World} (h : Wk b w w1) (k : Wk b w1 w2) : Wk b w w2 := by
  refine ⟨k.os.trans h.os, k.tape.trans h.tape, k.output.trans h.output, Nat.le_trans h.size k.size, fun j hj => (k.low j hj).trans (h.low j hj), fun j hj hb hu => ?_⟩
  have e := h.high j hj hb hu
  refine (k.high j (Nat.lt_of_lt_of_le hj h.size) hb (fun ⟨cs, fr, hc⟩ => hu ⟨cs, fr, ?_⟩)).trans e
  rw [← e]; exact hc
theorem Wk.of {b : Nat} {w w' : World} (h : Below w.heap.size w w') (hb : b ≤ w.heap.size) : Wk b w w' :=
  ⟨h.os, h.tape, h.output, h.size, fun k hk => h.block k (by omega), fun k hk _ _ => h.block k hk⟩
theorem Wk.below {b : Nat} {w w' : World} (h : Wk b w w') : Below b w w' := ⟨h.os, h.tape, h.output, h.size, h.low⟩
theorem Wk.alloc {b : Nat} {w w' : World} (h : Wk b w w') (hb : b ≤ w'.heap.size) (o : Obj) : Wk b w (w'.alloc o) := h.trans (.of ((Below.refl _ _).alloc (Nat.le_refl _) o) hb)
theorem Bk.wk {b : Nat} {w w' : World} {g : Nat} {e : TypeId} {cs : Array Value} (h : Bk w g e cs) (hk : Wk b w w') (hg : g ≠ b) (he : e ≠ 5) : Bk w' g e cs := by
  refine (hk.high g h.lt hg (fun ⟨cs', fr, hc⟩ => ?_)).trans h
  have := h.symm.trans hc
  injection this with this
  injection this with _ h2 _
  exact he h2

/-- The writer at block b holds the bytes T; its own address is p, its buffer v. -/
def WrIs (w : World) (b : Nat) (T : Tx) (p v : Value) : Prop := Bk w b 117 #[p, v] ∧ w.ownsRow b 5 1 v T.length (Lib.byteCells T) ∧ (T = [] → v = .slice none 0 0)
def WrAt (w : World) (b : Nat) (T : Tx) : Prop := ∃ v, WrIs w b T (.pointer none) v ∨ WrIs w b T (.pointer (some ⟨b, 0, none⟩)) v
theorem WrAt.any {w : World} {b : Nat} {T : Tx} (h : WrAt w b T) : ∃ p v, WrIs w b T p v := by
  obtain ⟨v, h | h⟩ := h
  · exact ⟨_, _, h⟩
  · exact ⟨_, _, h⟩
theorem WrAt.lt {w : World} {b : Nat} {T : Tx} (h : WrAt w b T) : b < w.heap.size := by
  obtain ⟨p, v, hp⟩ := h.any
  exact hp.1.lt
theorem wr_below {p v : Value} {b : Nat} {T : Tx} {w w' : World} (h : WrIs w b T p v) (hb : Below w.heap.size w w') : WrIs w' b T p v :=
  ⟨h.1.below hb h.1.lt, own_below h.2.1 hb, h.2.2⟩
theorem WrAt.below {w w' : World} {b : Nat} {T : Tx} (h : WrAt w b T) (hb : Below w.heap.size w w') : WrAt w' b T := by
  obtain ⟨v, h | h⟩ := h
  · exact ⟨v, .inl (wr_below h hb)⟩
  · exact ⟨v, .inr (wr_below h hb)⟩
theorem WrAt.alloc {w : World} {b : Nat} {T : Tx} (h : WrAt w b T) (o : Obj) : WrAt (w.alloc o) b T := h.below ((Below.refl _ _).alloc (Nat.le_refl _) o)
theorem WrAt.new (w : World) : WrAt (w.alloc (.cells #[.pointer none, .slice none 0 0] 117)) w.heap.size [] := ⟨.slice none 0 0, .inl ⟨Bk.new w _ _, World.ownsRow_nil _ _ _ _, fun _ => rfl⟩⟩

theorem wSize : (Tryz.prog.info? 115).map (·.size) = some 2 := by kernel_rfl
theorem wLies : liesAt Tryz.prog Tryz.prog.depth 117 (2 / Tryz.prog.cellsOf 117) 0 115 1 = true := by kernel_rfl
theorem u8Info : (Tryz.prog.info? 5).map (fun i => (i.zero, i.size, i.bytes)) = some (some (.int .u8 0), 1, 1) := by kernel_rfl
theorem u8Cells : Tryz.prog.cellsOf 5 = 1 := by kernel_rfl

set_option maxHeartbeats 1000000 in
theorem copy_used (b : Nat) (w : World) (h0 : w.cell? ⟨b, 0, none⟩ = some (.pointer (some ⟨b, 0, none⟩))) :
    Calls Tryz.prog 145 #[.pointer (some ⟨b, 0, none⟩)] w fun e w' => e = .returned (.tuple #[]) ∧ w' = w := by
  obtain ⟨j, hj, _⟩ := Option.map_eq_some_iff.1 wSize
  go_enter Tryz.func145, Tryz.ntmps145
  go_wp2_with fail
  rw [Lib.run_neq_ptr_same w _ Tryz.underlying112 hj]
  go_wp2_with fail
  go_end0
  exact ⟨rfl, rfl⟩

set_option maxHeartbeats 1000000 in
theorem copy_fresh (b : Nat) (w : World) (h0 : w.cell? ⟨b, 0, none⟩ = some (.pointer none)) (hsh : w.shape? b = some (117, 2)) (hfz : w.frozen? ⟨b, 0, none⟩ = false) :
    Calls Tryz.prog 145 #[.pointer (some ⟨b, 0, none⟩)] w fun e w' => e = .returned (.tuple #[]) ∧ w' = w.setCell ⟨b, 0, none⟩ (.pointer (some ⟨b, 0, none⟩)) := by
  obtain ⟨j, hj, hjs⟩ := Option.map_eq_some_iff.1 wSize
  go_enter Tryz.func145, Tryz.ntmps145
  go_wp2_with fail
  rw [Lib.run_to_unsafe w ⟨b, 0, none⟩ Tryz.underlying112 Tryz.underlying201 hj (by rw [hjs]; decide) hsh (Nat.zero_lt_succ 1)]
  simp only [Result.andThen]
  rw [Oper.upon_value]
  go_wp2_with fail
  rw [run_callFunc_extern Tryz.func176 (by kernel_rfl) (by kernel_rfl) (by kernel_rfl) (e := Extern.AbiNoEscape.same) (by kernel_rfl)]
  rw [Lib.run_noEscape]
  simp only [Result.andThen]
  rw [Oper.upon_value]
  go_wp2_with fail
  rw [Lib.run_from_unsafe w ⟨b, 0, none⟩ Tryz.underlying201 Tryz.underlying112 hj hsh wLies]
  simp only [Result.andThen]
  rw [Oper.upon_value]
  go_wp2_with fail
  go_end0
  exact ⟨rfl, rfl⟩

theorem Wk.setOwn {b : Nat} {w : World} (i : Nat) (v : Value) : Wk b w (w.setCell ⟨b, i, none⟩ v) :=
  ⟨rfl, rfl, rfl, by simp [World.setCell], fun k hk => Below.heap_setCell w ⟨b, i, none⟩ v k (Nat.ne_of_lt hk), fun k _ hk _ => Below.heap_setCell w ⟨b, i, none⟩ v k hk⟩
theorem wNe : 117 ≠ 5 := by decide
theorem WrIs.apart {w : World} {b : Nat} {T : Tx} {p v : Value} (h : WrIs w b T p v) : v.ownBlock ≠ some b := Lib.ownBlock_ne h.2.1 h.1 wNe
theorem WrIs.used {w : World} {b : Nat} {T : Tx} {p v : Value} (h : WrIs w b T p v) (q : Value) : WrIs (w.setCell ⟨b, 0, none⟩ q) b T q v := by
  refine ⟨?_, ?_, h.2.2⟩
  · have := h.1.at_ 0 q
    exact this
  · exact h.2.1.kept (row := some b) ⟨rfl, rfl, rfl, by simp [World.setCell], fun k _ hk => Below.heap_setCell _ _ _ _ (fun e => hk (by simp [e]))⟩ (Or.inr h.apart)
theorem copy_any {w : World} {b : Nat} {T : Tx} (h : WrAt w b T) :
    Calls Tryz.prog 145 #[.pointer (some ⟨b, 0, none⟩)] w fun e w' => e = .returned (.tuple #[]) ∧ (∃ v, WrIs w' b T (.pointer (some ⟨b, 0, none⟩)) v) ∧ Wk b w w' := by
  obtain ⟨v, h | h⟩ := h
  · refine (copy_fresh b w (h.1.cell 0) (by have := h.1; unfold Bk at this; simp [World.shape?, this]) (h.1.cold 0)).mono ?_
    rintro e w' ⟨rfl, rfl⟩
    exact ⟨rfl, ⟨_, h.used _⟩, Wk.setOwn _ _⟩
  · refine (copy_used b w (h.1.cell 0)).mono ?_
    rintro e w' ⟨rfl, rfl⟩
    exact ⟨rfl, ⟨_, h⟩, Wk.refl _ _⟩

theorem own_cases {w : World} {B : Nat} {e : TypeId} {v : Value} {n : Nat} {xs : List Value} (h : w.ownsRow B e 1 v n xs) : ∃ ao cap, v = .slice ao n cap := by
  rcases h.2 with ⟨hv, h0⟩ | ⟨g, cap, cur, hv, _⟩
  · exact ⟨none, 0, by rw [hv, h0]⟩
  · exact ⟨_, _, hv⟩
set_option maxHeartbeats 1000000 in
theorem len_any {w : World} {b : Nat} {T : Tx} (h : WrAt w b T) :
    Calls Tryz.prog 98 #[.pointer (some ⟨b, 0, none⟩)] w fun e w' => e = .returned (.int .i64 T.length) ∧ w' = w := by
  obtain ⟨p, v, hbk, hown, -⟩ := h.any
  obtain ⟨ao, cap, rfl⟩ := own_cases hown
  have c1 : w.cell? ⟨b, 1, none⟩ = some (.slice ao T.length cap) := hbk.cell 1
  obtain ⟨n, hn⟩ : ∃ n, T.length = n := ⟨_, rfl⟩
  rw [hn] at c1 ⊢
  clear hn hown hbk h
  go_enter Tryz.func98, Tryz.ntmps98
  go_wp2_with fail
  go_ret
  exact ⟨rfl, rfl⟩
set_option maxHeartbeats 1000000 in
theorem full_any {w : World} {b : Nat} {T : Tx} (h : WrAt w b T) :
    Calls Tryz.prog 60 #[.pointer (some ⟨b, 0, none⟩)] w fun e w' => e = .returned (.bool (decide (65535 < T.length))) ∧ w' = w := by
  have H := Lib.hid (len_any h)
  obtain ⟨n, hn⟩ : ∃ n, T.length = n := ⟨_, rfl⟩
  rw [hn] at H ⊢
  clear hn h
  go_enter Tryz.func60, Tryz.ntmps60
  go_wp2_with fail
  refine H.out.mono ?_; rintro e w1 ⟨rfl, rfl⟩
  go_wp2_with fail
  go_ret
  exact ⟨by simp; omega, rfl⟩

theorem own_row {w : World} {B k : Nat} {e : TypeId} {v : Value} {n : Nat} {xs : List Value} (h : w.ownsRow B e 1 v n xs) (hk : v.ownBlock = some k) : B ≤ k ∧ ∃ cs fr, w.heap[k]? = some (.cells cs e fr) := by
  rcases h.2 with ⟨hv, h0⟩ | ⟨g, cap, cur, hv, hb, hg, _⟩
  · rw [hv] at hk; cases hk
  · rw [hv] at hk
    injection hk with hk
    subst hk
    exact ⟨hb, _, _, hg⟩
theorem Wk.grown {b : Nat} {w w' : World} {row : Option Nat} (h : w.grownBy w' row) (hb : b ≤ w.heap.size) (hr : ∀ k, row = some k → b ≤ k ∧ isU8 w k) : Wk b w w' := by
  refine ⟨h.os, h.tape, h.output, h.size, fun k hk => h.block k (by omega) (fun e => ?_), fun k hk _ hu => h.block k hk (fun e => hu (hr k e.symm).2)⟩
  have := (hr k e.symm).1
  omega
theorem cat_nil {T : Tx} {s : ByteArray} (h : T ++ tx s = []) : T = [] ∧ s.size = 0 := by
  obtain ⟨h1, h2⟩ := List.append_eq_nil_iff.1 h
  exact ⟨h1, by have := congrArg List.length h2; simpa [tx] using this⟩
set_option maxHeartbeats 2000000 in
theorem write_any {w : World} {b : Nat} {T : Tx} (h : WrAt w b T) (s : ByteArray) (hl : T.length + s.size ≤ 1000000) :
    Calls Tryz.prog 99 #[.pointer (some ⟨b, 0, none⟩), .string s] w fun e w' => e = .returned (.tuple #[.int .i64 s.size, .nilIface]) ∧ WrAt w' b (T ++ tx s) ∧ Wk b w w' := by
  obtain ⟨i0, hi, hz0, hz1, hz2⟩ := info_parts u8Info
  have H := Lib.hid (copy_any h)
  have HL := Lib.hid hl
  clear h hl
  go_enter Tryz.func99, Tryz.ntmps99
  go_wp2_with fail
  refine H.out.mono ?_; rintro e w1 ⟨rfl, ⟨v, hw⟩, hk1⟩
  have HW := Lib.hid hw
  have HK := Lib.hid hk1
  have c1 : w1.cell? ⟨b, 1, none⟩ = some v := hw.1.cell 1
  have hown := hw.2.1
  have hne := hw.apart
  have hlt := hw.1.lt
  obtain ⟨n, hn⟩ : ∃ n, T.length = n := ⟨_, rfl⟩
  rw [hn] at hown HL
  clear hw hk1
  go_wp2_with (at_builtin; refine Lib.wpList_append_own_string _ rfl _ _ 113 9 rfl b 5 i0 Tryz.underlying113 Tryz.underlying9 hi hz0 hz1 hz2 _ _ _ rfl hown s rfl ?c3 ?c4 ?c5 ?_)
  case c3 => have := HL.out; unfold maxLen; omega
  case c4 => have := HL.out; omega
  case c5 => omega
  intro v' w2 hown' hgrow hnil
  have HB2 := Lib.hid (HW.out.1.grown hgrow (fun e => hne e.symm))
  have d0 : w2.cell? ⟨b, 0, none⟩ = some (.pointer (some ⟨b, 0, none⟩)) := HB2.out.cell 0
  have d1 : w2.cell? ⟨b, 1, none⟩ = some v := HB2.out.cell 1
  have f1 : w2.frozen? ⟨b, 1, none⟩ = false := HB2.out.cold 1
  have hlt2 := HB2.out.lt
  have HOWN := Lib.hid hown'
  have HNIL := Lib.hid hnil
  have HGK := Lib.hid (Wk.grown hgrow (Nat.le_of_lt hlt) (fun k hk => own_row hown hk))
  have HNN := Lib.hid hn
  obtain ⟨ao, n', cap, hv'⟩ : ∃ ao n' cap, v' = .slice ao n' cap := by
    rcases hown'.2 with ⟨hv, _⟩ | ⟨g, cap, cur, hv, _⟩
    · exact ⟨_, _, _, hv⟩
    · exact ⟨_, _, _, hv⟩
  subst hv'
  clear hown' hgrow hnil hn hown hne
  go_wp2_with fail
  go_ret2
  refine ⟨rfl, ⟨.slice ao n' cap, .inr ⟨?_, ?_, fun he => ?_⟩⟩, (HK.out.trans HGK.out).trans (Wk.setOwn 1 _)⟩
  · have := HB2.out.at_ 1 (.slice ao n' cap)
    exact this
  · have e1 : (T ++ tx s).length = n + s.size := by rw [List.length_append, HNN.out, tx_length]
    have e2 : Lib.byteCells (T ++ tx s) = Lib.byteCells T ++ Lib.strCells s := by rw [Lib.byteCells_append, Lib.strCells_eq]; rfl
    rw [e1, e2]
    exact HOWN.out.kept (row := some b) ⟨rfl, rfl, rfl, by simp [World.setCell], fun k _ hk => Below.heap_setCell _ _ _ _ (fun e => hk (by simp [e]))⟩ (Or.inr (Lib.ownBlock_ne HOWN.out HB2.out wNe))
  · obtain ⟨t0, s0⟩ := cat_nil he
    exact HNIL.out.2 ⟨HW.out.2.2 t0, by first | exact s0 | simpa using s0⟩

set_option maxHeartbeats 2000000 in
theorem string_any {w : World} {b : Nat} {T : Tx} (h : WrAt w b T) (hl : T.length ≤ 1000000) :
    Calls Tryz.prog 61 #[.pointer (some ⟨b, 0, none⟩)] w fun e w' => e = .returned (.string ⟨T.toArray⟩) ∧ Below b w w' := by
  obtain ⟨p, v, hbk, hown, hnil⟩ := h.any
  have hlt := hbk.lt
  by_cases h0 : T = []
  · obtain rfl := hnil h0
    subst h0
    have hUS := fun W q => Lib.run_unsafeString_none (P := Tryz.prog) W 152 3 9 q
    have c1 : w.drew.cell? ⟨b, 1, none⟩ = some (.slice none 0 0) := hbk.cell 1
    have hSD : (Builtin.unsafeSliceData_ #[113] 152 #[.slice none 0 0]).run Tryz.prog w.drew = .ok (.pointer none) w.drew := rfl
    clear hbk hown hnil h
    go_enter Tryz.func61, Tryz.ntmps61
    go_wp2_with fail
    go_region
    all_goals (go_wp2_with fail; go_ret; exact ⟨rfl, Below.drew (Below.refl b w)⟩)
  · have hl0 : T.length ≠ 0 := by simpa using h0
    obtain ⟨g, cap, cur, rfl, hbg, hg, hnc, hcm, hcs, htake⟩ : ∃ g cap cur, v = .slice (some ⟨g, 0, none⟩) T.length cap ∧ b ≤ g ∧ w.heap[g]? = some (.cells cur 5 (0, 0)) ∧ T.length ≤ cap ∧ cap ≤ maxLen ∧ cur.size = cap * 1 ∧ cur.toList.take (T.length * 1) = Lib.byteCells T := by
      rcases hown.2 with ⟨_, hz⟩ | ⟨g, cap, cur, hv, r⟩
      · exact absurd hz hl0
      · exact ⟨g, cap, cur, hv, r⟩
    have c1 : w.drew.cell? ⟨b, 1, none⟩ = some (.slice (some ⟨g, 0, none⟩) T.length cap) := hbk.cell 1
    have hSD : (Builtin.unsafeSliceData_ #[113] 152 #[.slice (some ⟨g, 0, none⟩) T.length cap]).run Tryz.prog w.drew = .ok (.pointer (some ⟨g, 0, none⟩)) w.drew :=
      Lib.run_unsafeSliceData_row _ _ _ _ _ _ (by omega)
    have hUS : (Builtin.unsafeString_ #[152, 3] 9 #[.pointer (some ⟨g, 0, none⟩), .int .i64 T.length]).run Tryz.prog w.drew = .ok (.string ⟨T.toArray⟩) (w.drew.freeze ⟨g, 0, none⟩ T.length) := by
      refine Lib.run_unsafeString_row w.drew 152 3 9 5 Tryz.underlying152 u8Cells g cur.size (by have hg' : w.drew.heap[g]? = some (.cells cur 5 (0, 0)) := hg; simp [World.shape?, hg']) T h0 (by omega) (by omega) ?_
      intro j x hx
      have := hown.cells (g := g) rfl j (.int .u8 x.toNat) (by simp [Lib.byteCells, hx])
      exact this
    have HBG := Lib.hid hbg
    clear hbk hown hnil h hbg hg hnc hcm hcs htake h0 hl0
    go_enter Tryz.func61, Tryz.ntmps61
    go_wp2_with fail
    go_region
    all_goals (go_wp2_with fail; go_ret; exact ⟨rfl, Lib.below_freeze (Below.drew (Below.refl b w)) (p := ⟨g, 0, none⟩) HBG.out _⟩)

end Go.Proofs.YteaojmcfppbgiaaGreatDoor

/- print's writer: put, of one text, of two. -/
namespace Go.Proofs.YteaojmcfppbgiaaGreatDoor
open Go.RowKit
set_option linter.unusedVariables false
set_option maxRecDepth 100000

/-- A call that has written X. -/
def PutIs (b : Nat) (T X : Tx) (w : World) (e : Ending) (w' : World) : Prop := e = .returned (.tuple #[]) ∧ ∃ T', Wrote T X T' ∧ WrAt w' b T' ∧ Wk b w w'

theorem wStr : 9 ≠ 5 := by decide
/-- One more text, unless there is too much. -/
def more1 (T : Tx) (s : ByteArray) : Tx := if 65535 < T.length then T else T ++ tx s
theorem more1_wrote (T : Tx) (s : ByteArray) : Wrote T (tx s) (more1 T s) := by
  unfold more1
  split
  · exact .full ‹_›
  · exact .go ‹_›

set_option maxHeartbeats 2000000 in
theorem put_list {w : World} {b : Nat} {T : Tx} (h : WrAt w b T) (g : Nat) (ss : List ByteArray) (hg : Bk w g 9 (ss.map Value.string).toArray) (hgb : g ≠ b) (hz : ∀ s ∈ ss, s.size ≤ 65535) (hn : ss.length ≤ 3) :
    Calls Tryz.prog 62 #[.pointer (some ⟨b, 0, none⟩), .slice (some ⟨g, 0, none⟩) ss.length ss.length] w (PutIs b T (ss.flatMap tx) w) := by
  have HW := Lib.hid h
  have HG := Lib.hid hg
  have HZ := Lib.hid hz
  obtain ⟨n, hnn⟩ : ∃ n, ss.length = n := ⟨_, rfl⟩
  have HN := Lib.hid hnn
  rw [hnn] at hn ⊢
  have HGB := Lib.hid hgb
  clear h hg hz hnn
  go_enter Tryz.func62, Tryz.ntmps62
  go_wp2_with fail
  go_loopw [8] (fun iv wr => ∃ (i : Nat) (T1 : Tx), i ≤ n ∧ iv = .int .i64 i ∧ Hid (Wrote T ((ss.take i).flatMap tx) T1) ∧ Hid (WrAt wr b T1) ∧ Hid (Wk b w wr)) (fun iv _ => n - (intOf iv).toNat)
  case atStart => exact ⟨0, T, Nat.zero_le _, rfl, Lib.hid (Wrote.nil T), HW, Lib.hid (Wk.refl b w)⟩
  case round =>
    obtain ⟨i, T1, hi, rfl, HX, HA, HK⟩ := hrel
    by_cases hlt : i < n
    · have hil : i < ss.length := by rw [HN.out]; exact hlt
      have HC := Lib.hid (HG.out.wk HK.out hgb wStr)
      have hcell : wr.cell? ⟨g, 0 + i, none⟩ = some (.string ss[i]) := by
        have := HC.out.cell i
        rw [Nat.zero_add, this]
        simp [hil]
      have hcell2 : wr.cell? ⟨g, i, none⟩ = some (.string ss[i]) := by rw [← hcell, Nat.zero_add]
      obtain ⟨s, hs⟩ : ∃ s, ss[i] = s := ⟨_, rfl⟩
      have hss : s.size ≤ 65535 := by rw [← hs]; exact HZ.out _ (List.getElem_mem _)
      rw [hs] at hcell hcell2
      have hb1 : i + 1 ≤ n := hlt
      have HF := Lib.hid (full_any HA.out)
      have HX2 : Hid (Wrote T ((ss.take (i + 1)).flatMap tx) (more1 T1 s)) := Lib.hid (by
        rw [List.take_succ_eq_append_getElem hil, List.flatMap_append, hs]
        have := HX.out.trans (more1_wrote T1 s)
        simpa using this)
      by_cases hf : 65535 < T1.length
      · rw [decide_eq_true hf] at HF
        have hm : more1 T1 s = T1 := by unfold more1; rw [if_pos hf]
        rw [hm] at HX2
        clear hf hm hs hil HX HC
        go_wp2_with fail
        refine HF.out.mono ?_; rintro e w1 ⟨rfl, rfl⟩
        go_wp2_with fail
        go_roundw
        case rel => exact ⟨i + 1, T1, hb1, by go_num, HX2, HA, HK⟩
        case measure => simp [intOf]; omega
      · rw [decide_eq_false hf] at HF
        have hm : more1 T1 s = T1 ++ tx s := by unfold more1; rw [if_neg hf]
        rw [hm] at HX2
        have HWR := Lib.hid (write_any HA.out s (by omega))
        clear hf hm hs hil HX HC
        go_wp2_with fail
        refine HF.out.mono ?_; rintro e w1 ⟨rfl, rfl⟩
        go_wp2_with fail
        refine HWR.out.mono ?_; rintro e w1 ⟨rfl, hw1, hk1⟩
        have HW1 := Lib.hid hw1
        have HK1 := Lib.hid (HK.out.trans hk1)
        clear hw1 hk1 HWR HA
        go_wp2_with fail
        go_roundw
        case rel => exact ⟨i + 1, _, hb1, by go_num, HX2, HW1, HK1⟩
        case measure => simp [intOf]; omega
    · obtain rfl : i = n := by omega
      have hX := HX.out
      rw [← HN.out, List.take_length] at hX
      have HX2 := Lib.hid hX
      clear hX HX
      go_wp2_with fail
      go_end0
      exact ⟨rfl, T1, HX2.out, HA.out, HK.out⟩

theorem put1 {w : World} {b : Nat} {T : Tx} (h : WrAt w b T) (g : Nat) (u : ByteArray) (hg : Bk w g 9 #[.string u]) (hgb : g ≠ b) (hu : u.size ≤ 65535) :
    Calls Tryz.prog 62 #[.pointer (some ⟨b, 0, none⟩), .slice (some ⟨g, 0, none⟩) 1 1] w (PutIs b T (tx u) w) := by
  have := put_list h g [u] hg hgb (fun s hs => by simp at hs; subst hs; exact hu) (by simp)
  simpa using this
theorem put2 {w : World} {b : Nat} {T : Tx} (h : WrAt w b T) (g : Nat) (u v : ByteArray) (hg : Bk w g 9 #[.string u, .string v]) (hgb : g ≠ b) (hu : u.size ≤ 65535) (hv : v.size ≤ 65535) :
    Calls Tryz.prog 62 #[.pointer (some ⟨b, 0, none⟩), .slice (some ⟨g, 0, none⟩) 2 2] w (PutIs b T (tx u ++ tx v) w) := by
  have := put_list h g [u, v] hg hgb (fun s hs => by simp at hs; rcases hs with rfl | rfl <;> assumption) (by simp)
  simpa using this
theorem put3 {w : World} {b : Nat} {T : Tx} (h : WrAt w b T) (g : Nat) (u v x : ByteArray) (hg : Bk w g 9 #[.string u, .string v, .string x]) (hgb : g ≠ b) (hu : u.size ≤ 65535) (hv : v.size ≤ 65535) (hx : x.size ≤ 65535) :
    Calls Tryz.prog 62 #[.pointer (some ⟨b, 0, none⟩), .slice (some ⟨g, 0, none⟩) 3 3] w (PutIs b T (tx u ++ (tx v ++ tx x)) w) := by
  have := put_list h g [u, v, x] hg hgb (fun s hs => by simp at hs; rcases hs with rfl | rfl | rfl <;> assumption) (by simp)
  simpa using this

end Go.Proofs.YteaojmcfppbgiaaGreatDoor
