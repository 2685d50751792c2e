/- The closures of term.Has, Loose, Right as tellers; what each of these comes to, plainly. -/
import Derived.Test.YtodmnollgejgeaaDoorTEach
import Derived.Test.YtodmnollgejgeaaDoorApp
namespace Go.Proofs.YtodmnollgejgeaaDoor
open Go.RowKit
set_option linter.unusedVariables false
set_option maxRecDepth 100000

theorem Aside.box {g : Nat} {w : World} (o : Obj) (q : Nat) (u : Value) : Aside (fun k => k = g) w ((w.setCell ⟨g, q, none⟩ u).alloc o) :=
  ⟨rfl, rfl, rfl, by simp [World.setCell], fun k hk hn => (Below.heap_alloc _ _ _ (by simp [World.setCell]; exact hk)).trans (Below.heap_setCell _ _ _ _ (by show k ≠ g; exact hn))⟩
theorem cell_set_alloc {w : World} {g q b c : Nat} (o : Obj) (u : Value) (hb : b < w.heap.size) (hne : (⟨g, q, none⟩ : Addr) ≠ ⟨b, c, none⟩) : ((w.setCell ⟨g, q, none⟩ u).alloc o).cell? ⟨b, c, none⟩ = w.cell? ⟨b, c, none⟩ :=
  (World.cell?_alloc_lt _ _ _ (by simp [World.setCell]; exact hb)).trans (World.cell?_setCell_other _ _ _ _ hne)
theorem Aside.none {T : Nat → Prop} {w : World} (o : Obj) : Aside T w (w.alloc o) := Aside.of_below ((Below.refl _ _).alloc (Nat.le_refl _) _)

def hasF (n : Int) (p : Bool) (t : TM) (x : Int) : Bool := p || (t.k == 1 && (t.n - x == n))
def looseF (p : Int) (t : TM) (x : Int) : Int := if t.k = 1 then max p (t.n - x + 1) else p
def rightF (loose entries : Int) (p : Bool) (t : TM) (x : Int) : Bool := if t.k = 1 then p && decide (t.n - x < loose) else if t.k = 6 ∨ t.k = 7 then p && decide (t.n < entries) else p

theorem tell_has (B g q : Nat) (n : Int) (hg : B ≤ g) (hq : q < B) :
    Teller B 46 [.pointer (some ⟨g, 0, none⟩), .pointer (some ⟨q, 0, none⟩)] (fun p _ w => Bk w g 4 #[.bool p] ∧ w.cell? ⟨q, 0, none⟩ = some (.int .i64 n)) (fun _ k => k = g) (hasF n) (fun _ => 0) where
  cnt := fun _ _ _ => by omega
  keep := fun p v w w' h hb => ⟨h.1.below hb h.1.lt, (hb.cell (p := ⟨q, 0, none⟩) (World.block_lt_of_cell? w _ h.2)).trans h.2⟩
  lt := fun p v w h k hk => by subst hk; exact ⟨hg, h.1.lt⟩
  call := by
    intro t x lo hi A cap p v w h hn hhi hB hx0 hx1 hn0 hn1 _
    obtain ⟨b1, b2⟩ := h
    have hlt := b1.lt
    have hqw := World.block_lt_of_cell? w _ b2
    simp only at hqw
    have c1 := b1.cell 0
    simp at c1
    have hfz := b1.cold 0
    have hne : (⟨g, 0, none⟩ : Addr) ≠ ⟨q, 0, none⟩ := fun e => by injection e; omega
    have HB1 := Lib.hid b1
    have HB2 := Lib.hid b2
    have HF := Lib.hid (show hasF n p t x = (p || (t.k == 1 && (t.n - x == n))) from rfl)
    have hfin : ∀ o u, hasF n p t x = u → (Bk ((w.setCell ⟨g, 0, none⟩ (.bool u)).alloc o) g 4 #[.bool (hasF n p t x)] ∧ ((w.setCell ⟨g, 0, none⟩ (.bool u)).alloc o).cell? ⟨q, 0, none⟩ = some (.int .i64 n)) ∧
        Aside (fun k => k = g) w ((w.setCell ⟨g, 0, none⟩ (.bool u)).alloc o) ∧ ∀ k, k = g → k = g ∨ w.heap.size ≤ k := fun o u e => by
      refine ⟨⟨?_, ?_⟩, Aside.box o 0 _, fun k hk => .inl hk⟩
      · rw [e]; exact (HB1.out.at_ 0 (.bool u)).alloc o
      · rw [cell_set_alloc _ _ hqw hne]; exact HB2.out
    have HFIN := Lib.hid hfin
    clear b1 hfin
    show Calls _ _ #[termV t A cap, .int .i64 x, .pointer (some ⟨g, 0, none⟩), .pointer (some ⟨q, 0, none⟩)] _ _
    unfold termV
    cases p with
    | true =>
      go_enter Tryd.func46, Tryd.ntmps46
      go_wp2_with fail
      go_end0
      exact ⟨rfl, v, HFIN.out _ _ HF.out⟩
    | false =>
      by_cases hk : t.k = 1
      · have e1 : (t.k == 1) = true := by rw [hk]; rfl
        have HF2 := Lib.hid (show hasF n false t x = (t.n - x == n) by rw [HF.out, e1]; simp)
        clear hk
        go_enter Tryd.func46, Tryd.ntmps46
        go_wp2_with fail
        go_end0
        exact ⟨rfl, v, HFIN.out _ _ HF2.out⟩
      · have e1 : (t.k == 1) = false := by rw [beq_eq_false_iff_ne]; exact hk
        have HF2 := Lib.hid (show hasF n false t x = false by rw [HF.out, e1]; simp)
        clear hk
        go_enter Tryd.func46, Tryd.ntmps46
        go_wp2_with fail
        go_end0
        exact ⟨rfl, v, HFIN.out _ _ HF2.out⟩

theorem tell_loose (B g : Nat) (hg : B ≤ g) :
    Teller B 47 [.pointer (some ⟨g, 0, none⟩)] (fun p _ w => Bk w g 3 #[.int .i64 p]) (fun _ k => k = g) looseF (fun _ => 0) where
  cnt := fun _ _ _ => by omega
  keep := fun p v w w' h hb => h.below hb h.lt
  lt := fun p v w h k hk => by subst hk; exact ⟨hg, h.lt⟩
  call := by
    intro t x lo hi A cap p v w b1 hn hhi hB hx0 hx1 hn0 hn1 _
    have hlt := b1.lt
    have c1 := b1.cell 0
    simp at c1
    have hfz := b1.cold 0
    have HB1 := Lib.hid b1
    have HFIN := Lib.hid (fun (o : Obj) (u : Int) (e : looseF p t x = u) => (show Bk ((w.setCell ⟨g, 0, none⟩ (.int .i64 u)).alloc o) g 3 #[.int .i64 (looseF p t x)] ∧ Aside (fun k => k = g) w ((w.setCell ⟨g, 0, none⟩ (.int .i64 u)).alloc o) ∧ ∀ k, k = g → k = g ∨ w.heap.size ≤ k from
      ⟨by rw [e]; exact (HB1.out.at_ 0 (.int .i64 u)).alloc o, Aside.box o 0 _, fun k hk => .inl hk⟩))
    clear b1
    show Calls _ _ #[termV t A cap, .int .i64 x, .pointer (some ⟨g, 0, none⟩)] _ _
    unfold termV
    by_cases hk : t.k = 1
    · have e1 : (t.k == 1) = true := by rw [hk]; rfl
      by_cases hm : p < t.n - x + 1
      · have HF2 := Lib.hid (show looseF p t x = t.n - x + 1 by unfold looseF; rw [if_pos hk]; omega)
        clear hk
        go_enter Tryd.func47, Tryd.ntmps47
        go_wp2_with fail
        go_end0
        exact ⟨rfl, v, HFIN.out _ _ HF2.out⟩
      · have HF2 := Lib.hid (show looseF p t x = p by unfold looseF; rw [if_pos hk]; omega)
        clear hk
        go_enter Tryd.func47, Tryd.ntmps47
        go_wp2_with fail
        go_end0
        exact ⟨rfl, v, HFIN.out _ _ HF2.out⟩
    · have e1 : (t.k == 1) = false := by rw [beq_eq_false_iff_ne]; exact hk
      have HF2 := Lib.hid (show looseF p t x = p by unfold looseF; rw [if_neg hk])
      clear hk
      go_enter Tryd.func47, Tryd.ntmps47
      go_wp2_with fail
      go_end0
      exact ⟨rfl, v, by rw [HF2.out]; exact HB1.out.alloc _, Aside.none _, fun k hk => .inl hk⟩

end Go.Proofs.YtodmnollgejgeaaDoor
