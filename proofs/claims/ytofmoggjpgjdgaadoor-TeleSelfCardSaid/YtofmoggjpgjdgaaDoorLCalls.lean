/- lift.Lift, Up, Lower, Swap over any term; the laws' own same and awake. -/
import Derived.Test.YtofmoggjpgjdgaaDoorM5
import Derived.Test.YtofmoggjpgjdgaaDoorTREqual
namespace Go.Proofs.YtofmoggjpgjdgaaDoor
open Go.RowKit
set_option linter.unusedVariables false
set_option maxRecDepth 100000

/-- What the document asks of each. -/
def liftX (t : TM) (k n : Int) : TM × Int := if fitsB k && (fitsB n && shapedB t) then resU (movT (liftG k n) t 0) else (.node 0 0 [], 5)
def lowerX (t : TM) (k n : Int) : TM × Int := if fitsB k && (fitsB n && shapedB t) then resU (movT (lowerG k n) t 0) else (.node 0 0 [], 5)
def swapX (t : TM) (n : Int) : TM × Int := if fitsB n && shapedB t then (if n = 1048576 then (.node 0 0 [], 2) else resU (movT (swapG n) t 0)) else (.node 0 0 [], 5)
theorem GivesT.kept {p q : TM × Int} {w w' : World} {e : Ending} (h : GivesT p w e w') (hp : p = q) : GivesT q w e w' := by subst hp; exact h
theorem varcalls_lift (a1 a2 : Nat) (k n : Int) (w : World) (h1 : w.cell? ⟨a1, 0, none⟩ = some (.int .i64 n)) (h2 : w.cell? ⟨a2, 0, none⟩ = some (.int .i64 k)) (hn : 0 ≤ n ∧ n ≤ 1048576) (hk : 0 ≤ k ∧ k ≤ 1048576) :
    VarCalls (.func (.func 49) #[] #[.pointer (some ⟨a1, 0, none⟩), .pointer (some ⟨a2, 0, none⟩)]) (liftG k n) w := by
  intro m b V hV hm0 hm1 hb0 hb1
  have l1 := World.block_lt_of_cell? w _ h1
  have l2 := World.block_lt_of_cell? w _ h2
  refine movedVar_lift ⟨a1, 0, none⟩ ⟨a2, 0, none⟩ (liftG k n) m b V hb0 hb1 ?_ (fun o => cl_lift _ _ m k n _ ?_ ?_ ⟨hm0, hm1⟩ hn hk)
  · unfold liftG; split <;> simp only <;> omega
  · exact ((hV.alloc hV.size o).cell (p := ⟨a1, 0, none⟩) l1).trans h1
  · exact ((hV.alloc hV.size o).cell (p := ⟨a2, 0, none⟩) l2).trans h2
/-- The result's box of a function that gives a term and an error. -/
theorem give_zero {w w1 : World} {g : Nat} {c : Int} (hb : Below w.heap.size w w1) (hg : w.heap.size ≤ g) : GivesT (.node 0 0 [], c) w (.returned (.tuple #[.agg #[.int .i64 0, .int .i64 0, .slice none 0 0], .int .i64 c])) (((w1.setCell ⟨g, 0, none⟩ (.int .i64 0)).setCell ⟨g, 1, none⟩ (.int .i64 0)).setCell ⟨g, 2, none⟩ (.slice none 0 0)) :=
  GivesT.zero (((hb.setCell hg _).setCell hg _).setCell hg _)
theorem give_term {w w1 : World} {g lo : Nat} {x : TM} {c : Int} {A : Option Addr} {cap : Nat} (hb : Below w.heap.size w w1) (hg : w.heap.size ≤ g) (hx : IsTerm w1 lo w1.heap.size x A cap) (hlo : g < lo) :
    GivesT (x, c) w (.returned (.tuple #[.agg #[.int .i64 x.k, .int .i64 x.n, .slice A x.l.length cap], .int .i64 c])) (((w1.setCell ⟨g, 0, none⟩ (.int .i64 x.k)).setCell ⟨g, 1, none⟩ (.int .i64 x.n)).setCell ⟨g, 2, none⟩ (.slice A x.l.length cap)) :=
  ⟨A, cap, rfl, (hx.far3 hlo _ _ _).wide (by omega) (by simp [World.setCell]), ((hb.setCell hg _).setCell hg _).setCell hg _⟩

set_option maxHeartbeats 2000000 in
theorem lift_any (t : TM) (k n : Int) (lo hi : Nat) (A : Option Addr) (cap : Nat) (w : World) (h : IsTerm w lo hi t A cap) (hhi : hi ≤ w.heap.size) (hS : ShapesM w) :
    Calls Tryd.prog 27 #[termV t A cap, .int .i64 k, .int .i64 n] w (GivesT (liftX t k n) w) := by
  have HT := Lib.hid (fun (V : World) (hV : Below w.heap.size w V) => h.kept hV hhi)
  have HSS := Lib.hid (fun (V : World) (hV : Below w.heap.size w V) => hS.kept hV)
  have HHI := Lib.hid hhi
  have HB0 := Lib.hid (((((Below.refl w.heap.size w).alloc (Nat.le_refl _) (.cells #[.int .i64 t.k, .int .i64 t.n, .slice A t.l.length cap] 24)).alloc (by simp) (.cells #[.int .i64 k] 3)).alloc (by simp <;> omega) (.cells #[.int .i64 n] 3)).alloc (by simp <;> omega) (.cells #[.int .i64 0, .int .i64 0, .slice none 0 0] 24))
  have HBT := Lib.hid (fun (V : World) (hV : Below ((((w.alloc (.cells #[.int .i64 t.k, .int .i64 t.n, .slice A t.l.length cap] 24)).alloc (.cells #[.int .i64 k] 3)).alloc (.cells #[.int .i64 n] 3)).alloc (.cells #[.int .i64 0, .int .i64 0, .slice none 0 0] 24)).heap.size ((((w.alloc (.cells #[.int .i64 t.k, .int .i64 t.n, .slice A t.l.length cap] 24)).alloc (.cells #[.int .i64 k] 3)).alloc (.cells #[.int .i64 n] 3)).alloc (.cells #[.int .i64 0, .int .i64 0, .slice none 0 0] 24)) V) => (show TBox V w.heap.size t.k t.n (.slice A t.l.length cap) from TBox.of (((((Bk.new w 24 _).alloc (.cells #[.int .i64 k] 3)).alloc (.cells #[.int .i64 n] 3)).alloc (.cells #[.int .i64 0, .int .i64 0, .slice none 0 0] 24)).below hV (by simp <;> omega))))
  have HBN1 := Lib.hid (fun (V : World) (hV : Below ((((w.alloc (.cells #[.int .i64 t.k, .int .i64 t.n, .slice A t.l.length cap] 24)).alloc (.cells #[.int .i64 k] 3)).alloc (.cells #[.int .i64 n] 3)).alloc (.cells #[.int .i64 0, .int .i64 0, .slice none 0 0] 24)).heap.size ((((w.alloc (.cells #[.int .i64 t.k, .int .i64 t.n, .slice A t.l.length cap] 24)).alloc (.cells #[.int .i64 k] 3)).alloc (.cells #[.int .i64 n] 3)).alloc (.cells #[.int .i64 0, .int .i64 0, .slice none 0 0] 24)) V) => (show Bk V (w.heap.size + 1) 3 #[.int .i64 k] from (((Bk.last (w.alloc (.cells #[.int .i64 t.k, .int .i64 t.n, .slice A t.l.length cap] 24)) 3 #[.int .i64 k] (by simp)).alloc (.cells #[.int .i64 n] 3)).alloc (.cells #[.int .i64 0, .int .i64 0, .slice none 0 0] 24)).below hV (by simp <;> omega)))
  have HBN2 := Lib.hid (fun (V : World) (hV : Below ((((w.alloc (.cells #[.int .i64 t.k, .int .i64 t.n, .slice A t.l.length cap] 24)).alloc (.cells #[.int .i64 k] 3)).alloc (.cells #[.int .i64 n] 3)).alloc (.cells #[.int .i64 0, .int .i64 0, .slice none 0 0] 24)).heap.size ((((w.alloc (.cells #[.int .i64 t.k, .int .i64 t.n, .slice A t.l.length cap] 24)).alloc (.cells #[.int .i64 k] 3)).alloc (.cells #[.int .i64 n] 3)).alloc (.cells #[.int .i64 0, .int .i64 0, .slice none 0 0] 24)) V) => (show Bk V (w.heap.size + 2) 3 #[.int .i64 n] from ((Bk.last ((w.alloc (.cells #[.int .i64 t.k, .int .i64 t.n, .slice A t.l.length cap] 24)).alloc (.cells #[.int .i64 k] 3)) 3 #[.int .i64 n] (by simp)).alloc (.cells #[.int .i64 0, .int .i64 0, .slice none 0 0] 24)).below hV (by simp <;> omega)))
  have HBZ := Lib.hid (fun (V : World) (hV : Below ((((w.alloc (.cells #[.int .i64 t.k, .int .i64 t.n, .slice A t.l.length cap] 24)).alloc (.cells #[.int .i64 k] 3)).alloc (.cells #[.int .i64 n] 3)).alloc (.cells #[.int .i64 0, .int .i64 0, .slice none 0 0] 24)).heap.size ((((w.alloc (.cells #[.int .i64 t.k, .int .i64 t.n, .slice A t.l.length cap] 24)).alloc (.cells #[.int .i64 k] 3)).alloc (.cells #[.int .i64 n] 3)).alloc (.cells #[.int .i64 0, .int .i64 0, .slice none 0 0] 24)) V) => (show Bk V (w.heap.size + 3) 24 #[.int .i64 0, .int .i64 0, .slice none 0 0] from (Bk.last (((w.alloc (.cells #[.int .i64 t.k, .int .i64 t.n, .slice A t.l.length cap] 24)).alloc (.cells #[.int .i64 k] 3)).alloc (.cells #[.int .i64 n] 3)) 24 #[.int .i64 0, .int .i64 0, .slice none 0 0] (by simp)).below hV (by simp)))
  have HMV := Lib.hid (fun (V : World) (g : Nat) (hV : Below w.heap.size w V) (hg : g < V.heap.size) (hc : ∀ i (hi : i < [k, n].length), V.cell? ⟨g, i, none⟩ = some (.int .i64 [k, n][i])) => movable_any t lo hi A cap [k, n] g 2 V (HT.out V hV) (by have := hV.size; have := HHI.out; omega) (HSS.out V hV) (by simp) hg hc)
  obtain ⟨bx, hbx⟩ : ∃ bx, (fitsB k && (fitsB n && shapedB t)) = bx := ⟨_, rfl⟩
  have hbl : ([k, n].all fitsB && shapedB t) = bx := by rw [← hbx]; simp [Bool.and_assoc]
  rw [hbl] at HMV
  have HBX := Lib.hid hbx
  clear h hS hhi hbl hbx
  unfold termV at HMV ⊢
  go_enter Tryd.func27, Tryd.ntmps27
  go_wp2_with fail
  refine (HMV.out _ _ (HB0.out.alloc HB0.out.size _) (by simp <;> omega) (fun i hi => by
    simp at hi
    have hi2 : i = 0 ∨ i = 1 := by omega
    rcases hi2 with rfl | rfl
    · exact (Bk.last ((((w.alloc (.cells #[.int .i64 t.k, .int .i64 t.n, .slice A t.l.length cap] 24)).alloc (.cells #[.int .i64 k] 3)).alloc (.cells #[.int .i64 n] 3)).alloc (.cells #[.int .i64 0, .int .i64 0, .slice none 0 0] 24)) 3 #[.int .i64 k, .int .i64 n] (by simp)).cell 0
    · exact (Bk.last ((((w.alloc (.cells #[.int .i64 t.k, .int .i64 t.n, .slice A t.l.length cap] 24)).alloc (.cells #[.int .i64 k] 3)).alloc (.cells #[.int .i64 n] 3)).alloc (.cells #[.int .i64 0, .int .i64 0, .slice none 0 0] 24)) 3 #[.int .i64 k, .int .i64 n] (by simp)).cell 1)).mono ?_
  rintro e w1 ⟨rfl, hb1⟩
  have hbz := ((Below.refl ((((w.alloc (.cells #[.int .i64 t.k, .int .i64 t.n, .slice A t.l.length cap] 24)).alloc (.cells #[.int .i64 k] 3)).alloc (.cells #[.int .i64 n] 3)).alloc (.cells #[.int .i64 0, .int .i64 0, .slice none 0 0] 24)).heap.size ((((w.alloc (.cells #[.int .i64 t.k, .int .i64 t.n, .slice A t.l.length cap] 24)).alloc (.cells #[.int .i64 k] 3)).alloc (.cells #[.int .i64 n] 3)).alloc (.cells #[.int .i64 0, .int .i64 0, .slice none 0 0] 24))).alloc (Nat.le_refl _) (.cells #[.int .i64 k, .int .i64 n] 3)).trans (hb1.mono (by simp))
  have HB1 := Lib.hid (HB0.out.trans (hbz.mono (by simp <;> omega)))
  have HBB := Lib.hid hbz
  have hz1 := hb1.size
  simp at hz1
  have BZ := HBZ.out _ hbz
  have BT := HBT.out _ hbz
  have BN1 := HBN1.out _ hbz
  have BN2 := HBN2.out _ hbz
  clear hb1 hbz
  cases bx with
  | false =>
    have HE := Lib.hid (show liftX t k n = (.node 0 0 [], 5) by unfold liftX; rw [HBX.out]; rfl)
    have d0 : w1.cell? ⟨w.heap.size + 3, 0, none⟩ = some (.int .i64 0) := BZ.cell 0
    have d1 : w1.cell? ⟨w.heap.size + 3, 1, none⟩ = some (.int .i64 0) := BZ.cell 1
    have d2 : w1.cell? ⟨w.heap.size + 3, 2, none⟩ = some (.slice none 0 0) := BZ.cell 2
    have hfz : ∀ o, w1.frozen? ⟨w.heap.size + 3, o, none⟩ = false := fun o => BZ.cold o
    have B5 := ((BZ.at_ 0 (.int .i64 0)).at_ 1 (.int .i64 0)).at_ 2 (.slice none 0 0)
    have HS0 := Lib.hid (B5.cell 0)
    have HS1 := Lib.hid (B5.cell 1)
    have HS2 := Lib.hid (B5.cell 2)
    clear B5 BZ
    go_wp2_with fail
    refine bodyPost_ret (v := .tuple #[.agg #[.int .i64 0, .int .i64 0, .slice none 0 0], .int .i64 5]) (by simp [results, Tryd.results27, go_sem, HS0.out, HS1.out, HS2.out]) rfl ?_
    rw [HE.out]
    exact give_zero HB1.out (by omega)
  | true =>
    have BN1c : w1.cell? ⟨w.heap.size + 1, 0, none⟩ = some (.int .i64 k) := BN1.cell 0
    have BN2c : w1.cell? ⟨w.heap.size + 2, 0, none⟩ = some (.int .i64 n) := BN2.cell 0
    have HE := Lib.hid (show liftX t k n = resU (movT (liftG k n) t 0) by unfold liftX; rw [HBX.out, if_pos rfl])
    obtain ⟨f1, f23⟩ := Bool.and_eq_true _ _ |>.mp HBX.out
    obtain ⟨f2, f3⟩ := Bool.and_eq_true _ _ |>.mp f23
    obtain ⟨s1, s2, s3⟩ := shapedB_true.1 f3
    have CM := Lib.hid (moved_any (.func (.func 49) #[] #[.pointer (some ⟨w.heap.size + 2, 0, none⟩), .pointer (some ⟨w.heap.size + 1, 0, none⟩)]) (liftG k n) w1 (varcalls_lift (w.heap.size + 2) (w.heap.size + 1) k n w1 (BN2.cell 0) (BN1.cell 0) (fitsB_true.1 f2) (fitsB_true.1 f1)) t 0 lo hi A cap w1 (HT.out w1 HB1.out) (by have := HB1.out.size; have := HHI.out; omega) (Below.refl _ _) s3 s1 (by omega) (by omega))
    obtain ⟨x, c, hxc⟩ : ∃ x c, resU (movT (liftG k n) t 0) = (x, c) := ⟨_, _, rfl⟩
    rw [hxc] at CM HE
    obtain ⟨x0, x1, x2, xl⟩ := BT
    have HZ := Lib.hid BZ
    clear hxc s1 s2 s3 f2 f3 BZ f1 f23 BN1 BN2
    unfold termV at CM
    go_wp2_with fail
    refine CM.out.mono ?_
    rintro e w2 ⟨A', cap', rfl, hx2, hb2⟩
    rw [termV]
    have hz2 := hb2.size
    have HB2 := Lib.hid (HB1.out.trans (hb2.mono HB1.out.size))
    have BZ := HZ.out.below hb2 (by omega)
    have HX2 := Lib.hid hx2
    clear hb2 hx2 x0 x1 x2 xl BN1c BN2c
    have d0 : w2.cell? ⟨w.heap.size + 3, 0, none⟩ = some (.int .i64 0) := BZ.cell 0
    have d1 : w2.cell? ⟨w.heap.size + 3, 1, none⟩ = some (.int .i64 0) := BZ.cell 1
    have d2 : w2.cell? ⟨w.heap.size + 3, 2, none⟩ = some (.slice none 0 0) := BZ.cell 2
    have hfz : ∀ o, w2.frozen? ⟨w.heap.size + 3, o, none⟩ = false := fun o => BZ.cold o
    have B5 := ((BZ.at_ 0 (.int .i64 x.k)).at_ 1 (.int .i64 x.n)).at_ 2 (.slice A' x.l.length cap')
    have HS0 := Lib.hid (B5.cell 0)
    have HS1 := Lib.hid (B5.cell 1)
    have HS2 := Lib.hid (B5.cell 2)
    clear B5 BZ
    go_wp2_with fail
    refine bodyPost_ret (v := .tuple #[.agg #[.int .i64 x.k, .int .i64 x.n, .slice A' x.l.length cap'], .int .i64 c]) (by simp [results, Tryd.results27, go_sem, HS0.out, HS1.out, HS2.out]) rfl ?_
    rw [HE.out]
    exact give_term HB2.out (by omega) HX2.out (by omega)

set_option maxHeartbeats 1000000 in
theorem up_any (t : TM) (k : Int) (lo hi : Nat) (A : Option Addr) (cap : Nat) (w : World) (h : IsTerm w lo hi t A cap) (hhi : hi ≤ w.heap.size) (hS : ShapesM w) :
    Calls Tryd.prog 73 #[termV t A cap, .int .i64 k] w (GivesT (liftX t k 0) w) := by
  have CL := Lib.hid (fun (V : World) (hV : Below w.heap.size w V) => lift_any t k 0 lo hi A cap V (h.kept hV hhi) (by have := hV.size; omega) (hS.kept hV))
  have HW2 := Lib.hid (fun o1 o2 => ((Below.refl w.heap.size w).alloc (Nat.le_refl _) o1).alloc (by simp) o2)
  have HBZ := Lib.hid (fun (V : World) (hV : Below ((w.alloc (.cells #[.int .i64 t.k, .int .i64 t.n, .slice A t.l.length cap] 24)).alloc (.cells #[.int .i64 0, .int .i64 0, .slice none 0 0] 24)).heap.size ((w.alloc (.cells #[.int .i64 t.k, .int .i64 t.n, .slice A t.l.length cap] 24)).alloc (.cells #[.int .i64 0, .int .i64 0, .slice none 0 0] 24)) V) => (show Bk V (w.heap.size + 1) 24 #[.int .i64 0, .int .i64 0, .slice none 0 0] from (Bk.last (w.alloc (.cells #[.int .i64 t.k, .int .i64 t.n, .slice A t.l.length cap] 24)) 24 #[.int .i64 0, .int .i64 0, .slice none 0 0] (by simp)).below hV (by simp)))
  obtain ⟨x, c, hxc⟩ : ∃ x c, liftX t k 0 = (x, c) := ⟨_, _, rfl⟩
  rw [hxc] at CL ⊢
  clear h hhi hS hxc
  unfold termV at CL ⊢
  go_enter Tryd.func73, Tryd.ntmps73
  go_wp2_with fail
  refine (CL.out _ (HW2.out _ _)).mono ?_
  rintro e w2 ⟨A', cap', rfl, hx2, hb2⟩
  rw [termV]
  have hz2 := hb2.size
  simp at hz2
  have HB2 := Lib.hid ((HW2.out _ _).trans (hb2.mono (by simp <;> omega)))
  have BZ := HBZ.out _ hb2
  have HX2 := Lib.hid hx2
  clear hb2 hx2
  have d0 : w2.cell? ⟨w.heap.size + 1, 0, none⟩ = some (.int .i64 0) := BZ.cell 0
  have d1 : w2.cell? ⟨w.heap.size + 1, 1, none⟩ = some (.int .i64 0) := BZ.cell 1
  have d2 : w2.cell? ⟨w.heap.size + 1, 2, none⟩ = some (.slice none 0 0) := BZ.cell 2
  have hfz : ∀ o, w2.frozen? ⟨w.heap.size + 1, o, none⟩ = false := fun o => BZ.cold o
  have B5 := ((BZ.at_ 0 (.int .i64 x.k)).at_ 1 (.int .i64 x.n)).at_ 2 (.slice A' x.l.length cap')
  have HS0 := Lib.hid (B5.cell 0)
  have HS1 := Lib.hid (B5.cell 1)
  have HS2 := Lib.hid (B5.cell 2)
  clear B5 BZ
  go_wp2_with fail
  refine bodyPost_ret (v := .tuple #[.agg #[.int .i64 x.k, .int .i64 x.n, .slice A' x.l.length cap'], .int .i64 c]) (by simp [results, Tryd.results73, go_sem, HS0.out, HS1.out, HS2.out]) rfl ?_
  exact give_term HB2.out (by omega) HX2.out (by simp)

end Go.Proofs.YtofmoggjpgjdgaaDoor
