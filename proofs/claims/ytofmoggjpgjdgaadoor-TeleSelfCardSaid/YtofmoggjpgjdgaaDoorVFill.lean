/- tele.Fill, the document's Fill. -/
import Derived.Test.YtofmoggjpgjdgaaDoorVTurn
import Derived.Test.YtofmoggjpgjdgaaDoorM7
import Derived.Test.YtofmoggjpgjdgaaDoorM8
import Derived.Deep.RegionHeld3
namespace Go.Proofs.YtofmoggjpgjdgaaDoor
open Go.RowKit
set_option linter.unusedVariables false
set_option maxRecDepth 100000


set_option maxHeartbeats 4000000 in
theorem fill_any (t : TM) (lo hi : Nat) (A : Option Addr) (cap : Nat) (ls : List TM) (L : Option Addr) (capL : Nat) (w : World) (h : IsTerm w lo hi t A cap) (hhi : hi ≤ w.heap.size) (h2 : IsTerms w 0 w.heap.size ls L capL) (hlen : ls.length ≤ 8000) (hS : ShapesM w) :
    Calls Tryd.prog 21 #[termV t A cap, .slice L ls.length capL] w (GivesT (manyX t ls.reverse) w) := by
  have HW := Lib.hid (show Below w.heap.size w ((w.alloc (.cells #[.int .i64 t.k, .int .i64 t.n, .slice A t.l.length cap] 24)).alloc (.cells #[.int .i64 0, .int .i64 0, .slice none 0 0] 24)) from ((Below.refl w.heap.size w).alloc (by simp <;> omega) (.cells #[.int .i64 t.k, .int .i64 t.n, .slice A t.l.length cap] 24)).alloc (by simp <;> omega) (.cells #[.int .i64 0, .int .i64 0, .slice none 0 0] 24))
  have HKT := Lib.hid (fun (V : World) (hV : Below (w.heap.size + 1) ((w.alloc (.cells #[.int .i64 t.k, .int .i64 t.n, .slice A t.l.length cap] 24)).alloc (.cells #[.int .i64 0, .int .i64 0, .slice none 0 0] 24)) V) => (show V.cell? ⟨w.heap.size, 0, none⟩ = some (.int .i64 t.k) ∧ V.cell? ⟨w.heap.size, 1, none⟩ = some (.int .i64 t.n) ∧ V.cell? ⟨w.heap.size, 2, none⟩ = some (.slice A t.l.length cap) from by
    have hb : Bk V w.heap.size 24 #[.int .i64 t.k, .int .i64 t.n, .slice A t.l.length cap] := ((Bk.new w 24 _).alloc _).below hV (by omega)
    exact ⟨hb.cell 0, hb.cell 1, hb.cell 2⟩))
  have KBR := Lib.hid (fun (V : World) (hV : Below ((w.alloc (.cells #[.int .i64 t.k, .int .i64 t.n, .slice A t.l.length cap] 24)).alloc (.cells #[.int .i64 0, .int .i64 0, .slice none 0 0] 24)).heap.size ((w.alloc (.cells #[.int .i64 t.k, .int .i64 t.n, .slice A t.l.length cap] 24)).alloc (.cells #[.int .i64 0, .int .i64 0, .slice none 0 0] 24)) V) => (show Bk V (w.heap.size + 1) 24 #[.int .i64 0, .int .i64 0, .slice none 0 0] from (Bk.last (w.alloc (.cells #[.int .i64 t.k, .int .i64 t.n, .slice A t.l.length cap] 24)) 24 #[.int .i64 0, .int .i64 0, .slice none 0 0] (g := w.heap.size + 1) (by simp)).below hV (by simp <;> omega)))
  have CB := Lib.hid (fun (V : World) (hV : Below w.heap.size w V) => (backwards_any ls L capL V ((h2.kept hV (Nat.le_refl _)).wide (Nat.le_refl _) hV.size) hlen).mono fun e w' h => (show ∃ a c, e = .returned (.slice a ls.length c) ∧ IsTerms w' 0 w'.heap.size ls.reverse a c ∧ Below V.heap.size V w' from by
    obtain ⟨a, c, h1, h2, h3⟩ := h
    rw [List.length_reverse] at h1
    exact ⟨a, c, h1, h2, h3⟩))
  have CM := Lib.hid (fun (a : Option Addr) (c : Nat) (V : World) (hV : Below w.heap.size w V) (hr : IsTerms V 0 V.heap.size ls.reverse a c) => (show Calls Tryd.prog 38 #[termV t A cap, .slice a ls.length c] V (GivesT (manyX t ls.reverse) V) from by
    have q := manyc_any t lo hi A cap ls.reverse 0 V.heap.size a c V (h.kept hV hhi) (by have := hV.size; omega) hr (Nat.le_refl _) (by rw [List.length_reverse]; omega) (hS.kept hV)
    rw [List.length_reverse] at q
    exact q))
  obtain ⟨x, c, hxc⟩ : ∃ x c, manyX t ls.reverse = (x, c) := ⟨_, _, rfl⟩
  rw [hxc] at CM ⊢
  unfold GivesT termV at CM
  unfold termV
  have hbk0 := Lib.hid (show Below ((w.alloc (.cells #[.int .i64 t.k, .int .i64 t.n, .slice A t.l.length cap] 24)).alloc (.cells #[.int .i64 0, .int .i64 0, .slice none 0 0] 24)).heap.size ((w.alloc (.cells #[.int .i64 t.k, .int .i64 t.n, .slice A t.l.length cap] 24)).alloc (.cells #[.int .i64 0, .int .i64 0, .slice none 0 0] 24)) ((w.alloc (.cells #[.int .i64 t.k, .int .i64 t.n, .slice A t.l.length cap] 24)).alloc (.cells #[.int .i64 0, .int .i64 0, .slice none 0 0] 24)).drew from (Below.refl _ _).drew)
  have HSZ : Hid (w.heap.size + 1 ≤ ((w.alloc (.cells #[.int .i64 t.k, .int .i64 t.n, .slice A t.l.length cap] 24)).alloc (.cells #[.int .i64 0, .int .i64 0, .slice none 0 0] 24)).heap.size) := Lib.hid (by simp)
  have HSY : Hid (w.heap.size + 2 ≤ ((w.alloc (.cells #[.int .i64 t.k, .int .i64 t.n, .slice A t.l.length cap] 24)).alloc (.cells #[.int .i64 0, .int .i64 0, .slice none 0 0] 24)).heap.size) := Lib.hid (by simp)
  clear h h2 hxc hhi hlen hS
  go_enter Tryd.func21, Tryd.ntmps21
  go_wp2_with fail
  obtain ⟨W, hW⟩ : ∃ W, ((w.alloc (.cells #[.int .i64 t.k, .int .i64 t.n, .slice A t.l.length cap] 24)).alloc (.cells #[.int .i64 0, .int .i64 0, .slice none 0 0] 24)) = W := ⟨_, rfl⟩
  rw [hW] at HW HKT KBR hbk0 HSZ HSY ⊢
  obtain ⟨t0, t1, t2⟩ := HKT.out _ (Below.refl _ _)
  have hsw := HSY.out
  clear hW
  go_region_held3 (fun w' => w'.cell? ⟨w.heap.size, 0, none⟩ = some (.int .i64 t.k) ∧ w'.cell? ⟨w.heap.size, 1, none⟩ = some (.int .i64 t.n) ∧ w'.cell? ⟨w.heap.size, 2, none⟩ = some (.slice A t.l.length cap))
    (first | exact HKT.out _ (hbk0.out.mono HSZ.out) | exact HKT.out _ (hbk.out.mono HSZ.out) | exact HKT.out _ (hB5.out.mono HSZ.out) | exact HKT.out _ ((((hB5.out.mono HSZ.out).setCell (by simp <;> omega) _).setCell (by simp <;> omega) _).setCell (by simp <;> omega) _))
    (first
    | (go_at_call 39
       refine (CB.out _ (HW.out.trans (hbk0.out.mono HW.out.size))).mono ?_
       rintro e wn ⟨a, ca, rfl, hr, hbn⟩
       have hbk : Hid (Below W.heap.size W wn) := Lib.hid (hbk0.out.trans (hbn.mono hbk0.out.size))
       have HR := Lib.hid hr
       clear hbn hr)
    | (go_at_call 38
       refine (CM.out a ca _ (HW.out.trans (hbk.out.mono HW.out.size)) HR.out).mono ?_
       rintro e w5 ⟨A', cap', rfl, hx, hb3⟩
       have hB5 : Hid (Below W.heap.size W w5) := Lib.hid (hbk.out.trans (hb3.mono hbk.out.size))
       have HX := Lib.hid hx
       have hcn := hbk.out.size
       have hbkv := KBR.out _ hB5.out
       have HBKV := Lib.hid hbkv
       have hfz : ∀ o, w5.frozen? ⟨w.heap.size + 1, o, none⟩ = false := fun o => hbkv.cold o
       have d0 := hbkv.cell 0
       have d1 := hbkv.cell 1
       have d2 := hbkv.cell 2
       simp at d0 d1 d2
       clear hb3 hx hbkv))
  all_goals
    have HBF := Lib.hid (HW.out.trans (hB5.out.mono HW.out.size))
    have B5 := ((HBKV.out.at_ 0 (.int .i64 x.k)).at_ 1 (.int .i64 x.n)).at_ 2 (.slice A' x.l.length cap')
    have HS0 := Lib.hid (B5.cell 0)
    have HS1 := Lib.hid (B5.cell 1)
    have HS2 := Lib.hid (B5.cell 2)
    clear B5
    go_wp2_with fail
    refine bodyPost_ret (v := .tuple #[.agg #[.int .i64 x.k, .int .i64 x.n, .slice A' x.l.length cap'], .int .i64 c]) (by simp [results, Tryd.results21, go_sem, HS0.out, HS1.out, HS2.out]) rfl ?_
    exact give_term HBF.out (by omega) HX.out (by omega)

set_option maxHeartbeats 4000000 in
theorem rfill_any (t : TM) (lo hi : Nat) (A : Option Addr) (cap : Nat) (ls : List TM) (L : Option Addr) (capL : Nat) (w : World) (h : IsTerm w lo hi t A cap) (hhi : hi ≤ w.heap.size) (h2 : IsTerms w 0 w.heap.size ls L capL) (hlen : ls.length ≤ 8000) :
    Calls Tryd.prog 22 #[termV t A cap, .slice L ls.length capL] w (GivesT (manyX t ls.reverse) w) := by
  have HW := Lib.hid (show Below w.heap.size w ((w.alloc (.cells #[.int .i64 t.k, .int .i64 t.n, .slice A t.l.length cap] 24)).alloc (.cells #[.int .i64 0, .int .i64 0, .slice none 0 0] 24)) from ((Below.refl w.heap.size w).alloc (by simp <;> omega) (.cells #[.int .i64 t.k, .int .i64 t.n, .slice A t.l.length cap] 24)).alloc (by simp <;> omega) (.cells #[.int .i64 0, .int .i64 0, .slice none 0 0] 24))
  have HKT := Lib.hid (fun (V : World) (hV : Below (w.heap.size + 1) ((w.alloc (.cells #[.int .i64 t.k, .int .i64 t.n, .slice A t.l.length cap] 24)).alloc (.cells #[.int .i64 0, .int .i64 0, .slice none 0 0] 24)) V) => (show V.cell? ⟨w.heap.size, 0, none⟩ = some (.int .i64 t.k) ∧ V.cell? ⟨w.heap.size, 1, none⟩ = some (.int .i64 t.n) ∧ V.cell? ⟨w.heap.size, 2, none⟩ = some (.slice A t.l.length cap) from by
    have hb : Bk V w.heap.size 24 #[.int .i64 t.k, .int .i64 t.n, .slice A t.l.length cap] := ((Bk.new w 24 _).alloc _).below hV (by omega)
    exact ⟨hb.cell 0, hb.cell 1, hb.cell 2⟩))
  have KBR := Lib.hid (fun (V : World) (hV : Below ((w.alloc (.cells #[.int .i64 t.k, .int .i64 t.n, .slice A t.l.length cap] 24)).alloc (.cells #[.int .i64 0, .int .i64 0, .slice none 0 0] 24)).heap.size ((w.alloc (.cells #[.int .i64 t.k, .int .i64 t.n, .slice A t.l.length cap] 24)).alloc (.cells #[.int .i64 0, .int .i64 0, .slice none 0 0] 24)) V) => (show Bk V (w.heap.size + 1) 24 #[.int .i64 0, .int .i64 0, .slice none 0 0] from (Bk.last (w.alloc (.cells #[.int .i64 t.k, .int .i64 t.n, .slice A t.l.length cap] 24)) 24 #[.int .i64 0, .int .i64 0, .slice none 0 0] (g := w.heap.size + 1) (by simp)).below hV (by simp <;> omega)))
  have CB := Lib.hid (fun (V : World) (hV : Below w.heap.size w V) => (rturned_any ls L capL V ((h2.kept hV (Nat.le_refl _)).wide (Nat.le_refl _) hV.size) hlen).mono fun e w' h => (show ∃ a c, e = .returned (.slice a ls.length c) ∧ IsTerms w' 0 w'.heap.size ls.reverse a c ∧ Below V.heap.size V w' from by
    obtain ⟨a, c, h1, h2, h3⟩ := h
    rw [List.length_reverse] at h1
    exact ⟨a, c, h1, h2, h3⟩))
  have CM := Lib.hid (fun (a : Option Addr) (c : Nat) (V : World) (hV : Below w.heap.size w V) (hr : IsTerms V 0 V.heap.size ls.reverse a c) => (show Calls Tryd.prog 40 #[termV t A cap, .slice a ls.length c] V (GivesT (manyX t ls.reverse) V) from by
    have q := rMany_any t lo hi A cap ls.reverse 0 V.heap.size a c V (h.kept hV hhi) (by have := hV.size; omega) hr (Nat.le_refl _) (by rw [List.length_reverse]; omega)
    rw [List.length_reverse] at q
    exact q))
  obtain ⟨x, c, hxc⟩ : ∃ x c, manyX t ls.reverse = (x, c) := ⟨_, _, rfl⟩
  rw [hxc] at CM ⊢
  unfold GivesT termV at CM
  unfold termV
  have hbk0 := Lib.hid (show Below ((w.alloc (.cells #[.int .i64 t.k, .int .i64 t.n, .slice A t.l.length cap] 24)).alloc (.cells #[.int .i64 0, .int .i64 0, .slice none 0 0] 24)).heap.size ((w.alloc (.cells #[.int .i64 t.k, .int .i64 t.n, .slice A t.l.length cap] 24)).alloc (.cells #[.int .i64 0, .int .i64 0, .slice none 0 0] 24)) ((w.alloc (.cells #[.int .i64 t.k, .int .i64 t.n, .slice A t.l.length cap] 24)).alloc (.cells #[.int .i64 0, .int .i64 0, .slice none 0 0] 24)).drew from (Below.refl _ _).drew)
  have HSZ : Hid (w.heap.size + 1 ≤ ((w.alloc (.cells #[.int .i64 t.k, .int .i64 t.n, .slice A t.l.length cap] 24)).alloc (.cells #[.int .i64 0, .int .i64 0, .slice none 0 0] 24)).heap.size) := Lib.hid (by simp)
  have HSY : Hid (w.heap.size + 2 ≤ ((w.alloc (.cells #[.int .i64 t.k, .int .i64 t.n, .slice A t.l.length cap] 24)).alloc (.cells #[.int .i64 0, .int .i64 0, .slice none 0 0] 24)).heap.size) := Lib.hid (by simp)
  clear h h2 hxc hhi hlen
  go_enter Tryd.func22, Tryd.ntmps22
  go_wp2_with fail
  obtain ⟨W, hW⟩ : ∃ W, ((w.alloc (.cells #[.int .i64 t.k, .int .i64 t.n, .slice A t.l.length cap] 24)).alloc (.cells #[.int .i64 0, .int .i64 0, .slice none 0 0] 24)) = W := ⟨_, rfl⟩
  rw [hW] at HW HKT KBR hbk0 HSZ HSY ⊢
  obtain ⟨t0, t1, t2⟩ := HKT.out _ (Below.refl _ _)
  have hsw := HSY.out
  clear hW
  go_region_held3 (fun w' => w'.cell? ⟨w.heap.size, 0, none⟩ = some (.int .i64 t.k) ∧ w'.cell? ⟨w.heap.size, 1, none⟩ = some (.int .i64 t.n) ∧ w'.cell? ⟨w.heap.size, 2, none⟩ = some (.slice A t.l.length cap))
    (first | exact HKT.out _ (hbk0.out.mono HSZ.out) | exact HKT.out _ (hbk.out.mono HSZ.out) | exact HKT.out _ (hB5.out.mono HSZ.out) | exact HKT.out _ ((((hB5.out.mono HSZ.out).setCell (by simp <;> omega) _).setCell (by simp <;> omega) _).setCell (by simp <;> omega) _))
    (first
    | (go_at_call 41
       refine (CB.out _ (HW.out.trans (hbk0.out.mono HW.out.size))).mono ?_
       rintro e wn ⟨a, ca, rfl, hr, hbn⟩
       have hbk : Hid (Below W.heap.size W wn) := Lib.hid (hbk0.out.trans (hbn.mono hbk0.out.size))
       have HR := Lib.hid hr
       clear hbn hr)
    | (go_at_call 40
       refine (CM.out a ca _ (HW.out.trans (hbk.out.mono HW.out.size)) HR.out).mono ?_
       rintro e w5 ⟨A', cap', rfl, hx, hb3⟩
       have hB5 : Hid (Below W.heap.size W w5) := Lib.hid (hbk.out.trans (hb3.mono hbk.out.size))
       have HX := Lib.hid hx
       have hcn := hbk.out.size
       have hbkv := KBR.out _ hB5.out
       have HBKV := Lib.hid hbkv
       have hfz : ∀ o, w5.frozen? ⟨w.heap.size + 1, o, none⟩ = false := fun o => hbkv.cold o
       have d0 := hbkv.cell 0
       have d1 := hbkv.cell 1
       have d2 := hbkv.cell 2
       simp at d0 d1 d2
       clear hb3 hx hbkv))
  all_goals
    have HBF := Lib.hid (HW.out.trans (hB5.out.mono HW.out.size))
    have B5 := ((HBKV.out.at_ 0 (.int .i64 x.k)).at_ 1 (.int .i64 x.n)).at_ 2 (.slice A' x.l.length cap')
    have HS0 := Lib.hid (B5.cell 0)
    have HS1 := Lib.hid (B5.cell 1)
    have HS2 := Lib.hid (B5.cell 2)
    clear B5
    go_wp2_with fail
    refine bodyPost_ret (v := .tuple #[.agg #[.int .i64 x.k, .int .i64 x.n, .slice A' x.l.length cap'], .int .i64 c]) (by simp [results, Tryd.results22, go_sem, HS0.out, HS1.out, HS2.out]) rfl ?_
    exact give_term HBF.out (by omega) HX.out (by omega)

end Go.Proofs.YtofmoggjpgjdgaaDoor
