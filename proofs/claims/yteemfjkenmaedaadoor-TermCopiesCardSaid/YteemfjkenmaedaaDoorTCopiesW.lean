/- The walk of the law TermCopies. -/
import Derived.Test.YteemfjkenmaedaaDoorTBox
import Derived.Test.YteemfjkenmaedaaDoorTSpoil
namespace Go.Proofs.YteemfjkenmaedaaDoor
open Go.RowKit
set_option linter.unusedVariables false
set_option maxRecDepth 100000

theorem Spo.below_of {P : Nat → Prop} {w w' : World} {B : Nat} (h : Spo P w w') (hP : ∀ b, P b → B ≤ b) (hB : B ≤ w.heap.size) : Below B w w' :=
  ⟨h.os, h.tape, h.output, h.size, fun k hk => h.block k (by omega) (fun e => by have := hP k e; omega)⟩
theorem Spo.box {P : Nat → Prop} {w w' : World} {g : Nat} {k n : Int} {v : Value} (h : Spo P w w') (hb : TBox w g k n v) (hn : ¬ P g) : TBox w' g k n v := by
  have e := h.block g hb.lt hn
  exact ⟨(World.cell?_of_block (a := ⟨g, 0, none⟩) e).trans hb.c0, (World.cell?_of_block (a := ⟨g, 1, none⟩) e).trans hb.c1, (World.cell?_of_block (a := ⟨g, 2, none⟩) e).trans hb.c2, Nat.lt_of_lt_of_le hb.lt h.size⟩

set_option maxHeartbeats 4000000 in
theorem tcopies_walk (t : TM) (A : Option Addr) (cap : Nat) (w : World) (hn : IsTerm w 0 w.heap.size t A cap) (hS : ShapesM w) :
    Calls Tryd.prog 8 #[termV t A cap] w fun e w' => e = .returned (.bool true) ∧ Below w.heap.size w w' := by
  have HT := Lib.hid (fun (V : World) (hV : Below w.heap.size w V) => hn.kept hV (Nat.le_refl _))
  have e1 := fun V (hV : Below w.heap.size w V) => refShaped_any t 0 w.heap.size A cap V (HT.out V hV) hV.size
  have AW := Lib.hid (fun V (hV : Below w.heap.size w V) => awakeM_any V (hS.kept hV))
  have HW1 := Lib.hid (fun o1 => ((Below.refl w.heap.size w).alloc (Nat.le_refl _) o1))
  have cp := fun V (hV : Below w.heap.size w V) => tcopy_any t 0 w.heap.size A cap V (HT.out V hV) hV.size (hS.kept hV)
  have HS := Lib.hid (fun V (hV : Below w.heap.size w V) => hS.kept hV)
  clear hn hS
  cases hx : shapedB t with
  | false =>
    rw [hx] at e1
    have cp2 : ∀ V, Below w.heap.size w V → Calls Tryd.prog 40 #[termV t A cap] V fun e w' => e = .returned (.agg #[.int .i64 0, .int .i64 0, .slice none 0 0]) ∧ Below V.heap.size V w' := fun V hV => (cp V hV).mono fun e w' h => by
      rcases h with ⟨h, _⟩ | ⟨_, h⟩
      · rw [hx] at h; cases h
      · exact h
    have E1 := Lib.hid e1
    have CP := Lib.hid cp2
    clear e1 cp cp2 hx
    unfold termV at E1 CP ⊢
    go_enter Tryd.func8, Tryd.ntmps8
    go_wp2_with fail
    refine (CP.out _ (HW1.out _)).mono ?_
    rintro e w1 ⟨rfl, hb1⟩
    have HB1 := Lib.hid ((HW1.out _).trans (hb1.mono (by simp)))
    have XT1 := Lib.hid (show TBox w1 w.heap.size t.k t.n (.slice A t.l.length cap) from TBox.of ((Bk.new w 24 _).below hb1 (by simp)))
    obtain ⟨x0, x1, x2, xl⟩ := XT1.out
    have HB1a := Lib.hid (HB1.out.alloc HB1.out.size (.cells #[.int .i64 0, .int .i64 0, .slice none 0 0] 24))
    clear hb1
    go_wp2_with fail
    refine (E1.out _ HB1a.out).mono ?_
    rintro e w2 ⟨rfl, hb2⟩
    have HB2 := Lib.hid (HB1a.out.trans (hb2.mono HB1a.out.size))
    have XC2 := Lib.hid (show TBox w2 w1.heap.size 0 0 (.slice none 0 0) from TBox.of ((Bk.new w1 24 _).below hb2 (by simp)))
    clear x0 x1 x2 xl hb2
    obtain ⟨y0, y1, y2, yl⟩ := XC2.out
    go_wp2_with fail
    refine (AW.out _ HB2.out).mono ?_
    rintro e w3 ⟨rfl, hb3⟩
    go_wp2_with fail
    go_ret
    exact ⟨rfl, HB2.out.trans (hb3.mono HB2.out.size)⟩
  | true =>
    rw [hx] at e1
    have ren : ∀ (lo hi : Nat) (A' : Option Addr) (cap' : Nat) (V : World), IsTerm V lo hi t A' cap' → hi ≤ V.heap.size → ShapesM V → Calls Tryd.prog 40 #[termV t A' cap'] V (TRenewIs t V) := fun lo hi A' cap' V h1 h2 h3 => (tcopy_any t lo hi A' cap' V h1 h2 h3).mono fun e w' h => by
      rcases h with ⟨_, h⟩ | ⟨h, _⟩
      · exact h
      · rw [hx] at h; cases h
    have E1 := Lib.hid e1
    have CP := Lib.hid (fun V (hV : Below w.heap.size w V) => ren 0 w.heap.size A cap V (HT.out V hV) hV.size (HS.out V hV))
    have REN := Lib.hid ren
    clear e1 cp hx ren
    unfold termV at E1 CP REN ⊢
    go_enter Tryd.func8, Tryd.ntmps8
    go_wp2_with fail
    refine (CP.out _ (HW1.out _)).mono ?_
    rintro e w1 ⟨A1, cap1, P1, rfl, hz1, hp1, hc1, hb1⟩
    rw [termV]
    have HB1 := Lib.hid ((HW1.out _).trans (hb1.mono (by simp)))
    have XT1 := Lib.hid (show TBox w1 w.heap.size t.k t.n (.slice A t.l.length cap) from TBox.of ((Bk.new w 24 _).below hb1 (by simp)))
    obtain ⟨x0, x1, x2, xl⟩ := XT1.out
    have HP1 : Hid (∀ b, P1 b → w.heap.size + 1 ≤ b ∧ b < w1.heap.size) := Lib.hid (fun b hb => by have := hp1 b hb; simp at this; exact this)
    have HZ1 := Lib.hid hz1
    have HC1 := Lib.hid hc1
    have HB1a := Lib.hid (HB1.out.alloc HB1.out.size (.cells #[.int .i64 t.k, .int .i64 t.n, .slice A1 t.l.length cap1] 24))
    clear hb1 hz1 hp1 hc1
    go_wp2_with fail
    refine (E1.out _ HB1a.out).mono ?_
    rintro e w2 ⟨rfl, hb2⟩
    have hbb2 := ((Below.refl w1.heap.size w1).alloc (Nat.le_refl _) (.cells #[.int .i64 t.k, .int .i64 t.n, .slice A1 t.l.length cap1] 24)).trans (hb2.mono (by simp))
    have HBB2 := Lib.hid hbb2
    have HB2 := Lib.hid (HB1a.out.trans (hb2.mono HB1a.out.size))
    have XC2 := Lib.hid (show TBox w2 w1.heap.size t.k t.n (.slice A1 t.l.length cap1) from TBox.of ((Bk.new w1 24 _).below hb2 (by simp)))
    have XT2 := Lib.hid (XT1.out.kept hbb2 xl)
    clear x0 x1 x2 xl hb2 hbb2
    obtain ⟨x0, x1, x2, xl⟩ := XT2.out
    obtain ⟨y0, y1, y2, yl⟩ := XC2.out
    have HI2 := Lib.hid (show IsTerm w2 0 w1.heap.size t A1 cap1 from (HZ1.out.term.imp (fun b o hb => HBB2.out.cell (p := ⟨b, o, none⟩) (HP1.out b hb).2) (fun b hb => ⟨Nat.zero_le _, (HP1.out b hb).2⟩)))
    go_wp2_with fail
    refine (REN.out _ _ _ _ _ HI2.out HBB2.out.size (HS.out _ HB2.out)).mono ?_
    rintro e w3 ⟨A2, cap2, P2, rfl, hz3, hp3, hc3, hb3⟩
    rw [termV]
    have hz23 := hb3.size
    have HB3 := Lib.hid (HB2.out.trans (hb3.mono HB2.out.size))
    have XT3 := Lib.hid (XT2.out.kept hb3 xl)
    have XC3 := Lib.hid (XC2.out.kept hb3 yl)
    have HP3 := Lib.hid hp3
    have hbb3 := HBB2.out.trans (hb3.mono HBB2.out.size)
    have hb3a := (Below.refl w3.heap.size w3).alloc (Nat.le_refl _) (.cells #[.int .i64 t.k, .int .i64 t.n, .slice A2 t.l.length cap2] 24)
    obtain ⟨V, hV⟩ : ∃ V, w3.alloc (.cells #[.int .i64 t.k, .int .i64 t.n, .slice A2 t.l.length cap2] 24) = V := ⟨_, rfl⟩
    have hVz : V.heap.size = w3.heap.size + 1 := by rw [← hV]; simp
    rw [hV] at hb3a
    have hbV := hbb3.trans (hb3a.mono hbb3.size)
    have SP := Lib.hid (spoil_any t t.k t.n A1 cap1 V P1 ((HZ1.out.imp (fun b o hb => hbV.cell (p := ⟨b, o, none⟩) (HP1.out b hb).2) (fun _ h => h)).spo) (fun b hb => by have := (HP1.out b hb).2; have := hbV.size; omega) (HC1.out.kept (fun b hb => hbV.block b (HP1.out b hb).2)))
    have XTV := Lib.hid (XT3.out.kept hb3a (by have := XT3.out.lt; exact this))
    have XCV := Lib.hid (XC3.out.kept hb3a (by have := XC3.out.lt; exact this))
    have XDV := Lib.hid (show TBox V w3.heap.size t.k t.n (.slice A2 t.l.length cap2) from by rw [← hV]; exact TBox.of (Bk.new w3 24 _))
    have HDV := Lib.hid (show ZeroIn V P2 t A2 cap2 from hz3.imp (fun b o hb => hb3a.cell (p := ⟨b, o, none⟩) (HP3.out b hb).2) (fun _ h => h))
    have HBV := Lib.hid (HB3.out.trans (hb3a.mono HB3.out.size))
    have HVV := Lib.hid hV
    have HBBV := Lib.hid hbV
    clear hb3 hz3 hp3 hc3 hbb3 hb3a hV hbV x0 x1 x2 xl y0 y1 y2 yl
    obtain ⟨x0, x1, x2, xl⟩ := XTV.out
    obtain ⟨y0, y1, y2, yl⟩ := XCV.out
    obtain ⟨z0, z1, z2, zl⟩ := XC3.out
    go_wp2_with fail
    rw [HVV.out]
    refine SP.out.mono ?_
    rintro e w4 ⟨rfl, hs4⟩
    have XT4 := Lib.hid (hs4.box XTV.out (fun e => by have := (HP1.out _ e).1; omega))
    have XD4 := Lib.hid (hs4.box XDV.out (fun e => by have := (HP1.out _ e).2; have := HBBV.out.size; have := XC3.out.lt; omega))
    have HB4 := Lib.hid (HBV.out.trans (hs4.below_of (B := w.heap.size) (fun b hb => by have := (HP1.out b hb).1; omega) HBV.out.size))
    have HD4 := Lib.hid (show IsTerm w4 0 w4.heap.size t A2 cap2 from HDV.out.term.imp (fun b o hb => World.cell?_of_block (a := ⟨b, o, none⟩) (hs4.block b (by have := (HP3.out b hb).2; omega) (fun e => by
      have h1 := (HP1.out b e).2
      have h2 := (HP3.out b hb).1
      have h3 := HBB2.out.size
      omega))) (fun b hb => ⟨Nat.zero_le _, by have := (HP3.out b hb).2; have := hs4.size; omega⟩))
    have EQ := Lib.hid (refEqual_any t t 0 w4.heap.size 0 w.heap.size A2 A cap2 cap w4 HD4.out (HT.out _ HB4.out) (Nat.le_refl _) HB4.out.size)
    rw [alikeT_refl] at EQ
    unfold termV at EQ
    clear x0 x1 x2 xl y0 y1 y2 yl z0 z1 z2 zl hs4
    obtain ⟨x0, x1, x2, xl⟩ := XT4.out
    obtain ⟨y0, y1, y2, yl⟩ := XD4.out
    go_wp2_with fail
    refine EQ.out.mono ?_
    rintro e w5 ⟨rfl, hb5⟩
    have HB5 := Lib.hid (HB4.out.trans (hb5.mono HB4.out.size))
    clear hb5 x0 x1 x2 xl y0 y1 y2 yl
    go_wp2_with fail
    refine (AW.out _ HB5.out).mono ?_
    rintro e w6 ⟨rfl, hb6⟩
    go_wp2_with fail
    go_ret
    exact ⟨rfl, HB5.out.trans (hb6.mono HB5.out.size)⟩

end Go.Proofs.YteemfjkenmaedaaDoor
