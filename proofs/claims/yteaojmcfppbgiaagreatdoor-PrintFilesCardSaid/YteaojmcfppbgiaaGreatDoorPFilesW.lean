/- The walk of the law PrintFiles. -/
import Derived.Test.YteaojmcfppbgiaaGreatDoorPOnceW
import Derived.Test.YteaojmcfppbgiaaGreatDoorPDcl
import Derived.Test.YteaojmcfppbgiaaGreatDoorRefF
import Derived.Deep.RegionHeld3
import Derived.Deep.Cut
import Derived.Deep.CutRange
namespace Go.Proofs.YteaojmcfppbgiaaGreatDoor
open Go.RowKit
set_option linter.unusedVariables false
set_option maxRecDepth 100000
theorem infoDD : (Tryz.prog.info? 30).map (fun i => (i.zero, i.size, i.bytes)) = some (some (.agg #[.int .i64 0, .int .i64 0, .string ⟨#[]⟩, .slice none 0 0, .int .i64 0, .int .i64 0, .string ⟨#[]⟩, .int .i64 0, .slice none 0 0, .slice none 0 0, .slice none 0 0]), 11, 168) := by kernel_rfl
theorem one_declsB (x : DT) : declsB [x] = declB x := by
  cases h : declB x with
  | true => exact allB_of_mem (fun y hy => by rw [List.mem_singleton.1 hy]; exact h)
  | false =>
    cases hq : declsB [x] with
    | false => rfl
    | true => have := allB_mem2 hq x (by simp); rw [h] at this; cases this

set_option maxHeartbeats 8000000 in
theorem files_walk (l : List DT) (A : Option Addr) (c : Nat) (w : World) (hl : l.length ≤ maxLen) (h : DeclsIn w 0 w.heap.size A l) (hT : Tabs w) :
    Calls Tryz.prog 3 #[.slice A l.length c] w fun e w' => e = .returned (.bool true) ∧ Below w.heap.size w w' := by
  have HT := Lib.hid hT
  have HN := Lib.hid h
  have HLL := Lib.hid hl
  have HDC := Lib.hid (fun (x : DT) (q : DP) V (hV : Below w.heap.size w V) (hd : IsDecl V 0 w.heap.size x q) => decl6_any x q 0 w.heap.size V hd hV.size)
  unfold maxLen at hl
  obtain ⟨i0, hi0, hz0, hz1, hz2⟩ := info_parts infoDD
  clear hT h
  go_enter Tryz.func3, Tryz.ntmps3
  go_wp2_with fail
  go_loopw [3, 4] (fun v iv wr => ∃ (i : Nat) (ps : List (DT × DP)) (P : Nat → Prop), i ≤ l.length ∧ iv = .int .i64 i ∧ Hid (Below w.heap.size w wr) ∧ Hid (RowX kdD wr w.heap.size 30 v ps P) ∧ Hid (∀ b, P b → w.heap.size ≤ b) ∧ Hid (ps.length = i ∧ i ≤ 6) ∧ Hid (ps.map (·.1) = l.take i)) (fun _ iv _ => l.length - (intOf iv).toNat)
  case atStart =>
    refine ⟨0, [], fun _ => False, Nat.zero_le _, rfl, Lib.hid ((Below.refl _ _).alloc (Nat.le_refl _) _), Lib.hid ⟨?_, fun b hb => hb.elim, fun p hp => by cases hp⟩, Lib.hid (fun _ h => h.elim), Lib.hid ⟨rfl, by decide⟩, Lib.hid (by rw [List.take_zero]; rfl)⟩
    have := World.ownsRow_lit (base := w.heap.size) (e := 30) (size := 11) w #[] 0 (Nat.le_refl _) (by decide) rfl
    simp at this
    exact this
  case round =>
    rename World => wr
    obtain ⟨i, ps, P, hi1, rfl, HBW, HROW, HPP, HPL, HPS⟩ := hrel
    have hz := HBW.out.size
    obtain ⟨a1, c1, hv⟩ := own_slice HROW.out.row
    subst hv
    by_cases hil : i < l.length
    case neg =>
      obtain rfl : i = l.length := by omega
      have hpl : ps.length = l.length := HPL.out.1
      have hpm : ps.map (·.1) = l := by rw [HPS.out, List.take_length]
      have hda := decls_in (decls_of HROW.out HPP.out)
      rw [hpm] at hda
      have HDA := Lib.hid hda
      have hzz := HBW.out.size
      have hpf := file_tabs (HT.out.below HBW.out) l 0 w.heap.size A c HLL.out (HN.out.kept HBW.out (Nat.le_refl _)) hz
      have hrf := fun V (hV : Below wr.heap.size wr V) => refFile_any l w.heap.size wr.heap.size a1 c1 V HLL.out (HDA.out.kept hV (Nat.le_refl _)) hV.size
      rw [hpl]
      unfold TextIs at hpf hrf
      obtain ⟨S, hS⟩ : ∃ S, textS (declsB l) (fileX l) = S := ⟨_, rfl⟩
      obtain ⟨E, hE⟩ : ∃ E, textE (declsB l) (fileX l) = E := ⟨_, rfl⟩
      rw [hS, hE] at hpf hrf
      have hee : (S.toList == S.toList) = true := str_eq_true rfl
      have HPF := Lib.hid hpf
      have HRF := Lib.hid hrf
      have HPB := Lib.hid (HROW.out.bounds)
      clear hpf hrf hS hE hpm hda HDC HROW HPP HPS hi0 hz0 hz1 hz2 hi1 hil
      by_cases hl0 : l.length = 0
      · have hle : ((l.length : Int) == 0) = true := by rw [hl0]; rfl
        clear HPL HPB HDA HN HLL hpl hl0 hl
        go_wp2_with fail
        refine HPF.out.mono ?_; rintro e w2 ⟨rfl, hb2⟩
        have HB2 := Lib.hid (HBW.out.trans (hb2.mono hz))
        have HBR2 := Lib.hid hb2
        clear hb2
        go_wp2_with fail
        refine (HRF.out _ HBR2.out).mono ?_; rintro e w3 ⟨rfl, hb3⟩
        have HB3 := Lib.hid (HB2.out.trans (hb3.mono HB2.out.size))
        clear hb3
        go_wp2_with fail
        refine (awake_tabs (HT.out.below HB3.out)).mono ?_; rintro e w4 ⟨rfl, hb4⟩
        go_wp2_with fail
        go_ret
        exact ⟨rfl, HB3.out.trans (hb4.mono HB3.out.size)⟩
      · have hle : ((l.length : Int) == 0) = false := by simpa using hl0
        have hl1 : 0 < l.length := by omega
        obtain ⟨b, o, q0, hA, hb1, hb2, hx, hdecl⟩ := HN.out 0 hl1
        obtain ⟨b', o', q', hA', hb1', hb2', hx', hdecl'⟩ := HDA.out 0 hl1
        subst hA hA'
        obtain ⟨x, hxx⟩ : ∃ y, l[0] = y := ⟨_, rfl⟩
        rw [hxx] at hx hdecl hx' hdecl'
        have hx : CellsD w b o x q0 := by simpa using hx
        have hx' : CellsD wr b' o' x q' := by simpa using hx'
        have HONE : Hid (DeclsIn wr w.heap.size wr.heap.size (some ⟨b', o', none⟩) [x]) := Lib.hid (fun j hj => by
          obtain rfl : j = 0 := by simp at hj; omega
          exact ⟨b', o', q', rfl, hb1', hb2', by simpa using hx', hdecl'⟩)
        have hqd := fun V (hV : Below w.heap.size w V) => printDecl_any x 0 w.heap.size q0 V (hdecl.kept hV (Nat.le_refl _)) hV.size (HT.out.below hV).1 (HT.out.below hV).2.1 (HT.out.below hV).2.2.1 (HT.out.below hV).2.2.2.1
        have hqr := fun V (hV : Below wr.heap.size wr V) => refFile_any [x] w.heap.size wr.heap.size (some ⟨b', o', none⟩) c1 V (show (1 : Nat) ≤ maxLen by decide) (HONE.out.kept hV (Nat.le_refl _)) hV.size
        rw [one_declsB, fileX_one] at hqr
        unfold TextIs at hqd hqr
        obtain ⟨S1, hS1⟩ : ∃ S, textS (declB x) (declX x) = S := ⟨_, rfl⟩
        obtain ⟨E1, hE1⟩ : ∃ E, textE (declB x) (declX x) = E := ⟨_, rfl⟩
        rw [hS1, hE1] at hqd hqr
        unfold declV at hqd
        have hee1 : (S1.toList == S1.toList) = true := str_eq_true rfl
        have HQD := Lib.hid hqd
        have HQR := Lib.hid hqr
        have HCX := Lib.hid hx
        have hbc : l.length ≤ c1 := by have := HPB.out.1; rw [hpl] at this; exact this
        have hbm : c1 ≤ 9223372036854775807 := by have := HPB.out.2; unfold maxLen at this; exact this
        have h1c : (1 : Int) ≤ (c1 : Int) := by omega
        have hbw : b < w.heap.size := hb2
        clear HPL HPB HDA HN HLL hxx hx hx' hdecl hdecl' hqd hqr hS1 hE1 HONE hb1 hb1' hb2' hl0 hb2
        go_wp2_with fail
        refine HPF.out.mono ?_; rintro e w2 ⟨rfl, hb2⟩
        have HB2 := Lib.hid (HBW.out.trans (hb2.mono hz))
        have HBR2 := Lib.hid hb2
        clear hb2
        go_wp2_with fail
        refine (HRF.out _ HBR2.out).mono ?_; rintro e w3 ⟨rfl, hb3⟩
        have HB3 := Lib.hid (HB2.out.trans (hb3.mono HB2.out.size))
        have HBR3 := Lib.hid (HBR2.out.trans (hb3.mono HBR2.out.size))
        obtain ⟨x0, x1, x2, x3, x4, x5, x6, x7, x8, x9, x10⟩ := HCX.out.kept HB3.out hbw
        have hbw3 : b < w3.heap.size := by have := HB3.out.size; omega
        clear hb3
        go_wp2_with fail
        refine (HQD.out _ HB3.out).mono ?_; rintro e w4 ⟨rfl, hb4⟩
        have HB4 := Lib.hid (HB3.out.trans (hb4.mono HB3.out.size))
        have HBR4 := Lib.hid (HBR3.out.trans (hb4.mono HBR3.out.size))
        clear hb4 x0 x1 x2 x3 x4 x5 x6 x7 x8 x9 x10
        go_wp2_with fail
        refine (HQR.out _ HBR4.out).mono ?_; rintro e w5 ⟨rfl, hb5⟩
        have HB5 := Lib.hid (HB4.out.trans (hb5.mono HB4.out.size))
        clear hb5
        go_wp2_with fail
        refine (awake_tabs (HT.out.below HB5.out)).mono ?_; rintro e w6 ⟨rfl, hb6⟩
        go_wp2_with fail
        go_ret
        exact ⟨rfl, HB5.out.trans (hb6.mono HB5.out.size)⟩
    obtain ⟨b, o, q0, hA, hb1, hb2, hx, hdecl⟩ := (HN.out.kept HBW.out (Nat.le_refl _)) i hil
    subst hA
    have hT := HDC.out l[i] q0 wr HBW.out hdecl
    have HTK : Hid (l.take (i + 1) = l.take i ++ [l[i]]) := Lib.hid (take_snocG hil)
    obtain ⟨x, hxx⟩ : ∃ y, l[i] = y := ⟨_, rfl⟩
    rw [hxx] at hT HTK hx
    obtain ⟨x0, x1, x2, x3, x4, x5, x6, x7, x8, x9, x10⟩ := hx
    have hlb : b < wr.heap.size := by omega
    unfold DeclIs at hT
    unfold declV at hT
    have HX := Lib.hid hT
    have hiL : (i : Int) < 9223372036854775807 := by omega
    have hi2 : (i : Int) < (l.length : Int) := by omega
    clear hdecl hxx hT
    go_wp2_with fail
    refine HX.out.mono ?_
    rintro e w1 ⟨ok, x', q, rfl, hok, hb1⟩
    have hz1' := hb1.size
    have HB1 := Lib.hid hb1
    have HBW1 := Lib.hid (HBW.out.trans (hb1.mono hz))
    have HOK := Lib.hid hok
    clear hok hb1
    clear x0 x1 x2 x3 x4 x5 x6 x7 x8 x9 x10 hlb HX HN HDC
    cases ok with
    | false =>
      have HB2 := Lib.hid (fun o => HBW1.out.alloc (show w.heap.size ≤ w1.heap.size by omega) o)
      clear HOK HB1 HBW1 HBW HROW HPP HPL HPS HTK HLL hi0 hz0 hz1 hz2
      go_wp2_with fail
      refine (awake_tabs (HT.out.below (HB2.out _))).mono ?_; rintro e w2 ⟨rfl, hb2⟩
      go_wp2_with fail
      go_ret
      exact ⟨rfl, (HB2.out _).trans (hb2.mono (HB2.out _).size)⟩
    | true =>
      obtain ⟨hxe, hdd⟩ := HOK.out rfl
      subst hxe
      by_cases h6 : 6 ≤ i
      · have HB2 := Lib.hid (fun o => HBW1.out.alloc (show w.heap.size ≤ w1.heap.size by omega) o)
        have hge : decide ((6 : Int) ≤ (i : Int)) = true := decide_eq_true (by omega)
        clear HOK HB1 HBW1 HBW HROW HPP HPL HPS HTK HLL hi0 hz0 hz1 hz2 hdd
        go_wp2_with fail
        refine (awake_tabs (HT.out.below (HB2.out _))).mono ?_; rintro e w2 ⟨rfl, hb2⟩
        go_wp2_with fail
        go_ret
        exact ⟨rfl, (HB2.out _).trans (hb2.mono (HB2.out _).size)⟩
      · have hge : decide ((6 : Int) ≤ (i : Int)) = false := decide_eq_false (by omega)
        have hi3 : i + 1 ≤ l.length := hil
        obtain ⟨W2, hW2⟩ : ∃ W, w1.alloc (.cells #[.int .i64 x'.k, .int .i64 x'.a, .string x'.s, .slice q.A x'.te.length q.a, .int .i64 x'.t.k, .int .i64 x'.t.a, .string x'.t.s, .int .i64 x'.t.n, .slice q.F x'.t.l.length q.C, .slice q.B x'.co.length q.b, .slice q.D x'.ro.length q.d] 30) = W := ⟨_, rfl⟩
        have hzW : W2.heap.size = w1.heap.size + 1 := by rw [← hW2]; simp
        have hBW2 : Below w1.heap.size w1 W2 := by rw [← hW2]; exact (Below.refl _ _).alloc (Nat.le_refl _) _
        have hBK : Bk W2 w1.heap.size 30 #[.int .i64 x'.k, .int .i64 x'.a, .string x'.s, .slice q.A x'.te.length q.a, .int .i64 x'.t.k, .int .i64 x'.t.a, .string x'.t.s, .int .i64 x'.t.n, .slice q.F x'.t.l.length q.C, .slice q.B x'.co.length q.b, .slice q.D x'.ro.length q.d] := by rw [← hW2]; exact Bk.new _ _ _
        have HBS := Lib.hid (fun o => hBW2.alloc (show w1.heap.size ≤ W2.heap.size by omega) o)
        have HLT0 := Lib.hid HROW.out.row.lt
        have HR1 := Lib.hid ((HROW.out.below HB1.out).below ((hBW2.alloc (show w1.heap.size ≤ W2.heap.size by omega) (.cells #[.int .i64 x'.k, .int .i64 x'.a, .string x'.s, .slice q.A x'.te.length q.a, .int .i64 x'.t.k, .int .i64 x'.t.a, .string x'.t.s, .int .i64 x'.t.n, .slice q.F x'.t.l.length q.C, .slice q.B x'.co.length q.b, .slice q.D x'.ro.length q.d] 30))))
        have HN1 : Hid (kdD.inn (W2.alloc (.cells #[.int .i64 x'.k, .int .i64 x'.a, .string x'.s, .slice q.A x'.te.length q.a, .int .i64 x'.t.k, .int .i64 x'.t.a, .string x'.t.s, .int .i64 x'.t.n, .slice q.F x'.t.l.length q.C, .slice q.B x'.co.length q.b, .slice q.D x'.ro.length q.d] 30)) (fun b => wr.heap.size ≤ b ∧ b < w1.heap.size) (x', q)) := Lib.hid ⟨wr.heap.size, w1.heap.size, fun b h1 h2 => ⟨h1, h2⟩, hdd.to (fun b o h1 h2 => (HBS.out _).cell (p := ⟨b, o, none⟩) h2) (fun b h1 h2 => ⟨h1, h2⟩)⟩
        have HBX := Lib.hid (fun o => HBW1.out.trans ((HBS.out o).mono (show w.heap.size ≤ w1.heap.size by omega)))
        have HW2 := Lib.hid hW2
        have HP6 : Hid (ps.length ≤ 5) := Lib.hid (by have := HPL.out; omega)
        have HZW := Lib.hid hzW
        obtain ⟨y0, y1, y2, y3, y4, y5, y6, y7, y8, y9, y10⟩ := hBK.q11
        have hgl : w1.heap.size < W2.heap.size := by omega
        clear hW2 hBW2 hBK HOK HB1 HBW1 HROW hdd hzW
        go_upto_region 8 with fail
        rw [HW2.out]
        go_wp2_with (at_builtin; refine wpList_app rfl _ _ 23 rfl w.heap.size 30 i0 (.agg #[.int .i64 0, .int .i64 0, .string ⟨#[]⟩, .slice none 0 0, .int .i64 0, .int .i64 0, .string ⟨#[]⟩, .int .i64 0, .slice none 0 0, .slice none 0 0, .slice none 0 0]) 11 168 Tryz.underlying23 hi0 hz0 hz1 hz2 rfl (by decide) _ _ _ rfl (show World.ownsRow _ _ _ 11 _ _ _ from HR1.out.row) (some ⟨W2.heap.size, 0, none⟩) 1 1 [.int .i64 x'.k, .int .i64 x'.a, .string x'.s, .slice q.A x'.te.length q.a, .int .i64 x'.t.k, .int .i64 x'.t.a, .string x'.t.s, .int .i64 x'.t.n, .slice q.F x'.t.l.length q.C, .slice q.B x'.co.length q.b, .slice q.D x'.ro.length q.d] rfl (src_at _ _ _ rfl rfl) (by intro u hu; simp at hu; rcases hu with rfl | rfl | rfl | rfl | rfl | rfl | rfl | rfl | rfl | rfl | rfl <;> rfl) ?c3 ?c4 ?c5 ?_)
        case c3 => have := HP6.out; unfold maxLen; omega
        case c4 => have := HP6.out; omega
        case c5 => have := HZW.out; simp; omega
        rintro v2 w3 ⟨hown3, hg3, ho3⟩
        have hzw := HZW.out
        have hown0 := HR1.out.row.lt
        have HB3 := Lib.hid ((Below.refl w.heap.size (W2.alloc (.cells #[.int .i64 x'.k, .int .i64 x'.a, .string x'.s, .slice q.A x'.te.length q.a, .int .i64 x'.t.k, .int .i64 x'.t.a, .string x'.t.s, .int .i64 x'.t.n, .slice q.F x'.t.l.length q.C, .slice q.B x'.co.length q.b, .slice q.D x'.ro.length q.d] 30))).grown hg3 (by simp; omega) (fun k hk => (hown0 k hk).1))
        have HRow := Lib.hid (HR1.out.push (Pn := fun b => wr.heap.size ≤ b ∧ b < w1.heap.size) (p := (x', q)) HN1.out (fun b hb => ⟨by simp; omega, fun e => by
          have := (HLT0.out b e).2
          omega⟩) hown3 hg3 ho3)
        obtain ⟨a2, c2', hv2⟩ := own_shapeX hown3
        subst hv2
        clear hown3 hg3 ho3 hown0 hzw
        go_wp2_with fail
        go_roundw
        case rel =>
          refine ⟨i + 1, ps ++ [(x', q)], fun b => P b ∨ (wr.heap.size ≤ b ∧ b < w1.heap.size), hi3, by go_num, Lib.hid ((HBX.out _).trans HB3.out), HRow, Lib.hid ?_, Lib.hid ⟨by rw [List.length_append, HPL.out.1]; rfl, by omega⟩, Lib.hid (by rw [List.map_append, HPS.out, HTK.out]; rfl)⟩
          intro b hb
          rcases hb with hb | hb
          · exact HPP.out b hb
          · omega
        case measure => simp [intOf]; omega

end Go.Proofs.YteaojmcfppbgiaaGreatDoor
