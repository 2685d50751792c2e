/- scholiumlaw06.binds: the document's bindings, or that one is very great. -/
import Derived.Test.YteaojmcfppbgiaaGreatDoorPLawB
namespace Go.Proofs.YteaojmcfppbgiaaGreatDoor
open Go.RowKit
set_option linter.unusedVariables false
set_option maxRecDepth 100000

theorem cellsB_one (p : BT × Option Addr × Nat) : ∀ u ∈ kindB.cells p, u.oneCell' = true := by
  intro u hu
  simp [kindB] at hu
  rcases hu with rfl | rfl | rfl | rfl | rfl | rfl | rfl <;> rfl

set_option maxHeartbeats 4000000 in
theorem binds_any (l : List BT) (A : Option Addr) (cap lo hi : Nat) (w : World) (hl : l.length ≤ 30) (hn : BindsAt w lo hi A l) (hhi : hi ≤ w.heap.size) :
    Calls Tryz.prog 20 #[.slice A l.length cap] w (BsIs l w) := by
  have HN := Lib.hid hn
  have HO := Lib.hid (fun t lo hi A cap W h1 h2 => of_any t lo hi A cap W h1 h2)
  unfold OfIs at HO
  have HL := Lib.hid hl
  clear hn hl
  obtain ⟨i0, hi0, hz0, hz1, hz2⟩ := info_parts infoB
  go_enter Tryz.func20, Tryz.ntmps20
  go_wp2_with fail
  go_loopw [4, 5] (fun v iv wr => ∃ (i : Nat) (ps : List (BT × Option Addr × Nat)) (P : Nat → Prop), i ≤ l.length ∧ iv = .int .i64 i ∧ Below w.heap.size w wr ∧ RowX kindB wr w.heap.size 103 v ps P ∧ (∀ b, P b → w.heap.size ≤ b) ∧ ps.length = i ∧ ps.map (·.1) = l.take i) (fun _ iv _ => l.length - (intOf iv).toNat)
  case atStart =>
    refine ⟨0, [], fun _ => False, Nat.zero_le _, rfl, (Below.refl _ _).alloc (Nat.le_refl _) _, ⟨?_, fun b hb => hb.elim, fun p hp => by cases hp⟩, fun _ h => h.elim, rfl, by rw [List.take_zero]; rfl⟩
    have := World.ownsRow_lit (base := w.heap.size) (e := 103) (size := 7) w #[] 0 (Nat.le_refl _) (by decide) rfl
    simp at this
    exact this
  case round =>
    obtain ⟨i, ps, P, hi1, rfl, hB, hrow, hP, hpl, hps⟩ := hrel
    have hz := hB.size
    obtain ⟨a1, c1, hv⟩ := own_slice hrow.row
    subst hv
    have HROW := Lib.hid hrow
    have HPP := Lib.hid hP
    have HPL := Lib.hid hpl
    have HPS := Lib.hid hps
    clear hrow hP hpl hps
    by_cases hil : i < l.length
    case neg =>
      obtain rfl : i = l.length := by omega
      have HPAR := Lib.hid (HROW.out.binds HPP.out (by rw [HPS.out, List.take_length]))
      have HBD := Lib.hid HROW.out.bounds
      have hln := HPL.out
      have HBB := Lib.hid hB
      clear HN HO hB
      go_wp2_with fail
      refine bodyPost_ret (v := .tuple #[.slice a1 ps.length c1, .bool true]) (by simp [results, Tryz.results20, go_sem]) rfl ?_
      exact ⟨true, _, a1, c1, rfl, fun _ => ⟨hln, hln ▸ HBD.out.1, HBD.out.2, HPAR.out⟩, HBB.out⟩
    obtain ⟨b, o, F, C, hA, hb1, hb2, hx, hbind⟩ := (HN.out i hil).kept hB hhi
    subst hA
    obtain ⟨x0, x1, x2, x3, x4, x5, x6⟩ := hx
    have hnode := hbind.hn
    have HSS := Lib.hid hbind.hs
    have hlb : b < wr.heap.size := by omega
    have HOI := Lib.hid (HO.out l[i].t lo hi F C wr hnode (by omega))
    have hi1' : (i : Int) < (l.length : Int) := by omega
    have hi30 : i ≤ 30 := by have := HL.out; omega
    have HY : Hid (ofB l[i].t = true → ofT l[i].t = l[i].t) := Lib.hid (fun h => (of_yes h).1)
    have HTK : Hid (l.take (i + 1) = l.take i ++ [l[i]]) := Lib.hid (by rw [List.take_succ_eq_append_getElem hil])
    obtain ⟨u, hu⟩ : ∃ u, ofT l[i].t = u := ⟨_, rfl⟩
    obtain ⟨ok, hok⟩ : ∃ ok, ofB l[i].t = ok := ⟨_, rfl⟩
    rw [hu, hok] at HOI HY
    have HBB := Lib.hid hB
    obtain ⟨y, hy⟩ : ∃ y, l[i] = y := ⟨_, rfl⟩
    rw [hy] at HOI HY HTK HSS x0 x1 x2 x3 x4 x5 x6
    clear hu hok hnode hbind hy HN HO hB
    unfold nodeV at HOI
    cases ok with
    | false =>
      clear HY
      go_wp2_with fail
      refine HOI.out.mono ?_
      rintro e w1 ⟨F', C', rfl, hn1, hb1'⟩
      go_wp2_with fail
      refine bodyPost_ret (v := .tuple #[.slice none 0 0, .bool false]) (by simp [results, Tryz.results20, go_sem]) rfl ?_
      exact ⟨false, 0, none, 0, rfl, (fun h => by cases h), (HBB.out.trans (hb1'.mono hz)).alloc (by have := hb1'.size; omega) _⟩
    | true =>
      have huu := HY.out rfl
      go_wp2_with fail
      refine HOI.out.mono ?_
      rintro e w1 ⟨F', C', rfl, hn1, hb1'⟩
      have hsz1 := hb1'.size
      have HBW1 := Lib.hid (Below.refl w1.heap.size w1 |>.alloc (Nat.le_refl _) (.cells #[.int .i64 u.k, .int .i64 u.a, .string u.s, .int .i64 u.n, .slice F' u.l.length C'] 27) |>.drew)
      have HBW2 := Lib.hid ((HBW1.out).alloc (by simp) (.cells #[.string y.s, .int .i64 y.a, .int .i64 u.k, .int .i64 u.a, .string u.s, .int .i64 u.n, .slice F' u.l.length C'] 103))
      have HR1 := Lib.hid ((HROW.out.below hb1').below HBW2.out)
      have HN1 := Lib.hid (hn1.kept HBW2.out (Nat.le_refl _))
      have hpn : ps.length ≤ 30 := by have := HPL.out; have := HL.out; omega
      have HPN := Lib.hid hpn
      have HBW := Lib.hid ((HBB.out.trans (hb1'.mono hz)).trans (HBW2.out.mono (by omega)))
      have HUU := Lib.hid huu
      have hcx := fun q => hb1'.cell (p := ⟨b, q, none⟩) hlb
      have z0 := (hcx (o + i * 7)).trans x0
      have z1 := (hcx (o + i * 7 + 1)).trans x1
      have hlb1 : b < w1.heap.size := by omega
      have HPZ := Lib.hid hsz1
      have hbs : b < w.heap.size := by omega
      have HF : Hid (∀ v2 w3, AppTo ((w1.alloc (.cells #[.int .i64 u.k, .int .i64 u.a, .string u.s, .int .i64 u.n, .slice F' u.l.length C'] 27)).drew.alloc (.cells #[.string y.s, .int .i64 y.a, .int .i64 u.k, .int .i64 u.a, .string u.s, .int .i64 u.n, .slice F' u.l.length C'] 103)) w.heap.size 103 7 (.slice a1 ps.length c1) (ps.length + 1) (flatX kindB ps ++ kindB.cells (⟨y.s, y.a, u⟩, F', C')) v2 w3 →
          w3.cell? ⟨b, o + i * 7, none⟩ = some (.string y.s) ∧ w3.cell? ⟨b, o + i * 7 + 1, none⟩ = some (.int .i64 y.a) ∧ w3.cell? ⟨w1.heap.size, 0, none⟩ = some (.int .i64 u.k) ∧ w3.cell? ⟨w1.heap.size, 1, none⟩ = some (.int .i64 u.a) ∧ w3.cell? ⟨w1.heap.size, 2, none⟩ = some (.string u.s) ∧ w3.cell? ⟨w1.heap.size, 3, none⟩ = some (.int .i64 u.n) ∧ w3.cell? ⟨w1.heap.size, 4, none⟩ = some (.slice F' u.l.length C') ∧
          Hid (RowX kindB w3 w.heap.size 103 v2 (ps ++ [(⟨y.s, y.a, u⟩, F', C')]) (fun b => P b ∨ (wr.heap.size ≤ b ∧ b < w1.heap.size))) ∧ Hid (Below w.heap.size w w3) ∧ Hid (∃ a2 c2, v2 = .slice a2 (ps.length + 1) c2)) := Lib.hid (by
        intro v2 w3 ha
        have hlt0 := HROW.out.row.lt
        have BKn : Bk ((w1.alloc (.cells #[.int .i64 u.k, .int .i64 u.a, .string u.s, .int .i64 u.n, .slice F' u.l.length C'] 27)).drew.alloc (.cells #[.string y.s, .int .i64 y.a, .int .i64 u.k, .int .i64 u.a, .string u.s, .int .i64 u.n, .slice F' u.l.length C'] 103)) w1.heap.size 27 #[.int .i64 u.k, .int .i64 u.a, .string u.s, .int .i64 u.n, .slice F' u.l.length C'] := Bk.alloc (show Bk ((w1.alloc (.cells #[.int .i64 u.k, .int .i64 u.a, .string u.s, .int .i64 u.n, .slice F' u.l.length C'] 27)).drew) _ _ _ from Bk.new w1 27 _) _
        have BK3 := BKn.grown ha.2.1 (fun e => by have := hlt0 _ e.symm; omega)
        have far := fun q => ha.2.1.cell_far ⟨b, q, none⟩ (by show b < _; simp; omega) (fun e => by have := hlt0 b e.symm; omega)
        have cb := fun q => HBW2.out.cell (p := ⟨b, q, none⟩) hlb1
        refine ⟨(far _).trans ((cb _).trans z0), (far _).trans ((cb _).trans z1), BK3.cell 0, BK3.cell 1, BK3.cell 2, BK3.cell 3, BK3.cell 4, ?_, ?_, own_slice ha.1⟩
        · exact HR1.out.push (Pn := fun b => wr.heap.size ≤ b ∧ b < w1.heap.size) ⟨HSS.out, HN1.out⟩ (fun b hb => ⟨by simp; omega, fun e => by have := hlt0 b e; omega⟩) ha.1 ha.2.1 ha.2.2
        · exact HBW.out.grown ha.2.1 (by simp; omega) (fun k hk => by have := hlt0 k hk; omega))
      clear hcx x0 x1 x2 x3 x4 x5 x6 hn1 hpn huu hb1'
      go_wp2_with fail
      go_region_held3 (fun w' => w'.cell? ⟨b, o + i * 7, none⟩ = some (.string y.s) ∧ w'.cell? ⟨b, o + i * 7 + 1, none⟩ = some (.int .i64 y.a) ∧ w'.cell? ⟨w1.heap.size, 0, none⟩ = some (.int .i64 u.k) ∧ w'.cell? ⟨w1.heap.size, 1, none⟩ = some (.int .i64 u.a) ∧ w'.cell? ⟨w1.heap.size, 2, none⟩ = some (.string u.s) ∧ w'.cell? ⟨w1.heap.size, 3, none⟩ = some (.int .i64 u.n) ∧ w'.cell? ⟨w1.heap.size, 4, none⟩ = some (.slice F' u.l.length C'))
          (first | go_keep)
          (first
            | (refine step_app rfl (.tmp 26) (.tmp 39) 24 rfl w.heap.size 103 i0 (.agg #[.string ⟨#[]⟩, .int .i64 0, .int .i64 0, .int .i64 0, .string ⟨#[]⟩, .int .i64 0, .slice none 0 0]) 7 88 Tryz.underlying24 hi0 hz0 hz1 hz2 rfl (by decide) (.slice a1 ps.length c1) ps.length (flatX kindB ps) rfl HR1.out.row (some ⟨w1.heap.size + 1, 0, none⟩) 1 1 (kindB.cells (⟨y.s, y.a, u⟩, F', C')) rfl (src_at _ _ _ (by simp) rfl) (cellsB_one _) (by have := HPN.out; unfold maxLen; omega) (by have := HPN.out; omega) (by simp; omega) ?_
               rintro v2 w3 ha3
               obtain ⟨g0, g1, g2, g3, g4, g5, g6, HRW, HBL, HSL⟩ := HF.out v2 w3 ha3
               clear ha3))
      all_goals
        obtain ⟨a2, c2, rfl⟩ := HSL.out
        go_wp2_with fail
        go_roundw
        case rel =>
          refine ⟨i + 1, _, _, by omega, rfl, HBL.out, HRW.out, ?_, ?_, ?_⟩
          · intro b hb
            rcases hb with hb | hb
            · exact HPP.out b hb
            · omega
          · rw [List.length_append]; simp; exact HPL.out
          · rw [HTK.out, List.map_append, HPS.out, HUU.out]; rfl
        case measure => simp [intOf]; omega

end Go.Proofs.YteaojmcfppbgiaaGreatDoor
