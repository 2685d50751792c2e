/- The document's subs: a term of terms that were made, or that it is too great. -/
import Derived.Test.YtcobionbgiaomaaDoorURow
import Derived.Deep.RegionLaw
namespace Go.Proofs.YtcobionbgiaomaaDoor
open Go.RowKit
set_option linter.unusedVariables false
set_option maxRecDepth 100000

theorem any_take {ps : List GP} {i : Nat} (h : i < ps.length) : (ps.take (i + 1)).any (·.2.2.2) = ((ps.take i).any (·.2.2.2) || ps[i].2.2.2) := by
  rw [List.take_succ_eq_append_getElem h, List.any_append]; simp
theorem map_take {ps : List GP} {i : Nat} (h : i < ps.length) : (ps.take (i + 1)).map triG = (ps.take i).map triG ++ [triG ps[i]] := by
  rw [List.take_succ_eq_append_getElem h, List.map_append]; rfl
theorem got_long {k n : Int} {us : List TM} {ps : List GP} (hu : us.length = ps.length) (hg : ∀ i (h1 : i < us.length) (h2 : i < ps.length), GotIs us[i] ps[i].1 ps[i].2.2.2) (h : ps.any (·.2.2.2) = true) : shapedB (.node k n us) = false := by
  rw [List.any_eq_true] at h
  obtain ⟨p, hp, hl⟩ := h
  obtain ⟨i, hi, rfl⟩ := List.getElem_of_mem hp
  have h1 := (hg i (by omega) hi).yes hl
  cases e : shapedB (.node k n us) with
  | false => rfl
  | true =>
    have := shaped_part (List.getElem_mem (by omega : i < us.length)) e
    rw [h1] at this; cases this
theorem got_all {us : List TM} {ps : List GP} (hu : us.length = ps.length) (hg : ∀ i (h1 : i < us.length) (h2 : i < ps.length), GotIs us[i] ps[i].1 ps[i].2.2.2) (h : ps.any (·.2.2.2) = false) : ps.map (fun p => p.1) = us := by
  refine List.ext_getElem (by rw [List.length_map, hu]) fun i h1 h2 => ?_
  have hi : i < ps.length := by rw [List.length_map] at h1; exact h1
  rw [List.getElem_map]
  refine (hg i h2 hi).no ?_
  rw [List.any_eq_false] at h
  simpa using h _ (List.getElem_mem hi)
theorem own_nodeM {w : World} {base : Nat} {e : TypeId} {v : Value} {n : Nat} {xs : List Value} (h : w.ownsRow base e 3 v n xs) : ∃ a c, v = .slice a n c := by
  rcases h.2 with ⟨h1, h2⟩ | ⟨g, c, cur, h1, _⟩
  · exact ⟨none, 0, by rw [h1, h2]⟩
  · exact ⟨_, _, h1⟩

def SubRel (w : World) (k n : Int) (l : List TM) (A : Option Addr) (cap : Nat) (ps : List GP) (P : Nat → Prop) (iv : Value) (wr : World) : Prop :=
  ∃ (i : Nat) (a1 : Option Addr) (c1 : Nat) (lg : Bool), i ≤ ps.length ∧ iv = .int .i64 i ∧ Below w.heap.size w wr ∧
    Bk wr w.heap.size 24 #[.int .i64 k, .int .i64 n, .slice A l.length cap] ∧ Bk wr (w.heap.size + 1) 53 #[.int .i64 0, .int .i64 0, .slice none 0 0, .bool false] ∧
    Bk wr (w.heap.size + 2) 53 #[.int .i64 k, .int .i64 n, .slice a1 i c1, .bool lg] ∧ TermRow wr (w.heap.size + 3) 24 (.slice a1 i c1) ((ps.take i).map triG) P ∧ (ps.take i).any (·.2.2.2) = lg

set_option maxHeartbeats 8000000 in
theorem subs_any (k n : Int) (l : List TM) (A : Option Addr) (cap : Nat) (w : World) (base lo : Nat) (GA : Option Addr) (capG : Nat) (ps : List GP) (P : Nat → Prop) (us : List TM)
    (hr : GRow w base (.slice GA ps.length capG) ps P) (hbase : base ≤ w.heap.size) (hP : ∀ b, P b → lo ≤ b) (hlo : lo ≤ w.heap.size) (hu : us.length = ps.length) (hg : ∀ i (h1 : i < us.length) (h2 : i < ps.length), GotIs us[i] ps[i].1 ps[i].2.2.2) (hlen : ps.length ≤ 8192) :
    Calls Tryd.prog 59 #[termV (.node k n l) A cap, .slice GA ps.length capG] w (TellsGot (.node k n us) lo w) := by
  obtain ⟨i0, hi0, hz0, hz1, hz2⟩ := info_parts infoM
  have HR := Lib.hid hr
  have HPF := Lib.hid (fun b (hb : P b) => (hr.far b hb).1)
  have HP := Lib.hid hP
  have HND := Lib.hid (fun (V : World) (hV : Below w.heap.size w V) (p : GP) (hp : p ∈ ps) => (hr.node p hp).imp (w' := V) (P' := P) (fun b o hb => hV.cell (p := ⟨b, o, none⟩) (hr.far b hb).1) (fun _ h => h))
  have HC := Lib.hid (fun (V : World) (hV : Below w.heap.size w V) (i : Nat) (hi : i < ps.length) => (show ∃ g, GA = some ⟨g, 0, none⟩ ∧ g < w.heap.size ∧ V.cell? ⟨g, i * 4, none⟩ = some (.int .i64 ps[i].1.k) ∧ V.cell? ⟨g, i * 4 + 1, none⟩ = some (.int .i64 ps[i].1.n) ∧ V.cell? ⟨g, i * 4 + 2, none⟩ = some (.slice ps[i].2.1 ps[i].1.l.length ps[i].2.2.1) ∧ V.cell? ⟨g, i * 4 + 3, none⟩ = some (.bool ps[i].2.2.2) from by
    obtain ⟨g, h1, h2, h3, c0, c1, c2, c3⟩ := hr.at_ i hi
    exact ⟨g, h1, h3, (hV.cell (p := ⟨g, _, none⟩) h3).trans c0, (hV.cell (p := ⟨g, _, none⟩) h3).trans c1, (hV.cell (p := ⟨g, _, none⟩) h3).trans c2, (hV.cell (p := ⟨g, _, none⟩) h3).trans c3⟩))
  have HYES := Lib.hid (fun h => got_long (k := k) (n := n) hu hg h)
  have HNO := Lib.hid (fun h => got_all hu hg h)
  have HLO := Lib.hid hlo
  have HU := Lib.hid hu
  clear hr hP hu hg
  rw [termV_node]
  go_enter Tryd.func59, Tryd.ntmps59
  go_wp2_with fail
  go_loopw [6] (SubRel w k n l A cap ps P) (fun iv _ => ps.length - (intOf iv).toNat)
  case atStart =>
    refine ⟨0, none, 0, false, Nat.zero_le _, rfl, (((Below.refl w.heap.size w).alloc (Nat.le_refl _) _).alloc (by simp) _).alloc (by simp <;> omega) _, ((Bk.new w 24 _).alloc _).alloc _, (Bk.last _ _ _ (by simp)).alloc _, Bk.last _ _ _ (by simp), ⟨World.ownsRow_nil _ _ _ _, fun b hb => ⟨?_, by simp [Value.ownBlock]⟩, fun _ h => by simp at h⟩, rfl⟩
    have := HPF.out b hb
    simp; omega
  case round =>
    obtain ⟨i, a1, c1, lg, hi1, rfl, hB, b1, b2, b3, hrow, hlg⟩ := hrel
    have hz := hB.size
    have hlt3 := b3.lt
    have HB1 := Lib.hid b1
    have HB2 := Lib.hid b2
    have HB3 := Lib.hid b3
    have HROW := Lib.hid hrow
    have HBB := Lib.hid hB
    have HLG := Lib.hid hlg
    have q0 : wr.cell? ⟨w.heap.size + 1 + 1, 0, none⟩ = some (.int .i64 k) := b3.cell 0
    have q1 : wr.cell? ⟨w.heap.size + 1 + 1, 1, none⟩ = some (.int .i64 n) := b3.cell 1
    have q2 : wr.cell? ⟨w.heap.size + 1 + 1, 2, none⟩ = some (.slice a1 i c1) := b3.cell 2
    have q3 : wr.cell? ⟨w.heap.size + 1 + 1, 3, none⟩ = some (.bool lg) := b3.cell 3
    have hfz2 : ∀ q, wr.frozen? ⟨w.heap.size + 1 + 1, q, none⟩ = false := fun q => b3.cold q
    clear b1 b2 b3 hrow hlg
    by_cases hil : i < ps.length
    · obtain ⟨gb, hGA, hgb, y0, y1, y2, y3⟩ := HC.out wr hB i hil
      subst hGA
      have hnode := HND.out wr hB ps[i] (List.getElem_mem hil)
      have hany := any_take hil
      have hmap := map_take hil
      have hi1' : (i : Int) < (ps.length : Int) := by omega
      have hi0' : (0 : Int) ≤ (i : Int) := by omega
      have hplen : ((ps.take i).map triG).length = i := by rw [List.length_map, List.length_take]; omega
      obtain ⟨p, hp⟩ : ∃ p, ps[i] = p := ⟨_, rfl⟩
      rw [hp] at y0 y1 y2 y3 hnode hany hmap
      obtain ⟨u, F, C, bl⟩ := p
      simp only at y0 y1 y2 y3 hnode hany
      have hmap2 : (ps.take (i + 1)).map triG = (ps.take i).map triG ++ [(u, F, C)] := hmap
      have HANY := Lib.hid hany
      have HMAP := Lib.hid hmap2
      have HNODE := Lib.hid hnode
      have HPL := Lib.hid hplen
      have hgw : gb < wr.heap.size := by omega
      have HW2 := Lib.hid (show ∀ V v2 w4, Below wr.heap.size wr V → wr.heap.size ≤ V.heap.size → AppTo V (w.heap.size + 3) 24 3 (.slice a1 i c1) (i + 1) (flatM ((ps.take i).map triG) ++ cellsM (u, F, C)) v2 w4 →
          Hid (Bk w4 (w.heap.size + 2) 53 #[.int .i64 k, .int .i64 n, .slice a1 i c1, .bool lg]) ∧ Hid (Bk w4 w.heap.size 24 #[.int .i64 k, .int .i64 n, .slice A l.length cap]) ∧ Hid (Bk w4 (w.heap.size + 1) 53 #[.int .i64 0, .int .i64 0, .slice none 0 0, .bool false]) ∧
          Hid (TermRow w4 (w.heap.size + 3) 24 v2 ((ps.take (i + 1)).map triG) P) ∧ Hid (Below w.heap.size w w4) ∧ w4.cell? ⟨gb, i * 4 + 3, none⟩ = some (.bool bl) ∧ Hid (∃ a2 c2, v2 = .slice a2 (i + 1) c2) ∧ gb < w4.heap.size from by
        intro V v2 w4 hV hVz ha
        have hR := HROW.out.below hV
        have hlt0 := hR.row.lt
        have hne : ∀ g, g < w.heap.size + 3 → some g ≠ (Value.slice a1 i c1).ownBlock := fun g hg e => by
          have := hlt0 g e.symm
          omega
        refine ⟨(HB3.out.below hV hlt3).grown ha.2.1 (hne _ (by omega)), (HB1.out.below hV (by omega)).grown ha.2.1 (hne _ (by omega)), (HB2.out.below hV (by omega)).grown ha.2.1 (hne _ (by omega)), ?_, (HBB.out.trans (hV.mono hz)).grown ha.2.1 (by omega) (fun g e => by have := hlt0 g e; omega), (ha.2.1.cell_far ⟨gb, i * 4 + 3, none⟩ (by show gb < _; omega) (hne gb (by omega))).trans ((hV.cell (p := ⟨gb, _, none⟩) hgw).trans y3), own_nodeM ha.1, by have := ha.2.1.size; omega⟩
        have hpush := hR.push (Pn := P) (p := (u, F, C)) (HNODE.out.imp (fun b o hb => hV.cell (p := ⟨b, o, none⟩) (by have := HPF.out b hb; show b < _; omega)) (fun _ h => h)) (fun b hb => ⟨by have := HPF.out b hb; omega, fun e => by have h1 := hlt0 b e; have h2 := HPF.out b hb; omega⟩) (by rw [HPL.out]; exact ha.1) ha.2.1 ha.2.2
        show TermRow _ _ _ _ _ _
        rw [HMAP.out]
        exact ⟨hpush.row, fun b hb => hpush.far b (.inl hb), fun p hp => (hpush.node p hp).imp (fun _ _ _ => rfl) (fun b hb => hb.elim id id)⟩)
      have HV1 := Lib.hid (show Below wr.heap.size wr (wr.drew.alloc (.cells #[.int .i64 u.k, .int .i64 u.n, .slice F u.l.length C] 24)) from ((Below.refl wr.heap.size wr).drew).alloc (Nat.le_refl _) _)
      have HV2 := Lib.hid (show Below wr.heap.size wr (wr.alloc (.cells #[.int .i64 u.k, .int .i64 u.n, .slice F u.l.length C] 24)).drew from ((Below.refl wr.heap.size wr).alloc (Nat.le_refl _) _).drew)
      have HO1 := Lib.hid (show (wr.drew.alloc (.cells #[.int .i64 u.k, .int .i64 u.n, .slice F u.l.length C] 24)).ownsRow (w.heap.size + 3) 24 3 (.slice a1 i c1) i (flatM ((ps.take i).map triG)) from by have := (HROW.out.below HV1.out).row; rw [HPL.out] at this; exact this)
      have HO2 := Lib.hid (show (wr.alloc (.cells #[.int .i64 u.k, .int .i64 u.n, .slice F u.l.length C] 24)).drew.ownsRow (w.heap.size + 3) 24 3 (.slice a1 i c1) i (flatM ((ps.take i).map triG)) from by have := (HROW.out.below HV2.out).row; rw [HPL.out] at this; exact this)
      have HS1 := Lib.hid (show Src (wr.drew.alloc (.cells #[.int .i64 u.k, .int .i64 u.n, .slice F u.l.length C] 24)) 3 (some ⟨wr.heap.size, 0, none⟩) 1 (cellsM (u, F, C)) from src_at wr.drew #[.int .i64 u.k, .int .i64 u.n, .slice F u.l.length C] _ rfl rfl)
      have HS2 := Lib.hid (show Src (wr.alloc (.cells #[.int .i64 u.k, .int .i64 u.n, .slice F u.l.length C] 24)).drew 3 (some ⟨wr.heap.size, 0, none⟩) 1 (cellsM (u, F, C)) from src_at wr #[.int .i64 u.k, .int .i64 u.n, .slice F u.l.length C] _ rfl rfl)
      have hl9 : (i + 1) * 40 ≤ 140737488351232 := by omega
      clear hany hmap hmap2 hnode hplen hp HNO HYES HC HND
      go_wp2_with fail
      go_region_law
        (first
         | (first
            | (refine step_app rfl (.tmp 21) (.tmp 27) 22 rfl (w.heap.size + 3) 24 i0 (.agg #[.int .i64 0, .int .i64 0, .slice none 0 0]) 3 40 Tryd.underlying22 hi0 hz0 hz1 hz2 rfl (by decide) (.slice a1 i c1) i (flatM ((ps.take i).map triG)) rfl HO1.out (some ⟨wr.heap.size, 0, none⟩) 1 1 (cellsM (u, F, C)) rfl HS1.out (cellsM_one _) (by unfold maxLen; omega) (by omega) (by simp; omega) ?_; have hvv := HV1)
            | (refine step_app rfl (.tmp 21) (.tmp 27) 22 rfl (w.heap.size + 3) 24 i0 (.agg #[.int .i64 0, .int .i64 0, .slice none 0 0]) 3 40 Tryd.underlying22 hi0 hz0 hz1 hz2 rfl (by decide) (.slice a1 i c1) i (flatM ((ps.take i).map triG)) rfl HO2.out (some ⟨wr.heap.size, 0, none⟩) 1 1 (cellsM (u, F, C)) rfl HS2.out (cellsM_one _) (by unfold maxLen; omega) (by omega) (by simp; omega) ?_; have hvv := HV2)
            rintro v2 w4 ha4
            obtain ⟨HO4, HT4, HR4, HROW4, HBL4, y3', HSL4, hgw4⟩ := HW2.out _ _ _ hvv.out (by simp) ha4
            obtain ⟨a2, c2, hv2⟩ := HSL4.out
            subst hv2
            have d4 : w4.cell? ⟨w.heap.size + 1 + 1, 2, none⟩ = some (.slice a1 i c1) := HO4.out.cell 2
            have hfz4 : ∀ q, w4.frozen? ⟨w.heap.size + 1 + 1, q, none⟩ = false := fun q => HO4.out.cold q
            clear ha4 hvv))
      all_goals
        have q3' : w4.cell? ⟨w.heap.size + 1 + 1, 3, none⟩ = some (.bool lg) := HO4.out.cell 3
        have HNB := Lib.hid (show (ps.take (i + 1)).any (·.2.2.2) = (lg || bl) from HANY.out.trans (by rw [HLG.out]))
        have HQ1 := Lib.hid ((HROW4.out.setCell (a := ⟨w.heap.size + 1 + 1, 2, none⟩) (by show w.heap.size + 2 < _; omega) (fun b hb => by have := HPF.out b hb; show b ≠ w.heap.size + 2; omega) (.slice a2 (i + 1) c2)).setCell (a := ⟨w.heap.size + 1 + 1, 3, none⟩) (by show w.heap.size + 2 < _; omega) (fun b hb => by have := HPF.out b hb; show b ≠ w.heap.size + 2; omega) (.bool (lg || bl)))
        have HQ2 := Lib.hid ((HO4.out.at_ 2 (.slice a2 (i + 1) c2)).at_ 3 (.bool (lg || bl)))
        have HQ3 := Lib.hid ((HT4.out.far (a := ⟨w.heap.size + 1 + 1, 2, none⟩) (by show w.heap.size ≠ w.heap.size + 2; omega) (.slice a2 (i + 1) c2)).far (a := ⟨w.heap.size + 1 + 1, 3, none⟩) (by show w.heap.size ≠ w.heap.size + 2; omega) (.bool (lg || bl)))
        have HQ4 := Lib.hid ((HR4.out.far (a := ⟨w.heap.size + 1 + 1, 2, none⟩) (by show w.heap.size + 1 ≠ w.heap.size + 2; omega) (.slice a2 (i + 1) c2)).far (a := ⟨w.heap.size + 1 + 1, 3, none⟩) (by show w.heap.size + 1 ≠ w.heap.size + 2; omega) (.bool (lg || bl)))
        have HQ5 := Lib.hid ((HBL4.out.setCell (p := ⟨w.heap.size + 1 + 1, 2, none⟩) (by show w.heap.size ≤ w.heap.size + 2; omega) (.slice a2 (i + 1) c2)).setCell (p := ⟨w.heap.size + 1 + 1, 3, none⟩) (by show w.heap.size ≤ w.heap.size + 2; omega) (.bool (lg || bl)))
        have hne1 : gb ≠ w.heap.size + 2 := by omega
        have hne2 : w.heap.size + 2 ≠ gb := by omega
        cases lg
        all_goals
          go_wp2_with fail
          go_roundw
          case rel => exact ⟨i + 1, a2, c2, _, by omega, rfl, HQ5.out, HQ3.out, HQ4.out, HQ2.out, HQ1.out, HNB.out⟩
          case measure => simp [intOf]; omega
    · obtain rfl : i = ps.length := by omega
      have d0 : wr.cell? ⟨w.heap.size + 1, 0, none⟩ = some (.int .i64 0) := HB2.out.cell 0
      have d1 : wr.cell? ⟨w.heap.size + 1, 1, none⟩ = some (.int .i64 0) := HB2.out.cell 1
      have d2 : wr.cell? ⟨w.heap.size + 1, 2, none⟩ = some (.slice none 0 0) := HB2.out.cell 2
      have d3 : wr.cell? ⟨w.heap.size + 1, 3, none⟩ = some (.bool false) := HB2.out.cell 3
      have hfz1 : ∀ q, wr.frozen? ⟨w.heap.size + 1, q, none⟩ = false := fun q => HB2.out.cold q
      have hlt1 : w.heap.size + 1 < wr.heap.size := by omega
      have HLG2 := Lib.hid (show ps.any (·.2.2.2) = lg by have := HLG.out; rw [List.take_length] at this; exact this)
      cases lg with
      | true =>
        have HE := Lib.hid (HYES.out HLG2.out)
        have CLF := Lib.hid (fun (V : World) => (mk_leaf 2 0 V).mono fun e w' (h : _ ∧ _) => And.intro h.1 (show Below V.heap.size V w' from by rw [h.2]; exact (Below.refl _ _).alloc (Nat.le_refl _) _))
        clear HC HND HNO HYES HROW
        have HKX := Lib.hid (HB2.out.far (a := ⟨w.heap.size + 1 + 1, 3, none⟩) (by show w.heap.size + 1 ≠ w.heap.size + 2; omega) (.bool true))
        have HBX := Lib.hid (HBB.out.setCell (p := ⟨w.heap.size + 1 + 1, 3, none⟩) (by show w.heap.size ≤ w.heap.size + 2; omega) (.bool true))
        go_wp2_with fail
        refine (CLF.out _).mono ?_
        rintro e w6 ⟨rfl, hb6⟩
        have K6 := HKX.out.below hb6 (by simp [World.setCell]; omega)
        have HB6 := Lib.hid (HBX.out.trans (hb6.mono (by simp [World.setCell]; omega)))
        have z0 : w6.cell? ⟨w.heap.size + 1, 0, none⟩ = some (.int .i64 0) := K6.cell 0
        have z1 : w6.cell? ⟨w.heap.size + 1, 1, none⟩ = some (.int .i64 0) := K6.cell 1
        have z2 : w6.cell? ⟨w.heap.size + 1, 2, none⟩ = some (.slice none 0 0) := K6.cell 2
        have z3 : w6.cell? ⟨w.heap.size + 1, 3, none⟩ = some (.bool false) := K6.cell 3
        have hf6 : ∀ q, w6.frozen? ⟨w.heap.size + 1, q, none⟩ = false := fun q => K6.cold q
        have B5 := (((K6.at_ 0 (.int .i64 2)).at_ 1 (.int .i64 0)).at_ 2 (.slice none 0 0)).at_ 3 (.bool true)
        have HS0 := Lib.hid (B5.cell 0)
        have HS1 := Lib.hid (B5.cell 1)
        have HS2 := Lib.hid (B5.cell 2)
        have HS3 := Lib.hid (B5.cell 3)
        clear B5 K6 hb6
        go_wp2_with fail
        refine bodyPost_ret (v := gotV (.node 2 0 [], none, 0, true)) (by simp [results, Tryd.results59, go_sem, gotV, TM.k, TM.n, TM.l, HS0.out, HS1.out, HS2.out, HS3.out]) rfl ?_
        exact ⟨(.node 2 0 [], none, 0, true), rfl, leaf_in _ _ 2 0, (((HB6.out.setCell (by simp) _).setCell (by simp) _).setCell (by simp) _).setCell (by simp) _, ⟨fun _ => HE.out, fun h => by cases h⟩⟩
      | false =>
        have hus := HNO.out HLG2.out
        have hmm : ((ps.take ps.length).map triG).map (·.1) = us := by rw [List.take_length, List.map_map, ← hus]; rfl
        have hlen2 : ((ps.take ps.length).map triG).length = ps.length := by rw [List.take_length, List.length_map]
        have hrow2 : TermRow wr (w.heap.size + 3) 24 (.slice a1 ((ps.take ps.length).map triG).length c1) ((ps.take ps.length).map triG) P := by rw [hlen2]; exact HROW.out
        have hpar := hrow2.parentQ (Q := fun b => (lo ≤ b ∧ b < wr.heap.size) ∧ b ≠ w.heap.size + 1 ∧ b ≠ w.heap.size + 2) (fun b hb => by have := HP.out b hb; have := HPF.out b hb; omega) (fun b hb => by have := hrow2.row.lt b hb; have := HLO.out; omega) k n
        rw [hmm] at hpar
        have HPAR := Lib.hid hpar
        have CSZ := refTSize_any (.node k n us) lo wr.heap.size a1 c1 wr (hpar.imp (fun _ _ _ => rfl) (fun b hb => hb.1)) (Nat.le_refl _)
        rw [termV_node, HU.out] at CSZ
        obtain ⟨sz, hsz⟩ : ∃ sz : Int, (topN (TM.node k n us).size : Int) = sz := ⟨_, rfl⟩
        rw [hsz] at CSZ
        have HBIG := Lib.hid (show 8192 < sz → shapedB (.node k n us) = false from fun h => by
          cases e : shapedB (.node k n us) with
          | false => rfl
          | true =>
            have h1 := (shapedB_true.1 e).1
            have h2 := topN_le' (TM.node k n us).size
            omega)
        have HCSZ := Lib.hid CSZ
        clear HC HND HNO HYES HROW hus hmm hlen2 hrow2 hpar CSZ hsz
        go_wp2_with fail
        refine HCSZ.out.mono ?_
        rintro e w5 ⟨rfl, hb5⟩
        have hz5 := hb5.size
        have K1 := HB2.out.below hb5 hlt1
        have K2 := HB3.out.below hb5 hlt3
        have HBE := Lib.hid (HBB.out.trans (hb5.mono hz))
        have HB5 := Lib.hid hb5
        have p0 : w5.cell? ⟨w.heap.size + 1 + 1, 0, none⟩ = some (.int .i64 k) := K2.cell 0
        have p1 : w5.cell? ⟨w.heap.size + 1 + 1, 1, none⟩ = some (.int .i64 n) := K2.cell 1
        have p2 : w5.cell? ⟨w.heap.size + 1 + 1, 2, none⟩ = some (.slice a1 ps.length c1) := K2.cell 2
        have p3 : w5.cell? ⟨w.heap.size + 1 + 1, 3, none⟩ = some (.bool false) := K2.cell 3
        have hfp : ∀ q, w5.frozen? ⟨w.heap.size + 1 + 1, q, none⟩ = false := fun q => K2.cold q
        have d0 : w5.cell? ⟨w.heap.size + 1, 0, none⟩ = some (.int .i64 0) := K1.cell 0
        have d1 : w5.cell? ⟨w.heap.size + 1, 1, none⟩ = some (.int .i64 0) := K1.cell 1
        have d2 : w5.cell? ⟨w.heap.size + 1, 2, none⟩ = some (.slice none 0 0) := K1.cell 2
        have d3 : w5.cell? ⟨w.heap.size + 1, 3, none⟩ = some (.bool false) := K1.cell 3
        have hfz : ∀ q, w5.frozen? ⟨w.heap.size + 1, q, none⟩ = false := fun q => K1.cold q
        have hlt5 : w.heap.size + 2 < w5.heap.size := by omega
        have HK1 := Lib.hid K1
        clear K1 K2 hb5 q0 q1 q2 q3 hfz2 hfz1
        by_cases hs : 8192 < sz
        · have t1 : decide (8192 < sz) = true := decide_eq_true hs
          have HE := Lib.hid (HBIG.out hs)
          have CLF := Lib.hid (fun (V : World) => (mk_leaf 2 0 V).mono fun e w' (h : _ ∧ _) => And.intro h.1 (show Below V.heap.size V w' from by rw [h.2]; exact (Below.refl _ _).alloc (Nat.le_refl _) _))
          have HKX := Lib.hid (HK1.out.far (a := ⟨w.heap.size + 1 + 1, 3, none⟩) (by show w.heap.size + 1 ≠ w.heap.size + 2; omega) (.bool true))
          have HBX := Lib.hid (HBE.out.setCell (p := ⟨w.heap.size + 1 + 1, 3, none⟩) (by show w.heap.size ≤ w.heap.size + 2; omega) (.bool true))
          go_wp2_with fail
          refine (CLF.out _).mono ?_
          rintro e w6 ⟨rfl, hb6⟩
          have K6 := HKX.out.below hb6 (by simp [World.setCell]; omega)
          have HB6 := Lib.hid (HBX.out.trans (hb6.mono (by simp [World.setCell]; omega)))
          have z0 : w6.cell? ⟨w.heap.size + 1, 0, none⟩ = some (.int .i64 0) := K6.cell 0
          have z1 : w6.cell? ⟨w.heap.size + 1, 1, none⟩ = some (.int .i64 0) := K6.cell 1
          have z2 : w6.cell? ⟨w.heap.size + 1, 2, none⟩ = some (.slice none 0 0) := K6.cell 2
          have z3 : w6.cell? ⟨w.heap.size + 1, 3, none⟩ = some (.bool false) := K6.cell 3
          have hf6 : ∀ q, w6.frozen? ⟨w.heap.size + 1, q, none⟩ = false := fun q => K6.cold q
          have B5 := (((K6.at_ 0 (.int .i64 2)).at_ 1 (.int .i64 0)).at_ 2 (.slice none 0 0)).at_ 3 (.bool true)
          have HS0 := Lib.hid (B5.cell 0)
          have HS1 := Lib.hid (B5.cell 1)
          have HS2 := Lib.hid (B5.cell 2)
          have HS3 := Lib.hid (B5.cell 3)
          clear B5 K6 hb6
          go_wp2_with fail
          refine bodyPost_ret (v := gotV (.node 2 0 [], none, 0, true)) (by simp [results, Tryd.results59, go_sem, gotV, TM.k, TM.n, TM.l, HS0.out, HS1.out, HS2.out, HS3.out]) rfl ?_
          exact ⟨(.node 2 0 [], none, 0, true), rfl, leaf_in _ _ 2 0, (((HB6.out.setCell (by simp) _).setCell (by simp) _).setCell (by simp) _).setCell (by simp) _, ⟨fun _ => HE.out, fun h => by cases h⟩⟩
        · have t1 : decide (8192 < sz) = false := decide_eq_false hs
          have B5 := ((((HK1.out.far (a := ⟨w.heap.size + 1 + 1, 3, none⟩) (by show w.heap.size + 1 ≠ w.heap.size + 2; omega) (.bool false)).at_ 0 (.int .i64 k)).at_ 1 (.int .i64 n)).at_ 2 (.slice a1 ps.length c1)).at_ 3 (.bool false)
          have HS0 := Lib.hid (B5.cell 0)
          have HS1 := Lib.hid (B5.cell 1)
          have HS2 := Lib.hid (B5.cell 2)
          have HS3 := Lib.hid (B5.cell 3)
          have HULN := Lib.hid (show us.length = ps.length from HU.out)
          have HBC := Lib.hid (show ∀ b, b ≠ w.heap.size + 1 → b ≠ w.heap.size + 2 → (((((w5.setCell ⟨w.heap.size + 1 + 1, 3, none⟩ (.bool false)).setCell ⟨w.heap.size + 1, 0, none⟩ (.int .i64 k)).setCell ⟨w.heap.size + 1, 1, none⟩ (.int .i64 n)).setCell ⟨w.heap.size + 1, 2, none⟩ (.slice a1 ps.length c1)).setCell ⟨w.heap.size + 1, 3, none⟩ (.bool false)).heap[b]? = w5.heap[b]? from fun b h1 h2 => by
            rw [Below.heap_setCell _ _ _ _ h1, Below.heap_setCell _ _ _ _ h1, Below.heap_setCell _ _ _ _ h1, Below.heap_setCell _ _ _ _ h1, Below.heap_setCell _ _ _ _ h2])
          have HPF2 := Lib.hid (show IsTerm (((((w5.setCell ⟨w.heap.size + 1 + 1, 3, none⟩ (.bool false)).setCell ⟨w.heap.size + 1, 0, none⟩ (.int .i64 k)).setCell ⟨w.heap.size + 1, 1, none⟩ (.int .i64 n)).setCell ⟨w.heap.size + 1, 2, none⟩ (.slice a1 ps.length c1)).setCell ⟨w.heap.size + 1, 3, none⟩ (.bool false)) lo w5.heap.size (.node k n us) a1 c1 from
            HPAR.out.imp (fun b o hb => (World.cell?_of_block (a := ⟨b, o, none⟩) (HBC.out b hb.2.1 hb.2.2)).trans (HB5.out.cell (p := ⟨b, o, none⟩) (by show b < _; omega))) (fun b hb => ⟨hb.1.1, by omega⟩))
          have HG := Lib.hid (show GotIs (.node k n us) (.node k n us) false from ⟨fun h => (nomatch h), fun _ => rfl⟩)
          clear B5
          go_wp2_with fail
          refine bodyPost_ret (v := gotV (.node k n us, a1, c1, false)) (by simp [results, Tryd.results59, go_sem, gotV, TM.k, TM.n, TM.l, HULN.out, HS0.out, HS1.out, HS2.out, HS3.out]) rfl ?_
          exact ⟨(.node k n us, a1, c1, false), rfl, HPF2.out.wide (Nat.le_refl _) (by simp [World.setCell]), (by repeat first | exact HBE.out | refine Below.setCell ?_ (by simp <;> omega) _ | refine Below.alloc ?_ (by simp [World.setCell] <;> omega) _), HG.out⟩

end Go.Proofs.YtcobionbgiaomaaDoor
