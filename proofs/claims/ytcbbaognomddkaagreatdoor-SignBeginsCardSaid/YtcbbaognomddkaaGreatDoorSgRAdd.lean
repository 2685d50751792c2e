/- The document's Add. -/
import Derived.Test.YtcbbaognomddkaaGreatDoorS3
import Derived.Test.YtcbbaognomddkaaGreatDoorSgRFormed
namespace Go.Proofs.YtcbbaognomddkaaGreatDoor
open Go.RowKit
set_option linter.unusedVariables false
set_option maxRecDepth 100000

noncomputable def outR (l more : List ET) : List ET := if errA l more = 0 then l ++ more else []
set_option maxHeartbeats 8000000 in
theorem radd_any (l more : List ET) (A A' : Option Addr) (cap cap' lo hi lo' hi' : Nat) (w : World) (hl : l.length ≤ 600) (hm : more.length ≤ 600) (hlc : l.length ≤ cap) (hn : EntsAt w lo hi A l) (hn' : EntsAt w lo' hi' A' more) (hhi : hi ≤ w.heap.size) (hhi' : hi' ≤ w.heap.size) (hS : ShapesM w) :
    Calls Tryz.prog 8 #[.slice A l.length cap, .slice A' more.length cap'] w (GivesA (outR l more) (errA l more) w) := by
  obtain ⟨i0, hi0, hz0, hz1, hz2⟩ := info_entry
  have HN := Lib.hid hn
  have HN' := Lib.hid hn'
  have HS := Lib.hid hS
  have CF : Hid (Calls Tryz.prog 10 #[.slice A l.length cap] w fun e w' => e = .returned (.bool (formedB l)) ∧ Below w.heap.size w w') := Lib.hid (by rw [formed_same]; exact RFormed_any l A cap lo hi w hl hlc hn hhi hS)
  have CN := Lib.hid (fun (s : ByteArray) (V : World) (hV : Below w.heap.size w V) => rfind_any l A cap lo hi s V hl (hn.kept hV hhi) (by have := hV.size; omega))
  obtain ⟨eA, heA⟩ : ∃ e, errA l more = e := ⟨_, rfl⟩
  obtain ⟨oA, hoA⟩ : ∃ e, outR l more = e := ⟨_, rfl⟩
  have HE := Lib.hid heA
  have HO : Hid (oA = if eA = 0 then l ++ more else []) := Lib.hid (by rw [← hoA, outR, heA])
  rw [heA, hoA]
  unfold errA at HE
  obtain ⟨F, hF⟩ : ∃ F, formedB l = F := ⟨_, rfl⟩
  rw [hF] at CF HE
  have hll : (l.length : Int) ≤ 600 := by omega
  have hmm : (more.length : Int) ≤ 600 := by omega
  have HML := Lib.hid hm
  have HLL := Lib.hid hl
  clear heA hoA hF hn hn' hS hl hm hlc
  unfold GivesA
  cases F with
  | false =>
    obtain rfl : eA = 5 := by rw [← HE.out]; rfl
    obtain rfl : oA = [] := HO.out
    go_enter Tryz.func8, Tryz.ntmps8
    go_wp2_with fail
    refine CF.out.mono ?_
    rintro e w1 ⟨rfl, hb⟩
    go_wp2_with fail
    refine bodyPost_ret (v := .tuple #[.slice none 0 0, .int .i64 5]) (by simp [results, Tryz.results8, go_sem]) rfl ?_
    exact ⟨none, 0, rfl, fun i h => by (cases h), Nat.le_refl _, hb⟩
  | true =>
  have wr0 : IntKind.i64.wrap ((l.length : Int) + (more.length : Int)) = (l.length : Int) + (more.length : Int) := IntWalk.i64_in _ (by omega)
  by_cases hlong : l.length + more.length ≤ 256
  case neg =>
    have t0 : decide ((256 : Int) < (l.length : Int) + (more.length : Int)) = true := decide_eq_true (by omega)
    have t0' : decide (256 < l.length + more.length) = true := decide_eq_true (by omega)
    obtain rfl : eA = 2 := by rw [← HE.out, if_pos rfl, if_neg hlong]
    obtain rfl : oA = [] := HO.out
    clear hlong
    go_enter Tryz.func8, Tryz.ntmps8
    go_wp2_with fail
    refine CF.out.mono ?_
    rintro e w1 ⟨rfl, hb⟩
    go_wp2_with fail
    refine bodyPost_ret (v := .tuple #[.slice none 0 0, .int .i64 2]) (by simp [results, Tryz.results8, go_sem]) rfl ?_
    exact ⟨none, 0, rfl, fun i h => by (cases h), Nat.le_refl _, hb⟩
  have t0 : decide ((256 : Int) < (l.length : Int) + (more.length : Int)) = false := decide_eq_false (by omega)
  have t0' : decide (256 < l.length + more.length) = false := decide_eq_false (by omega)
  have HE2 : Hid ((if twiceB l more then 4 else if formedB (l ++ more) then 0 else 5) = eA) := Lib.hid (by have := HE.out; rwa [if_pos rfl, if_pos hlong] at this)
  have HLO := Lib.hid hlong
  clear hlong HE
  go_enter Tryz.func8, Tryz.ntmps8
  go_wp2_with fail
  refine CF.out.mono ?_
  rintro e w2 ⟨rfl, hb1⟩
  have HB2 := Lib.hid hb1
  clear hb1 CF
  obtain ⟨n, hnn⟩ : ∃ n, l.length = n := ⟨_, rfl⟩
  obtain ⟨m, hmn⟩ : ∃ m, more.length = m := ⟨_, rfl⟩
  have HMN := Lib.hid hmn
  have HNN := Lib.hid hnn
  rw [hmn] at hmm wr0 t0 t0' ⊢
  rw [hnn] at hll wr0 t0 t0' CN ⊢
  clear hmn hnn
  go_wp2_with fail
  go_loopw [6] (fun iv wr => ∃ i : Nat, i ≤ m ∧ iv = .int .i64 i ∧ Below w2.heap.size w2 wr ∧ Hid (∀ j (h : j < more.length), j < i → inB (namesE l) more[j].s = false)) (fun iv _ => m - (intOf iv).toNat)
  case atStart => exact ⟨0, Nat.zero_le _, rfl, Below.refl _ _, Lib.hid (fun j h hj => by omega)⟩
  case round =>
    obtain ⟨i, hi1, rfl, hB, HQ⟩ := hrel
    have hz := hB.size
    have hzz := HB2.out.size
    by_cases hin : i < m
    · have hil : i < more.length := by rw [HMN.out]; exact hin
      obtain ⟨b, o, p, hA, q1, q2, hx, hent⟩ := (HN'.out i hil).kept (HB2.out.trans (hB.mono hzz)) hhi'
      subst hA
      have x1 := hx.c1
      have hbw : b < wr.heap.size := by omega
      have hi0' : (i : Int) < (m : Int) := by omega
      have HY := Lib.hid (fun (h : inB (namesE l) more[i].s = true) => twice_yes hil h)
      have HNX := Lib.hid (fun (h : inB (namesE l) more[i].s = false) j (hj : j < more.length) (h2 : j < i + 1) => (show inB (namesE l) more[j].s = false from by
        rcases Nat.lt_or_eq_of_le (Nat.le_of_lt_succ h2) with h3 | h3
        · exact HQ.out j hj h3
        · subst h3; exact h))
      obtain ⟨s, hs⟩ : ∃ s, more[i].s = s := ⟨_, rfl⟩
      rw [hs] at x1 HY HNX
      have HBB := Lib.hid hB
      have HBW := Lib.hid (HB2.out.trans (hB.mono hzz))
      clear hs hx hent hB
      go_wp2_with fail
      refine (CN.out s _ HBW.out).mono ?_
      rintro e w3 ⟨⟨r, rfl, hfi⟩, rfl⟩
      have hri := inB_find hfi
      by_cases h0 : 0 ≤ r
      · have hin' := hri.1 h0
        obtain rfl : eA = 4 := by rw [← HE2.out, if_pos (HY.out hin')]
        obtain rfl : oA = [] := HO.out
        have t1 : decide (r < 0) = false := decide_eq_false (by omega)
        have t1' : decide ((0 : Int) ≤ r) = true := decide_eq_true h0
        clear HY HNX hri hfi hin'
        go_wp2_with fail
        refine bodyPost_ret (v := .tuple #[.slice none 0 0, .int .i64 4]) (by simp [results, Tryz.results8, go_sem]) rfl ?_
        exact ⟨none, 0, rfl, fun i h => by (cases h), Nat.le_refl _, HBW.out⟩
      · have hin' : inB (namesE l) s = false := by
          cases e : inB (namesE l) s with
          | false => rfl
          | true => exact absurd (hri.2 e) h0
        have HNY := Lib.hid (HNX.out hin')
        have t1 : decide (r < 0) = true := decide_eq_true (by omega)
        have t1' : decide ((0 : Int) ≤ r) = false := decide_eq_false h0
        clear HY HNX hri hfi hin' h0
        go_wp2_with fail
        go_roundw
        case rel => exact ⟨i + 1, by omega, by go_num, HBB.out, Lib.hid HNY.out⟩
        case measure => simp [intOf]; omega
    · obtain rfl : i = m := by omega
      have HTW := Lib.hid (twice_no (l := l) (more := more) (fun j h => HQ.out j h (by rw [HMN.out] at h; exact h)))
      have HE3 : Hid ((if formedB (l ++ more) then 0 else 5) = eA) := Lib.hid (by have := HE2.out; rw [HTW.out] at this; exact this)
      have HBB := Lib.hid hB
      have HBW := Lib.hid (HB2.out.trans (hB.mono hzz))
      clear hB
      obtain ⟨qs, e1, e2, e3, e4⟩ := EntsAt.pairs (HN.out.kept (HBW.out.alloc HBW.out.size (.cells #[] 34)) hhi)
      rw [HNN.out] at e2 e4
      have HE1 := Lib.hid e1
      have HEL := Lib.hid e2
      have HEE := Lib.hid e3
      have HQS := Lib.hid e4
      have HO0 := Lib.hid (World.ownsRow_lit (base := w.heap.size) (e := 34) (size := 15) wr #[] 0 HBW.out.size (by decide) rfl)
      have R0 := Lib.hid (show EntRow (wr.alloc (.cells #[] 34)) w.heap.size (.slice (some ⟨wr.heap.size, 0, none⟩) 0 0) [] (fun _ => False) from ⟨HO0.out, fun _ h => h.elim, fun _ h => by cases h⟩)
      clear e1 e2 e3 e4 CN HE2 HQ HTW
      go_wp2_with (at_builtin; refine wpList_app rfl _ _ 22 rfl w.heap.size 34 i0 zeroE 15 192 Tryz.underlying22 hi0 hz0 hz1 hz2 zeroE_size (by decide) _ _ _ rfl HO0.out A n cap (flatE qs) rfl HQS.out (flatE_one _) ?c3 ?c4 ?c5 ?_)
      case c3 => have := HLO.out; unfold maxLen; omega
      case c4 => omega
      case c5 => have := HBW.out.size; simp; omega
      rintro v1 w3 ⟨hown3, hg3, ho3⟩
      have hzw := HBW.out.size
      have hne0 : ∀ b, b < w.heap.size → some b ≠ (Value.slice (some ⟨wr.heap.size, 0, none⟩) 0 0).ownBlock := fun b hb e => by injection e with e; have : b = wr.heap.size := e; omega
      have R1 := Lib.hid (show EntRow w3 w.heap.size v1 ([] ++ qs) (fun b => False ∨ (lo ≤ b ∧ b < hi)) from R0.out.pushes HEE.out (fun b hb => ⟨by simp; omega, fun e => hne0 b (by omega) e.symm⟩) (by rw [HEL.out, flatE_nil]; simpa using hown3) hg3 ho3)
      have hcell3 : ∀ b o, b < w.heap.size → w3.cell? ⟨b, o, none⟩ = wr.cell? ⟨b, o, none⟩ := fun b o hb => (hg3.cell_far ⟨b, o, none⟩ (by show b < _; simp; omega) (hne0 b hb)).trans (((Below.refl wr.heap.size wr).alloc (Nat.le_refl _) (.cells #[] 34)).cell (p := ⟨b, o, none⟩) (by show b < _; omega))
      obtain ⟨rs, f1, f2, f3, f4⟩ := EntsAt.pairs ((HN'.out.kept HBW.out hhi').imp (w' := w3) (fun b o hb => hcell3 b o (by omega)))
      rw [HMN.out] at f2 f4
      have HF1 := Lib.hid f1
      have HF2 := Lib.hid f2
      have HF3 := Lib.hid f3
      have HRS := Lib.hid f4
      have HB3 := Lib.hid ((HBW.out.alloc HBW.out.size (.cells #[] 34)).grown hg3 (by simp; omega) (fun g e => by injection e with e; have : wr.heap.size = g := e; omega))
      have hz3 := HB3.out.size
      obtain ⟨a1, cc1, rfl⟩ := own_sliceM hown3
      have HO1 := Lib.hid (show w3.ownsRow w.heap.size 34 15 (.slice a1 n cc1) n (flatE qs) from by simpa using hown3)
      have HLT1 := Lib.hid (fun g (e : (Value.slice a1 n cc1).ownBlock = some g) => HO1.out.lt g e)
      clear hown3 hg3 ho3 hne0 hcell3 f1 f2 f3 f4 R0
      go_wp2_with (at_builtin; refine wpList_app rfl _ _ 22 rfl w.heap.size 34 i0 zeroE 15 192 Tryz.underlying22 hi0 hz0 hz1 hz2 zeroE_size (by decide) _ n _ rfl HO1.out A' i cap' (flatE rs) rfl HRS.out (flatE_one _) ?c6 ?c7 (by omega) ?_)
      case c6 => have := HLO.out; unfold maxLen; omega
      case c7 => omega
      rintro v2 w4 ⟨hown4, hg4, ho4⟩
      have hne1 : ∀ b, b < w.heap.size → some b ≠ (Value.slice a1 n cc1).ownBlock := fun b hb e => by have := HLT1.out b e.symm; omega
      have R2 := Lib.hid (show EntRow w4 w.heap.size v2 (([] ++ qs) ++ rs) (fun b => (False ∨ (lo ≤ b ∧ b < hi)) ∨ (lo' ≤ b ∧ b < hi')) from R1.out.pushes HF3.out (fun b hb => ⟨by omega, fun e => hne1 b (by omega) e.symm⟩) (by rw [List.nil_append, HEL.out, HF2.out]; simpa using hown4) hg4 ho4)
      have HB4 := Lib.hid (HB3.out.grown hg4 (by omega) (fun g e => by have := HLT1.out g e; omega))
      obtain ⟨a2, cc2, rfl⟩ := own_sliceM hown4
      have HLEN := Lib.hid (show (([] ++ qs) ++ rs).length = n + i by rw [List.nil_append, List.length_append, HEL.out, HF2.out])
      have HLM := Lib.hid (show (l ++ more).length = n + i by rw [List.length_append, HNN.out, HMN.out])
      have HFIN := Lib.hid (show EntsAt w4 0 w4.heap.size a2 (l ++ more) ∧ n + i ≤ cc2 from by
        have h1 := R2.out
        rw [← HLEN.out] at h1
        obtain ⟨h2, h3, _⟩ := h1.ents
        rw [List.nil_append, List.map_append, HE1.out, HF1.out] at h2
        exact ⟨h2, by rw [← HLEN.out]; exact h3⟩)
      have hle := HLO.out
      have HLE6 := Lib.hid (show n + i ≤ 600 from by rw [HNN.out, HMN.out] at hle; omega)
      clear hle
      have CF2 : Hid (Calls Tryz.prog 10 #[.slice a2 (n + i) cc2] w4 fun e w' => e = .returned (.bool (formedB (l ++ more))) ∧ Below w4.heap.size w4 w') := Lib.hid (by
        rw [formed_same]
        have h := RFormed_any (l ++ more) a2 cc2 0 w4.heap.size w4 (by rw [HLM.out]; exact HLE6.out) (by rw [HLM.out]; exact HFIN.out.2) HFIN.out.1 (Nat.le_refl _) (HS.out.kept HB4.out)
        rwa [HLM.out] at h)
      obtain ⟨F2, hF2⟩ : ∃ F, formedB (l ++ more) = F := ⟨_, rfl⟩
      rw [hF2] at CF2 HE3
      obtain ⟨L, hL⟩ : ∃ L, l ++ more = L := ⟨_, rfl⟩
      rw [hL] at HFIN HO HLM
      clear hown4 hg4 ho4 hne1 R2 hF2 hL R1 HF3 HEE
      go_wp2_with fail
      refine CF2.out.mono ?_
      rintro e w5 ⟨rfl, hb5⟩
      have HB5 := Lib.hid (HB4.out.trans (hb5.mono HB4.out.size))
      have HE5 := Lib.hid (HFIN.out.1.kept hb5 (Nat.le_refl _))
      have HZ5 := Lib.hid hb5.size
      clear hb5
      cases F2 with
      | false =>
        obtain rfl : eA = 5 := by rw [← HE3.out]; rfl
        obtain rfl : oA = [] := HO.out
        go_wp2_with fail
        refine bodyPost_ret (v := .tuple #[.slice none 0 0, .int .i64 5]) (by simp [results, Tryz.results8, go_sem]) rfl ?_
        exact ⟨none, 0, rfl, fun i h => by (cases h), Nat.le_refl _, HB5.out⟩
      | true =>
        obtain rfl : eA = 0 := by rw [← HE3.out]; rfl
        obtain rfl : oA = L := HO.out
        go_wp2_with fail
        refine bodyPost_ret (v := .tuple #[.slice a2 (n + i) cc2, .int .i64 0]) (by simp [results, Tryz.results8, go_sem]) rfl ?_
        exact ⟨a2, cc2, by rw [HLM.out], HE5.out.wide (Nat.le_refl _) HZ5.out, by rw [HLM.out]; exact HFIN.out.2, HB5.out⟩

end Go.Proofs.YtcbbaognomddkaaGreatDoor
