/- The walk of the law SubstLifted. -/
import Derived.Test.YtcobionbgiaomaaDoorULaw0
import Derived.Test.YtcobionbgiaomaaDoorUOk
import Derived.Test.YtcobionbgiaomaaDoorLTerms
namespace Go.Proofs.YtcobionbgiaomaaDoor
open Go.RowKit
set_option linter.unusedVariables false
set_option maxRecDepth 100000

def LiftRel (w : World) (t : TM) (A_t : Option Addr) (c_t : Nat) (l : List TM) (iv : Value) (wr : World) : Prop := ∃ i : Nat, i ≤ l.length ∧ iv = .int .i64 i ∧ Below w.heap.size w wr ∧ TBox wr w.heap.size t.k t.n (.slice A_t t.l.length c_t) ∧ (l.take i).all shapedB = true
set_option maxHeartbeats 4000000 in
theorem ulifted_walk (t : TM) (A_t : Option Addr) (c_t : Nat) (l : List TM) (A_l : Option Addr) (c_l : Nat) (w : World) (ht : IsTerm w 0 w.heap.size t A_t c_t) (hl : IsTerms w 0 w.heap.size l A_l c_l) (zl : l.all sizedT = true) (hS : ShapesM w) :
    Calls Tryd.prog 7 #[termV t A_t c_t, .slice A_l l.length c_l] w fun e w' => e = .returned (.bool true) ∧ Below w.heap.size w w' := by
  have T_t := Lib.hid (fun (V : World) (hV : Below w.heap.size w V) => ht.kept hV (Nat.le_refl _))
  have T_l := Lib.hid (fun (V : World) (hV : Below w.heap.size w V) => hl.kept hV (Nat.le_refl _))
  have HS := Lib.hid (fun (V : World) (hV : Below w.heap.size w V) => hS.kept hV)
  have HN := Lib.hid hl.sub
  obtain ⟨bt, hbt⟩ : ∃ bt, shapedB t = bt := ⟨_, rfl⟩
  have HBT := Lib.hid hbt
  clear ht hl hS zl
  unfold termV
  by_cases h20 : 20 < l.length
  · have t0 : decide ((20 : Int) < (l.length : Int)) = true := decide_eq_true (by omega)
    clear h20 hbt
    have HB_w := Lib.hid (Below.refl w.heap.size w)
    go_enter Tryd.func7, Tryd.ntmps7
    go_wp2_with fail
    refine (awakeU_any _ (HS.out _ (HB_w.out.alloc HB_w.out.size (.cells #[.int .i64 t.k, .int .i64 t.n, .slice A_t t.l.length c_t] 24)))).mono ?_
    rintro e w1 ⟨rfl, hb⟩
    have hj := Lib.hid (((Below.refl w.heap.size w).alloc (by simp <;> omega) (.cells #[.int .i64 t.k, .int .i64 t.n, .slice A_t t.l.length c_t] 24)).trans (hb.mono (by simp <;> omega)))
    have X_t := Lib.hid (show TBox w1 w.heap.size t.k t.n (.slice A_t t.l.length c_t) from TBox.of ((Bk.new w 24 #[.int .i64 t.k, .int .i64 t.n, .slice A_t t.l.length c_t]).below hb (by simp <;> omega)))
    have HB_w := Lib.hid (HB_w.out.trans (hj.out.mono HB_w.out.size))
    have HB_w1 := Lib.hid (Below.refl w1.heap.size w1)
    clear hb hj
    go_wp2_with fail
    go_ret
    exact ⟨rfl, HB_w.out⟩
  · have t0 : decide ((20 : Int) < (l.length : Int)) = false := decide_eq_false (by omega)
    have HL4 := Lib.hid (show l.length ≤ 20 by omega)
    clear h20
    have HB_w := Lib.hid (Below.refl w.heap.size w)
    go_enter Tryd.func7, Tryd.ntmps7
    go_wp2_with fail
    refine ((refShaped_any t _ _ A_t c_t _ (T_t.out _ (HB_w.out.alloc HB_w.out.size (.cells #[.int .i64 t.k, .int .i64 t.n, .slice A_t t.l.length c_t] 24))) (HB_w.out.alloc HB_w.out.size (.cells #[.int .i64 t.k, .int .i64 t.n, .slice A_t t.l.length c_t] 24)).size).mono fun _ _ h => (show _ ∧ _ from ⟨h.1.trans (by rw [HBT.out]), h.2⟩)).mono ?_
    rintro e w1 ⟨rfl, hb⟩
    have hj := Lib.hid (((Below.refl w.heap.size w).alloc (by simp <;> omega) (.cells #[.int .i64 t.k, .int .i64 t.n, .slice A_t t.l.length c_t] 24)).trans (hb.mono (by simp <;> omega)))
    have X_t := Lib.hid (show TBox w1 w.heap.size t.k t.n (.slice A_t t.l.length c_t) from TBox.of ((Bk.new w 24 #[.int .i64 t.k, .int .i64 t.n, .slice A_t t.l.length c_t]).below hb (by simp <;> omega)))
    have HB_w := Lib.hid (HB_w.out.trans (hj.out.mono HB_w.out.size))
    have HB_w1 := Lib.hid (Below.refl w1.heap.size w1)
    clear hb hj
    obtain ⟨t0, t1, t2, tl⟩ := X_t.out
    clear hbt
    cases bt with
    | false =>
      go_wp2_with fail
      refine (awakeU_any _ (HS.out _ HB_w.out)).mono ?_
      rintro e w2 ⟨rfl, hb⟩
      have hj := Lib.hid hb
      have X_t := Lib.hid (X_t.out.kept hj.out X_t.out.lt)
      have HB_w := Lib.hid (HB_w.out.trans (hj.out.mono HB_w.out.size))
      have HB_w1 := Lib.hid (HB_w1.out.trans (hj.out.mono HB_w1.out.size))
      have HB_w2 := Lib.hid (Below.refl w2.heap.size w2)
      clear hb hj t0 t1 t2 tl
      go_wp2_with fail
      go_ret
      exact ⟨rfl, HB_w.out⟩
    | true =>
      go_wp2_with fail
      go_loopw [5] (LiftRel w t A_t c_t l) (fun iv _ => l.length - (intOf iv).toNat)
      case atStart => exact ⟨0, Nat.zero_le _, rfl, HB_w.out, X_t.out, rfl⟩
      case round =>
        obtain ⟨i, hi1, rfl, hB, htb, hall⟩ := hrel
        have HB_w := Lib.hid hB
        have X_t := Lib.hid htb
        have HALL := Lib.hid hall
        have HB_wr := Lib.hid (Below.refl wr.heap.size wr)
        obtain ⟨t0', t1', t2', tl'⟩ := htb
        clear hall
        by_cases hil : i < l.length
        · obtain ⟨gb, go, F, C, hAl, hb1', hb2', ⟨z0, z1, z2⟩, hnode⟩ := (HN.out i hil).kept hB (Nat.le_refl _)
          subst hAl
          have hi1' : (i : Int) < (l.length : Int) := by omega
          have hi0' : (0 : Int) ≤ (i : Int) := by omega
          have hi9 : (i : Int) < 100 := by have := HL4.out; omega
          have hst : (l.take (i + 1)).all shapedB = shapedB l[i] := by
            rw [List.take_succ_eq_append_getElem hil, List.all_append, HALL.out]; simp
          obtain ⟨u, hu⟩ : ∃ u, l[i] = u := ⟨_, rfl⟩
          rw [hu] at z0 z1 z2 hnode hst
          have CU := Lib.hid (refShaped_any u _ _ F C wr hnode (by have := hB.size; omega))
          obtain ⟨bu, hbu⟩ : ∃ bu, shapedB u = bu := ⟨_, rfl⟩
          rw [hbu] at CU hst
          have HST := Lib.hid hst
          unfold termV at CU
          clear hnode hu hbu hst hB
          go_wp2_with fail
          refine (CU.out).mono ?_
          rintro e w1 ⟨rfl, hb⟩
          have hj := Lib.hid hb
          have X_t := Lib.hid (X_t.out.kept hj.out X_t.out.lt)
          have HB_w := Lib.hid (HB_w.out.trans (hj.out.mono HB_w.out.size))
          have HB_wr := Lib.hid (HB_wr.out.trans (hj.out.mono HB_wr.out.size))
          have HB_w1 := Lib.hid (Below.refl w1.heap.size w1)
          clear hb hj z0 z1 z2 t0' t1' t2' tl'
          cases bu with
          | false =>
            go_wp2_with fail
            refine (awakeU_any _ (HS.out _ HB_w.out)).mono ?_
            rintro e w2 ⟨rfl, hb⟩
            have hj := Lib.hid hb
            have X_t := Lib.hid (X_t.out.kept hj.out X_t.out.lt)
            have HB_w := Lib.hid (HB_w.out.trans (hj.out.mono HB_w.out.size))
            have HB_wr := Lib.hid (HB_wr.out.trans (hj.out.mono HB_wr.out.size))
            have HB_w1 := Lib.hid (HB_w1.out.trans (hj.out.mono HB_w1.out.size))
            have HB_w2 := Lib.hid (Below.refl w2.heap.size w2)
            clear hb hj
            go_wp2_with fail
            go_ret
            exact ⟨rfl, HB_w.out⟩
          | true =>
            go_wp2_with fail
            go_roundw
            case rel => exact ⟨i + 1, by omega, rfl, HB_w.out, X_t.out, HST.out⟩
            case measure => simp [intOf]; omega
        · obtain rfl : i = l.length := by omega
          have HAL := Lib.hid (show l.all shapedB = true by have := HALL.out; rw [List.take_length] at this; exact this)
          have hfl : fitsB (l.length : Int) = true := fitsB_true.2 ⟨by omega, by have := HL4.out; omega⟩
          obtain ⟨a, e1, hE⟩ : ∃ pp qq, liftX t l.length 0 = (pp, qq) := ⟨_, _, rfl⟩
          have HE := Lib.hid hE
          have HE2 := Lib.hid (show e1 ≠ 0 → e1 = 2 from fun h => lift_err hfl HBT.out hE h)
          have HMN := Lib.hid (show e1 = 0 → manyX a l = (t, 0) from fun h => lifted_many HAL.out (by rw [hE, h]))
          clear hfl hE hB
          go_wp2_with fail
          refine (((up_any t (l.length : Int) _ _ A_t c_t _ (T_t.out _ HB_w.out) HB_w.out.size (HS.out _ HB_w.out)).mono fun _ _ h => GivesT.kept h HE.out)).mono ?_
          rintro e w1 ⟨A_a, c_a, rfl, hx, hb⟩
          rw [termV]
          have hj := Lib.hid hb
          have X_t := Lib.hid (X_t.out.kept hj.out X_t.out.lt)
          have HB_w := Lib.hid (HB_w.out.trans (hj.out.mono HB_w.out.size))
          have HB_wr := Lib.hid (HB_wr.out.trans (hj.out.mono HB_wr.out.size))
          have HB_w1 := Lib.hid (Below.refl w1.heap.size w1)
          have T_a := Lib.hid (fun V (hV : Below w1.heap.size w1 V) => hx.kept hV (Nat.le_refl _))
          clear hx
          clear hb hj t0' t1' t2' tl'
          by_cases h1 : e1 = 0
          rotate_left
          · have he2 := HE2.out h1
            subst he2
            clear h1
            go_wp2_with fail
            refine (awakeU_any _ (HS.out _ (HB_w.out.alloc HB_w.out.size (.cells #[.int .i64 a.k, .int .i64 a.n, .slice A_a a.l.length c_a] 24)))).mono ?_
            rintro e w2 ⟨rfl, hb⟩
            have hj := Lib.hid (((Below.refl w1.heap.size w1).alloc (by simp <;> omega) (.cells #[.int .i64 a.k, .int .i64 a.n, .slice A_a a.l.length c_a] 24)).trans (hb.mono (by simp <;> omega)))
            have X_a := Lib.hid (show TBox w2 w1.heap.size a.k a.n (.slice A_a a.l.length c_a) from TBox.of ((Bk.new w1 24 #[.int .i64 a.k, .int .i64 a.n, .slice A_a a.l.length c_a]).below hb (by simp <;> omega)))
            have X_t := Lib.hid (X_t.out.kept hj.out X_t.out.lt)
            have HB_w := Lib.hid (HB_w.out.trans (hj.out.mono HB_w.out.size))
            have HB_wr := Lib.hid (HB_wr.out.trans (hj.out.mono HB_wr.out.size))
            have HB_w1 := Lib.hid (HB_w1.out.trans (hj.out.mono HB_w1.out.size))
            have HB_w2 := Lib.hid (Below.refl w2.heap.size w2)
            clear hb hj
            go_wp2_with fail
            go_ret
            exact ⟨rfl, HB_w.out⟩
          have HM := Lib.hid (HMN.out h1)
          have q1 : (e1 != 0) = false := by rw [h1]; rfl
          subst h1
          go_wp2_with fail
          refine (((manyc_any a _ _ A_a c_a l _ _ A_l c_l _ (T_a.out _ (HB_w1.out.alloc HB_w1.out.size (.cells #[.int .i64 a.k, .int .i64 a.n, .slice A_a a.l.length c_a] 24))) (HB_w1.out.alloc HB_w1.out.size (.cells #[.int .i64 a.k, .int .i64 a.n, .slice A_a a.l.length c_a] 24)).size (T_l.out _ (HB_w.out.alloc HB_w.out.size (.cells #[.int .i64 a.k, .int .i64 a.n, .slice A_a a.l.length c_a] 24))) (HB_w.out.alloc HB_w.out.size (.cells #[.int .i64 a.k, .int .i64 a.n, .slice A_a a.l.length c_a] 24)).size (Nat.le_trans HL4.out (by omega)) (HS.out _ (HB_w.out.alloc HB_w.out.size (.cells #[.int .i64 a.k, .int .i64 a.n, .slice A_a a.l.length c_a] 24)))).mono fun _ _ h => GivesT.kept h HM.out)).mono ?_
          rintro e w2 ⟨A_b, c_b, rfl, hx, hb⟩
          rw [termV]
          have hj := Lib.hid (((Below.refl w1.heap.size w1).alloc (by simp <;> omega) (.cells #[.int .i64 a.k, .int .i64 a.n, .slice A_a a.l.length c_a] 24)).trans (hb.mono (by simp <;> omega)))
          have X_a := Lib.hid (show TBox w2 w1.heap.size a.k a.n (.slice A_a a.l.length c_a) from TBox.of ((Bk.new w1 24 #[.int .i64 a.k, .int .i64 a.n, .slice A_a a.l.length c_a]).below hb (by simp <;> omega)))
          have X_t := Lib.hid (X_t.out.kept hj.out X_t.out.lt)
          have HB_w := Lib.hid (HB_w.out.trans (hj.out.mono HB_w.out.size))
          have HB_wr := Lib.hid (HB_wr.out.trans (hj.out.mono HB_wr.out.size))
          have HB_w1 := Lib.hid (HB_w1.out.trans (hj.out.mono HB_w1.out.size))
          have HB_w2 := Lib.hid (Below.refl w2.heap.size w2)
          have T_b := Lib.hid (fun V (hV : Below w2.heap.size w2 V) => hx.kept hV (Nat.le_refl _))
          clear hx
          clear hb hj
          obtain ⟨t0, t1, t2, tl⟩ := X_t.out
          go_wp2_with fail
          refine (usame_refl t 0 _ _ _ _ A_b A_t c_b c_t _ (T_b.out _ (HB_w2.out.alloc HB_w2.out.size (.cells #[.int .i64 t.k, .int .i64 t.n, .slice A_b t.l.length c_b] 24))) (T_t.out _ (HB_w.out.alloc HB_w.out.size (.cells #[.int .i64 t.k, .int .i64 t.n, .slice A_b t.l.length c_b] 24))) (HB_w2.out.alloc HB_w2.out.size (.cells #[.int .i64 t.k, .int .i64 t.n, .slice A_b t.l.length c_b] 24)).size (HB_w.out.alloc HB_w.out.size (.cells #[.int .i64 t.k, .int .i64 t.n, .slice A_b t.l.length c_b] 24)).size).mono ?_
          rintro e w3 ⟨rfl, hb⟩
          have hj := Lib.hid (((Below.refl w2.heap.size w2).alloc (by simp <;> omega) (.cells #[.int .i64 t.k, .int .i64 t.n, .slice A_b t.l.length c_b] 24)).trans (hb.mono (by simp <;> omega)))
          have X_b := Lib.hid (show TBox w3 w2.heap.size t.k t.n (.slice A_b t.l.length c_b) from TBox.of ((Bk.new w2 24 #[.int .i64 t.k, .int .i64 t.n, .slice A_b t.l.length c_b]).below hb (by simp <;> omega)))
          have X_t := Lib.hid (X_t.out.kept hj.out X_t.out.lt)
          have X_a := Lib.hid (X_a.out.kept hj.out X_a.out.lt)
          have HB_w := Lib.hid (HB_w.out.trans (hj.out.mono HB_w.out.size))
          have HB_wr := Lib.hid (HB_wr.out.trans (hj.out.mono HB_wr.out.size))
          have HB_w1 := Lib.hid (HB_w1.out.trans (hj.out.mono HB_w1.out.size))
          have HB_w2 := Lib.hid (HB_w2.out.trans (hj.out.mono HB_w2.out.size))
          have HB_w3 := Lib.hid (Below.refl w3.heap.size w3)
          clear hb hj t0 t1 t2 tl
          go_wp2_with fail
          refine (awakeU_any _ (HS.out _ HB_w.out)).mono ?_
          rintro e w4 ⟨rfl, hb⟩
          have hj := Lib.hid hb
          have X_t := Lib.hid (X_t.out.kept hj.out X_t.out.lt)
          have X_a := Lib.hid (X_a.out.kept hj.out X_a.out.lt)
          have X_b := Lib.hid (X_b.out.kept hj.out X_b.out.lt)
          have HB_w := Lib.hid (HB_w.out.trans (hj.out.mono HB_w.out.size))
          have HB_wr := Lib.hid (HB_wr.out.trans (hj.out.mono HB_wr.out.size))
          have HB_w1 := Lib.hid (HB_w1.out.trans (hj.out.mono HB_w1.out.size))
          have HB_w2 := Lib.hid (HB_w2.out.trans (hj.out.mono HB_w2.out.size))
          have HB_w3 := Lib.hid (HB_w3.out.trans (hj.out.mono HB_w3.out.size))
          have HB_w4 := Lib.hid (Below.refl w4.heap.size w4)
          clear hb hj
          go_wp2_with fail
          go_ret
          exact ⟨rfl, HB_w.out⟩

end Go.Proofs.YtcobionbgiaomaaDoor
