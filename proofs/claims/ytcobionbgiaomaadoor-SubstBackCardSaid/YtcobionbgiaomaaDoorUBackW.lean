/- The walk of the law SubstBack. -/
import Derived.Test.YtcobionbgiaomaaDoorULaw0
import Derived.Test.YtcobionbgiaomaaDoorUOk
import Derived.Test.YtcobionbgiaomaaDoorM4
namespace Go.Proofs.YtcobionbgiaomaaDoor
open Go.RowKit
set_option linter.unusedVariables false
set_option maxRecDepth 100000

theorem freeN_of (N : Int) : ∀ t : TM, (∀ x ∈ colT (twoK 8 8) t, x ≠ N) → freeN N t = true := by
  intro t
  induction t using TM.ind with
  | h k n l ih =>
    intro h
    rw [colT_node] at h
    rw [freeN_node, Bool.and_eq_true]
    refine ⟨?_, ?_⟩
    · by_cases hk : k = 8
      · have h1 := h n (by rw [if_pos (by unfold twoK; simp [hk])]; simp)
        simp [h1]
      · simp [hk]
    · have hL : ∀ (r : List TM), (∀ u ∈ r, u ∈ l) → (∀ x ∈ colL (twoK 8 8) r, x ≠ N) → r.all (freeN N) = true := by
        intro r
        induction r with
        | nil => intro _ _; rfl
        | cons u r ihr =>
          intro hm hx
          rw [colL_cons] at hx
          rw [List.all_cons, Bool.and_eq_true]
          exact ⟨ih u (hm u List.mem_cons_self) (fun x hx' => hx x (List.mem_append_left _ hx')), ihr (fun v hv => hm v (List.mem_cons_of_mem _ hv)) (fun x hx' => hx x (List.mem_append_right _ hx'))⟩
      exact hL l (fun _ h => h) (fun x hx => h x (List.mem_append_right _ hx))
def BackRel (w : World) (t : TM) (A_t : Option Addr) (c_t : Nat) (q : List Int) (aq : Option Addr) (iv : Value) (wr : World) : Prop := ∃ i : Nat, i ≤ q.length ∧ iv = .int .i64 i ∧ Below w.heap.size w wr ∧ TBox wr w.heap.size t.k t.n (.slice A_t t.l.length c_t) ∧ RowAt wr aq q ∧ ∀ x ∈ q.take i, x ≠ 300
set_option maxHeartbeats 4000000 in
theorem uback_walk (t : TM) (A_t : Option Addr) (c_t : Nat) (n : Int) (w : World) (ht : IsTerm w 0 w.heap.size t A_t c_t) (hn : (Lit.int .u8 n).wf = true) (hS : ShapesM w) :
    Calls Tryd.prog 9 #[termV t A_t c_t, .int .u8 n] w fun e w' => e = .returned (.bool true) ∧ Below w.heap.size w w' := by
  have hn0 : 0 ≤ n ∧ n ≤ 255 := by simpa [Lit.wf, IntKind.min, IntKind.max, IntKind.signed, IntKind.bits] using hn
  have hwn : IntKind.i64.wrap n = n := IntWalk.i64_in _ (by omega)
  have T_t := Lib.hid (fun (V : World) (hV : Below w.heap.size w V) => ht.kept hV (Nat.le_refl _))
  have HS := Lib.hid (fun (V : World) (hV : Below w.heap.size w V) => hS.kept hV)
  obtain ⟨bt, hbt⟩ : ∃ bt, shapedB t = bt := ⟨_, rfl⟩
  have HBT := Lib.hid hbt
  obtain ⟨a, e1, hE⟩ : ∃ pp qq, bindX t n = (pp, qq) := ⟨_, _, rfl⟩
  have HE := Lib.hid hE
  have HSZ := Lib.hid (fun (h : bt = true) => (show t.size ≤ 8192 from (shapedB_true.1 (hbt.trans h)).1))
  have HEND := Lib.hid (fun (h : bt = true) (hf : freeN 300 t = true) => back_bind (N := 300) (by decide) (hbt.trans h) hf)
  clear ht hS hn hbt hE
  unfold termV
  have HB_w := Lib.hid (Below.refl w.heap.size w)
  go_enter Tryd.func9, Tryd.ntmps9
  go_wp2_with fail
  refine (((bindc_any t _ _ A_t c_t n _ (T_t.out _ (HB_w.out.alloc HB_w.out.size (.cells #[.int .i64 t.k, .int .i64 t.n, .slice A_t t.l.length c_t] 24))) (HB_w.out.alloc HB_w.out.size (.cells #[.int .i64 t.k, .int .i64 t.n, .slice A_t t.l.length c_t] 24)).size (HS.out _ (HB_w.out.alloc HB_w.out.size (.cells #[.int .i64 t.k, .int .i64 t.n, .slice A_t t.l.length c_t] 24)))).mono fun _ _ h => GivesT.kept h HE.out)).mono ?_
  rintro e w1 ⟨A_a, c_a, rfl, hx, hb⟩
  rw [termV]
  have hj := Lib.hid (((Below.refl w.heap.size w).alloc (by simp <;> omega) (.cells #[.int .i64 t.k, .int .i64 t.n, .slice A_t t.l.length c_t] 24)).trans (hb.mono (by simp <;> omega)))
  have X_t := Lib.hid (show TBox w1 w.heap.size t.k t.n (.slice A_t t.l.length c_t) from TBox.of ((Bk.new w 24 #[.int .i64 t.k, .int .i64 t.n, .slice A_t t.l.length c_t]).below hb (by simp <;> omega)))
  have HB_w := Lib.hid (HB_w.out.trans (hj.out.mono HB_w.out.size))
  have HB_w1 := Lib.hid (Below.refl w1.heap.size w1)
  have T_a := Lib.hid (fun V (hV : Below w1.heap.size w1 V) => hx.kept hV (Nat.le_refl _))
  clear hx
  clear hb hj
  obtain ⟨t0, t1, t2, tl⟩ := X_t.out
  by_cases h1 : e1 = 0
  rotate_left
  · have q0 : (e1 == 0) = false := by simpa using h1
    clear h1
    go_wp2_with fail
    refine ((refShaped_any t _ _ A_t c_t _ (T_t.out _ (HB_w.out.alloc HB_w.out.size (.cells #[.int .i64 a.k, .int .i64 a.n, .slice A_a a.l.length c_a] 24))) (HB_w.out.alloc HB_w.out.size (.cells #[.int .i64 a.k, .int .i64 a.n, .slice A_a a.l.length c_a] 24)).size).mono fun _ _ h => (show _ ∧ _ from ⟨h.1.trans (by rw [HBT.out]), h.2⟩)).mono ?_
    rintro e w2 ⟨rfl, hb⟩
    have hj := Lib.hid (((Below.refl w1.heap.size w1).alloc (by simp <;> omega) (.cells #[.int .i64 a.k, .int .i64 a.n, .slice A_a a.l.length c_a] 24)).trans (hb.mono (by simp <;> omega)))
    have X_a := Lib.hid (show TBox w2 w1.heap.size a.k a.n (.slice A_a a.l.length c_a) from TBox.of ((Bk.new w1 24 #[.int .i64 a.k, .int .i64 a.n, .slice A_a a.l.length c_a]).below hb (by simp <;> omega)))
    have X_t := Lib.hid (X_t.out.kept hj.out X_t.out.lt)
    have HB_w := Lib.hid (HB_w.out.trans (hj.out.mono HB_w.out.size))
    have HB_w1 := Lib.hid (HB_w1.out.trans (hj.out.mono HB_w1.out.size))
    have HB_w2 := Lib.hid (Below.refl w2.heap.size w2)
    clear hb hj t0 t1 t2 tl
    obtain ⟨t0, t1, t2, tl⟩ := X_t.out
    cases bt with
    | false =>
      go_wp2_with fail
      refine (awakeU_any _ (HS.out _ HB_w.out)).mono ?_
      rintro e w3 ⟨rfl, hb⟩
      have hj := Lib.hid hb
      have X_t := Lib.hid (X_t.out.kept hj.out X_t.out.lt)
      have X_a := Lib.hid (X_a.out.kept hj.out X_a.out.lt)
      have HB_w := Lib.hid (HB_w.out.trans (hj.out.mono HB_w.out.size))
      have HB_w1 := Lib.hid (HB_w1.out.trans (hj.out.mono HB_w1.out.size))
      have HB_w2 := Lib.hid (HB_w2.out.trans (hj.out.mono HB_w2.out.size))
      have HB_w3 := Lib.hid (Below.refl w3.heap.size w3)
      clear hb hj t0 t1 t2 tl
      go_wp2_with fail
      go_ret
      exact ⟨rfl, HB_w.out⟩
    | true =>
      have HSZ1 := Lib.hid (HSZ.out rfl)
      have HEN1 := HEND.out rfl
      have HEN2 := Lib.hid HEN1
      clear HSZ HEND HEN1
      go_wp2_with fail
      refine (refNums_any 8 8 t _ _ A_t c_t _ (T_t.out _ HB_w.out) HB_w.out.size HSZ1.out).mono ?_
      rintro e w3 ⟨vq, rfl, hrow, hb⟩
      have HQ0 := Lib.hid hrow
      have hj := Lib.hid hb
      have X_t := Lib.hid (X_t.out.kept hj.out X_t.out.lt)
      have X_a := Lib.hid (X_a.out.kept hj.out X_a.out.lt)
      have HB_w := Lib.hid (HB_w.out.trans (hj.out.mono HB_w.out.size))
      have HB_w1 := Lib.hid (HB_w1.out.trans (hj.out.mono HB_w1.out.size))
      have HB_w2 := Lib.hid (HB_w2.out.trans (hj.out.mono HB_w2.out.size))
      have HB_w3 := Lib.hid (Below.refl w3.heap.size w3)
      clear hrow hb hj t0 t1 t2 tl
      obtain ⟨t0, t1, t2, tl⟩ := X_t.out
      obtain ⟨q, hq⟩ : ∃ q, setL (colT (twoK 8 8) t) = q := ⟨_, rfl⟩
      have HFR := Lib.hid (show (∀ x ∈ q, x ≠ 300) → freeN 300 t = true from fun h => freeN_of 300 t (fun x hx => h x (by rw [← hq]; exact setL_mem.2 hx)))
      have HQL := Lib.hid (show q.length ≤ 8192 by rw [← hq]; have h1 := setL_length_le (colT (twoK 8 8) t); have h2 := colL_len (twoK 8 8) t; have h3 := HSZ1.out; omega)
      have HQ1 := HQ0.out
      rw [hq] at HQ1
      obtain ⟨aq, cq, rfl⟩ := own_sliceM HQ1
      have HRA := Lib.hid (RowAt.own HQ1)
      clear HQ1 HQ0 hq
      go_wp2_with fail
      go_loopw [10] (BackRel w t A_t c_t q aq) (fun iv _ => q.length - (intOf iv).toNat)
      case atStart => exact ⟨0, Nat.zero_le _, rfl, HB_w.out, X_t.out, HRA.out, by simp⟩
      case round =>
        obtain ⟨i, hi1, rfl, hB, htb, hra, hall⟩ := hrel
        have HB_w := Lib.hid hB
        have X_t := Lib.hid htb
        have HALL := Lib.hid hall
        have HRW := Lib.hid hra
        have HB_wr := Lib.hid (Below.refl wr.heap.size wr)
        obtain ⟨t0', t1', t2', tl'⟩ := htb
        clear hall hra
        by_cases hil : i < q.length
        · obtain ⟨gq, haq, hgq, hat⟩ := HRW.out (by omega)
          subst haq
          have z0 := hat i hil
          rw [Nat.zero_add] at z0
          have hi1' : (i : Int) < (q.length : Int) := by omega
          have hi0' : (0 : Int) ≤ (i : Int) := by omega
          have hi9 : (i : Int) < 10000 := by have := HQL.out; omega
          have hst : q[i] ≠ 300 → ∀ x ∈ q.take (i + 1), x ≠ 300 := fun h x hx => by
            rw [List.take_succ_eq_append_getElem hil] at hx
            rcases List.mem_append.1 hx with hx | hx
            · exact HALL.out x hx
            · have : x = q[i] := by simpa using hx
              rw [this]; exact h
          obtain ⟨z, hz⟩ : ∃ z, q[i] = z := ⟨_, rfl⟩
          rw [hz] at z0 hst
          have HST := Lib.hid hst
          clear hst hz hat hB
          by_cases h300 : z = 300
          · have q1 : (z == 300) = true := by rw [h300]; rfl
            clear h300
            go_wp2_with fail
            refine (awakeU_any _ (HS.out _ HB_w.out)).mono ?_
            rintro e w1 ⟨rfl, hb⟩
            have hj := Lib.hid hb
            have X_t := Lib.hid (X_t.out.kept hj.out X_t.out.lt)
            have HB_w := Lib.hid (HB_w.out.trans (hj.out.mono HB_w.out.size))
            have HB_wr := Lib.hid (HB_wr.out.trans (hj.out.mono HB_wr.out.size))
            have HB_w1 := Lib.hid (Below.refl w1.heap.size w1)
            clear hb hj z0 t0' t1' t2' tl'
            go_wp2_with fail
            go_ret
            exact ⟨rfl, HB_w.out⟩
          · have q1 : (z == 300) = false := by simpa using h300
            have HS2 := Lib.hid (HST.out h300)
            clear h300
            go_wp2_with fail
            go_roundw
            case rel => exact ⟨i + 1, by omega, rfl, HB_w.out, X_t.out, HRW.out, HS2.out⟩
            case measure => simp [intOf]; omega
        · obtain rfl : i = q.length := by omega
          obtain ⟨c, hc1, hc2⟩ := HEN2.out (HFR.out (by have := HALL.out; rw [List.take_length] at this; exact this))
          have HC1 := Lib.hid hc1
          have HC2 := Lib.hid hc2
          clear hc1 hc2 hB HEN2
          go_wp2_with fail
          refine (((openc_any t _ _ A_t c_t 300 _ (T_t.out _ HB_w.out) HB_w.out.size (HS.out _ HB_w.out)).mono fun _ _ h => GivesT.kept h HC1.out)).mono ?_
          rintro e w1 ⟨A_c, c_c, rfl, hx, hb⟩
          rw [termV]
          have hj := Lib.hid hb
          have X_t := Lib.hid (X_t.out.kept hj.out X_t.out.lt)
          have HB_w := Lib.hid (HB_w.out.trans (hj.out.mono HB_w.out.size))
          have HB_wr := Lib.hid (HB_wr.out.trans (hj.out.mono HB_wr.out.size))
          have HB_w1 := Lib.hid (Below.refl w1.heap.size w1)
          have T_c := Lib.hid (fun V (hV : Below w1.heap.size w1 V) => hx.kept hV (Nat.le_refl _))
          clear hx
          clear hb hj t0' t1' t2' tl'
          go_wp2_with fail
          refine (((bindc_any c _ _ A_c c_c 300 _ (T_c.out _ (HB_w1.out.alloc HB_w1.out.size (.cells #[.int .i64 c.k, .int .i64 c.n, .slice A_c c.l.length c_c] 24))) (HB_w1.out.alloc HB_w1.out.size (.cells #[.int .i64 c.k, .int .i64 c.n, .slice A_c c.l.length c_c] 24)).size (HS.out _ (HB_w.out.alloc HB_w.out.size (.cells #[.int .i64 c.k, .int .i64 c.n, .slice A_c c.l.length c_c] 24)))).mono fun _ _ h => GivesT.kept h HC2.out)).mono ?_
          rintro e w2 ⟨A_d, c_d, rfl, hx, hb⟩
          rw [termV]
          have hj := Lib.hid (((Below.refl w1.heap.size w1).alloc (by simp <;> omega) (.cells #[.int .i64 c.k, .int .i64 c.n, .slice A_c c.l.length c_c] 24)).trans (hb.mono (by simp <;> omega)))
          have X_c := Lib.hid (show TBox w2 w1.heap.size c.k c.n (.slice A_c c.l.length c_c) from TBox.of ((Bk.new w1 24 #[.int .i64 c.k, .int .i64 c.n, .slice A_c c.l.length c_c]).below hb (by simp <;> omega)))
          have X_t := Lib.hid (X_t.out.kept hj.out X_t.out.lt)
          have HB_w := Lib.hid (HB_w.out.trans (hj.out.mono HB_w.out.size))
          have HB_wr := Lib.hid (HB_wr.out.trans (hj.out.mono HB_wr.out.size))
          have HB_w1 := Lib.hid (HB_w1.out.trans (hj.out.mono HB_w1.out.size))
          have HB_w2 := Lib.hid (Below.refl w2.heap.size w2)
          have T_d := Lib.hid (fun V (hV : Below w2.heap.size w2 V) => hx.kept hV (Nat.le_refl _))
          clear hx
          clear hb hj
          obtain ⟨t0, t1, t2, tl⟩ := X_t.out
          go_wp2_with fail
          refine (usame_refl t 0 _ _ _ _ A_d A_t c_d c_t _ (T_d.out _ (HB_w2.out.alloc HB_w2.out.size (.cells #[.int .i64 t.k, .int .i64 t.n, .slice A_d t.l.length c_d] 24))) (T_t.out _ (HB_w.out.alloc HB_w.out.size (.cells #[.int .i64 t.k, .int .i64 t.n, .slice A_d t.l.length c_d] 24))) (HB_w2.out.alloc HB_w2.out.size (.cells #[.int .i64 t.k, .int .i64 t.n, .slice A_d t.l.length c_d] 24)).size (HB_w.out.alloc HB_w.out.size (.cells #[.int .i64 t.k, .int .i64 t.n, .slice A_d t.l.length c_d] 24)).size).mono ?_
          rintro e w3 ⟨rfl, hb⟩
          have hj := Lib.hid (((Below.refl w2.heap.size w2).alloc (by simp <;> omega) (.cells #[.int .i64 t.k, .int .i64 t.n, .slice A_d t.l.length c_d] 24)).trans (hb.mono (by simp <;> omega)))
          have X_d := Lib.hid (show TBox w3 w2.heap.size t.k t.n (.slice A_d t.l.length c_d) from TBox.of ((Bk.new w2 24 #[.int .i64 t.k, .int .i64 t.n, .slice A_d t.l.length c_d]).below hb (by simp <;> omega)))
          have X_t := Lib.hid (X_t.out.kept hj.out X_t.out.lt)
          have X_c := Lib.hid (X_c.out.kept hj.out X_c.out.lt)
          have HB_w := Lib.hid (HB_w.out.trans (hj.out.mono HB_w.out.size))
          have HB_wr := Lib.hid (HB_wr.out.trans (hj.out.mono HB_wr.out.size))
          have HB_w1 := Lib.hid (HB_w1.out.trans (hj.out.mono HB_w1.out.size))
          have HB_w2 := Lib.hid (HB_w2.out.trans (hj.out.mono HB_w2.out.size))
          have HB_w3 := Lib.hid (Below.refl w3.heap.size w3)
          clear hb hj t0 t1 t2 tl
          go_wp2_with fail
          refine (awakeU_any _ (HS.out _ HB_w.out)).mono ?_
          rintro e w4 ⟨rfl, hb⟩
          have hj := Lib.hid hb
          have X_t := Lib.hid (X_t.out.kept hj.out X_t.out.lt)
          have X_c := Lib.hid (X_c.out.kept hj.out X_c.out.lt)
          have X_d := Lib.hid (X_d.out.kept hj.out X_d.out.lt)
          have HB_w := Lib.hid (HB_w.out.trans (hj.out.mono HB_w.out.size))
          have HB_wr := Lib.hid (HB_wr.out.trans (hj.out.mono HB_wr.out.size))
          have HB_w1 := Lib.hid (HB_w1.out.trans (hj.out.mono HB_w1.out.size))
          have HB_w2 := Lib.hid (HB_w2.out.trans (hj.out.mono HB_w2.out.size))
          have HB_w3 := Lib.hid (HB_w3.out.trans (hj.out.mono HB_w3.out.size))
          have HB_w4 := Lib.hid (Below.refl w4.heap.size w4)
          clear hb hj
          go_wp2_with fail
          go_ret
          exact ⟨rfl, HB_w.out⟩
  have HBK := Lib.hid (back_open (by rw [HE.out, h1]))
  have q0 : (e1 == 0) = true := by rw [h1]; rfl
  subst h1
  go_wp2_with fail
  refine (((openc_any a _ _ A_a c_a n _ (T_a.out _ (HB_w1.out.alloc HB_w1.out.size (.cells #[.int .i64 a.k, .int .i64 a.n, .slice A_a a.l.length c_a] 24))) (HB_w1.out.alloc HB_w1.out.size (.cells #[.int .i64 a.k, .int .i64 a.n, .slice A_a a.l.length c_a] 24)).size (HS.out _ (HB_w.out.alloc HB_w.out.size (.cells #[.int .i64 a.k, .int .i64 a.n, .slice A_a a.l.length c_a] 24)))).mono fun _ _ h => GivesT.kept h HBK.out)).mono ?_
  rintro e w2 ⟨A_b, c_b, rfl, hx, hb⟩
  rw [termV]
  have hj := Lib.hid (((Below.refl w1.heap.size w1).alloc (by simp <;> omega) (.cells #[.int .i64 a.k, .int .i64 a.n, .slice A_a a.l.length c_a] 24)).trans (hb.mono (by simp <;> omega)))
  have X_a := Lib.hid (show TBox w2 w1.heap.size a.k a.n (.slice A_a a.l.length c_a) from TBox.of ((Bk.new w1 24 #[.int .i64 a.k, .int .i64 a.n, .slice A_a a.l.length c_a]).below hb (by simp <;> omega)))
  have X_t := Lib.hid (X_t.out.kept hj.out X_t.out.lt)
  have HB_w := Lib.hid (HB_w.out.trans (hj.out.mono HB_w.out.size))
  have HB_w1 := Lib.hid (HB_w1.out.trans (hj.out.mono HB_w1.out.size))
  have HB_w2 := Lib.hid (Below.refl w2.heap.size w2)
  have T_b := Lib.hid (fun V (hV : Below w2.heap.size w2 V) => hx.kept hV (Nat.le_refl _))
  clear hx
  clear hb hj t0 t1 t2 tl
  obtain ⟨t0, t1, t2, tl⟩ := X_t.out
  go_wp2_with fail
  refine (usame_refl t 0 _ _ _ _ A_b A_t c_b c_t _ (T_b.out _ (HB_w2.out.alloc HB_w2.out.size (.cells #[.int .i64 t.k, .int .i64 t.n, .slice A_b t.l.length c_b] 24))) (T_t.out _ (HB_w.out.alloc HB_w.out.size (.cells #[.int .i64 t.k, .int .i64 t.n, .slice A_b t.l.length c_b] 24))) (HB_w2.out.alloc HB_w2.out.size (.cells #[.int .i64 t.k, .int .i64 t.n, .slice A_b t.l.length c_b] 24)).size (HB_w.out.alloc HB_w.out.size (.cells #[.int .i64 t.k, .int .i64 t.n, .slice A_b t.l.length c_b] 24)).size).mono ?_
  rintro e w3 ⟨rfl, hb⟩
  have hj := Lib.hid (((Below.refl w2.heap.size w2).alloc (by simp <;> omega) (.cells #[.int .i64 t.k, .int .i64 t.n, .slice A_b t.l.length c_b] 24)).trans (hb.mono (by simp <;> omega)))
  have X_b := Lib.hid (show TBox w3 w2.heap.size t.k t.n (.slice A_b t.l.length c_b) from TBox.of ((Bk.new w2 24 #[.int .i64 t.k, .int .i64 t.n, .slice A_b t.l.length c_b]).below hb (by simp <;> omega)))
  have X_t := Lib.hid (X_t.out.kept hj.out X_t.out.lt)
  have X_a := Lib.hid (X_a.out.kept hj.out X_a.out.lt)
  have HB_w := Lib.hid (HB_w.out.trans (hj.out.mono HB_w.out.size))
  have HB_w1 := Lib.hid (HB_w1.out.trans (hj.out.mono HB_w1.out.size))
  have HB_w2 := Lib.hid (HB_w2.out.trans (hj.out.mono HB_w2.out.size))
  have HB_w3 := Lib.hid (Below.refl w3.heap.size w3)
  clear hb hj t0 t1 t2 tl
  obtain ⟨t0, t1, t2, tl⟩ := X_t.out
  go_wp2_with fail
  refine ((refShaped_any t _ _ A_t c_t _ (T_t.out _ HB_w.out) HB_w.out.size).mono fun _ _ h => (show _ ∧ _ from ⟨h.1.trans (by rw [HBT.out]), h.2⟩)).mono ?_
  rintro e w4 ⟨rfl, hb⟩
  have hj := Lib.hid hb
  have X_t := Lib.hid (X_t.out.kept hj.out X_t.out.lt)
  have X_a := Lib.hid (X_a.out.kept hj.out X_a.out.lt)
  have X_b := Lib.hid (X_b.out.kept hj.out X_b.out.lt)
  have HB_w := Lib.hid (HB_w.out.trans (hj.out.mono HB_w.out.size))
  have HB_w1 := Lib.hid (HB_w1.out.trans (hj.out.mono HB_w1.out.size))
  have HB_w2 := Lib.hid (HB_w2.out.trans (hj.out.mono HB_w2.out.size))
  have HB_w3 := Lib.hid (HB_w3.out.trans (hj.out.mono HB_w3.out.size))
  have HB_w4 := Lib.hid (Below.refl w4.heap.size w4)
  clear hb hj t0 t1 t2 tl
  obtain ⟨t0, t1, t2, tl⟩ := X_t.out
  cases bt with
  | false =>
    go_wp2_with fail
    refine (awakeU_any _ (HS.out _ HB_w.out)).mono ?_
    rintro e w5 ⟨rfl, hb⟩
    have hj := Lib.hid hb
    have X_t := Lib.hid (X_t.out.kept hj.out X_t.out.lt)
    have X_a := Lib.hid (X_a.out.kept hj.out X_a.out.lt)
    have X_b := Lib.hid (X_b.out.kept hj.out X_b.out.lt)
    have HB_w := Lib.hid (HB_w.out.trans (hj.out.mono HB_w.out.size))
    have HB_w1 := Lib.hid (HB_w1.out.trans (hj.out.mono HB_w1.out.size))
    have HB_w2 := Lib.hid (HB_w2.out.trans (hj.out.mono HB_w2.out.size))
    have HB_w3 := Lib.hid (HB_w3.out.trans (hj.out.mono HB_w3.out.size))
    have HB_w4 := Lib.hid (HB_w4.out.trans (hj.out.mono HB_w4.out.size))
    have HB_w5 := Lib.hid (Below.refl w5.heap.size w5)
    clear hb hj t0 t1 t2 tl
    go_wp2_with fail
    go_ret
    exact ⟨rfl, HB_w.out⟩
  | true =>
    have HSZ1 := Lib.hid (HSZ.out rfl)
    have HEN1 := HEND.out rfl
    have HEN2 := Lib.hid HEN1
    clear HSZ HEND HEN1
    go_wp2_with fail
    refine (refNums_any 8 8 t _ _ A_t c_t _ (T_t.out _ HB_w.out) HB_w.out.size HSZ1.out).mono ?_
    rintro e w5 ⟨vq, rfl, hrow, hb⟩
    have HQ0 := Lib.hid hrow
    have hj := Lib.hid hb
    have X_t := Lib.hid (X_t.out.kept hj.out X_t.out.lt)
    have X_a := Lib.hid (X_a.out.kept hj.out X_a.out.lt)
    have X_b := Lib.hid (X_b.out.kept hj.out X_b.out.lt)
    have HB_w := Lib.hid (HB_w.out.trans (hj.out.mono HB_w.out.size))
    have HB_w1 := Lib.hid (HB_w1.out.trans (hj.out.mono HB_w1.out.size))
    have HB_w2 := Lib.hid (HB_w2.out.trans (hj.out.mono HB_w2.out.size))
    have HB_w3 := Lib.hid (HB_w3.out.trans (hj.out.mono HB_w3.out.size))
    have HB_w4 := Lib.hid (HB_w4.out.trans (hj.out.mono HB_w4.out.size))
    have HB_w5 := Lib.hid (Below.refl w5.heap.size w5)
    clear hrow hb hj t0 t1 t2 tl
    obtain ⟨t0, t1, t2, tl⟩ := X_t.out
    obtain ⟨q, hq⟩ : ∃ q, setL (colT (twoK 8 8) t) = q := ⟨_, rfl⟩
    have HFR := Lib.hid (show (∀ x ∈ q, x ≠ 300) → freeN 300 t = true from fun h => freeN_of 300 t (fun x hx => h x (by rw [← hq]; exact setL_mem.2 hx)))
    have HQL := Lib.hid (show q.length ≤ 8192 by rw [← hq]; have h1 := setL_length_le (colT (twoK 8 8) t); have h2 := colL_len (twoK 8 8) t; have h3 := HSZ1.out; omega)
    have HQ1 := HQ0.out
    rw [hq] at HQ1
    obtain ⟨aq, cq, rfl⟩ := own_sliceM HQ1
    have HRA := Lib.hid (RowAt.own HQ1)
    clear HQ1 HQ0 hq
    go_wp2_with fail
    go_loopw [10] (BackRel w t A_t c_t q aq) (fun iv _ => q.length - (intOf iv).toNat)
    case atStart => exact ⟨0, Nat.zero_le _, rfl, HB_w.out, X_t.out, HRA.out, by simp⟩
    case round =>
      obtain ⟨i, hi1, rfl, hB, htb, hra, hall⟩ := hrel
      have HB_w := Lib.hid hB
      have X_t := Lib.hid htb
      have HALL := Lib.hid hall
      have HRW := Lib.hid hra
      have HB_wr := Lib.hid (Below.refl wr.heap.size wr)
      obtain ⟨t0', t1', t2', tl'⟩ := htb
      clear hall hra
      by_cases hil : i < q.length
      · obtain ⟨gq, haq, hgq, hat⟩ := HRW.out (by omega)
        subst haq
        have z0 := hat i hil
        rw [Nat.zero_add] at z0
        have hi1' : (i : Int) < (q.length : Int) := by omega
        have hi0' : (0 : Int) ≤ (i : Int) := by omega
        have hi9 : (i : Int) < 10000 := by have := HQL.out; omega
        have hst : q[i] ≠ 300 → ∀ x ∈ q.take (i + 1), x ≠ 300 := fun h x hx => by
          rw [List.take_succ_eq_append_getElem hil] at hx
          rcases List.mem_append.1 hx with hx | hx
          · exact HALL.out x hx
          · have : x = q[i] := by simpa using hx
            rw [this]; exact h
        obtain ⟨z, hz⟩ : ∃ z, q[i] = z := ⟨_, rfl⟩
        rw [hz] at z0 hst
        have HST := Lib.hid hst
        clear hst hz hat hB
        by_cases h300 : z = 300
        · have q1 : (z == 300) = true := by rw [h300]; rfl
          clear h300
          go_wp2_with fail
          refine (awakeU_any _ (HS.out _ HB_w.out)).mono ?_
          rintro e w1 ⟨rfl, hb⟩
          have hj := Lib.hid hb
          have X_t := Lib.hid (X_t.out.kept hj.out X_t.out.lt)
          have HB_w := Lib.hid (HB_w.out.trans (hj.out.mono HB_w.out.size))
          have HB_wr := Lib.hid (HB_wr.out.trans (hj.out.mono HB_wr.out.size))
          have HB_w1 := Lib.hid (Below.refl w1.heap.size w1)
          clear hb hj z0 t0' t1' t2' tl'
          go_wp2_with fail
          go_ret
          exact ⟨rfl, HB_w.out⟩
        · have q1 : (z == 300) = false := by simpa using h300
          have HS2 := Lib.hid (HST.out h300)
          clear h300
          go_wp2_with fail
          go_roundw
          case rel => exact ⟨i + 1, by omega, rfl, HB_w.out, X_t.out, HRW.out, HS2.out⟩
          case measure => simp [intOf]; omega
      · obtain rfl : i = q.length := by omega
        obtain ⟨c, hc1, hc2⟩ := HEN2.out (HFR.out (by have := HALL.out; rw [List.take_length] at this; exact this))
        have HC1 := Lib.hid hc1
        have HC2 := Lib.hid hc2
        clear hc1 hc2 hB HEN2
        go_wp2_with fail
        refine (((openc_any t _ _ A_t c_t 300 _ (T_t.out _ HB_w.out) HB_w.out.size (HS.out _ HB_w.out)).mono fun _ _ h => GivesT.kept h HC1.out)).mono ?_
        rintro e w1 ⟨A_c, c_c, rfl, hx, hb⟩
        rw [termV]
        have hj := Lib.hid hb
        have X_t := Lib.hid (X_t.out.kept hj.out X_t.out.lt)
        have HB_w := Lib.hid (HB_w.out.trans (hj.out.mono HB_w.out.size))
        have HB_wr := Lib.hid (HB_wr.out.trans (hj.out.mono HB_wr.out.size))
        have HB_w1 := Lib.hid (Below.refl w1.heap.size w1)
        have T_c := Lib.hid (fun V (hV : Below w1.heap.size w1 V) => hx.kept hV (Nat.le_refl _))
        clear hx
        clear hb hj t0' t1' t2' tl'
        go_wp2_with fail
        refine (((bindc_any c _ _ A_c c_c 300 _ (T_c.out _ (HB_w1.out.alloc HB_w1.out.size (.cells #[.int .i64 c.k, .int .i64 c.n, .slice A_c c.l.length c_c] 24))) (HB_w1.out.alloc HB_w1.out.size (.cells #[.int .i64 c.k, .int .i64 c.n, .slice A_c c.l.length c_c] 24)).size (HS.out _ (HB_w.out.alloc HB_w.out.size (.cells #[.int .i64 c.k, .int .i64 c.n, .slice A_c c.l.length c_c] 24)))).mono fun _ _ h => GivesT.kept h HC2.out)).mono ?_
        rintro e w2 ⟨A_d, c_d, rfl, hx, hb⟩
        rw [termV]
        have hj := Lib.hid (((Below.refl w1.heap.size w1).alloc (by simp <;> omega) (.cells #[.int .i64 c.k, .int .i64 c.n, .slice A_c c.l.length c_c] 24)).trans (hb.mono (by simp <;> omega)))
        have X_c := Lib.hid (show TBox w2 w1.heap.size c.k c.n (.slice A_c c.l.length c_c) from TBox.of ((Bk.new w1 24 #[.int .i64 c.k, .int .i64 c.n, .slice A_c c.l.length c_c]).below hb (by simp <;> omega)))
        have X_t := Lib.hid (X_t.out.kept hj.out X_t.out.lt)
        have HB_w := Lib.hid (HB_w.out.trans (hj.out.mono HB_w.out.size))
        have HB_wr := Lib.hid (HB_wr.out.trans (hj.out.mono HB_wr.out.size))
        have HB_w1 := Lib.hid (HB_w1.out.trans (hj.out.mono HB_w1.out.size))
        have HB_w2 := Lib.hid (Below.refl w2.heap.size w2)
        have T_d := Lib.hid (fun V (hV : Below w2.heap.size w2 V) => hx.kept hV (Nat.le_refl _))
        clear hx
        clear hb hj
        obtain ⟨t0, t1, t2, tl⟩ := X_t.out
        go_wp2_with fail
        refine (usame_refl t 0 _ _ _ _ A_d A_t c_d c_t _ (T_d.out _ (HB_w2.out.alloc HB_w2.out.size (.cells #[.int .i64 t.k, .int .i64 t.n, .slice A_d t.l.length c_d] 24))) (T_t.out _ (HB_w.out.alloc HB_w.out.size (.cells #[.int .i64 t.k, .int .i64 t.n, .slice A_d t.l.length c_d] 24))) (HB_w2.out.alloc HB_w2.out.size (.cells #[.int .i64 t.k, .int .i64 t.n, .slice A_d t.l.length c_d] 24)).size (HB_w.out.alloc HB_w.out.size (.cells #[.int .i64 t.k, .int .i64 t.n, .slice A_d t.l.length c_d] 24)).size).mono ?_
        rintro e w3 ⟨rfl, hb⟩
        have hj := Lib.hid (((Below.refl w2.heap.size w2).alloc (by simp <;> omega) (.cells #[.int .i64 t.k, .int .i64 t.n, .slice A_d t.l.length c_d] 24)).trans (hb.mono (by simp <;> omega)))
        have X_d := Lib.hid (show TBox w3 w2.heap.size t.k t.n (.slice A_d t.l.length c_d) from TBox.of ((Bk.new w2 24 #[.int .i64 t.k, .int .i64 t.n, .slice A_d t.l.length c_d]).below hb (by simp <;> omega)))
        have X_t := Lib.hid (X_t.out.kept hj.out X_t.out.lt)
        have X_c := Lib.hid (X_c.out.kept hj.out X_c.out.lt)
        have HB_w := Lib.hid (HB_w.out.trans (hj.out.mono HB_w.out.size))
        have HB_wr := Lib.hid (HB_wr.out.trans (hj.out.mono HB_wr.out.size))
        have HB_w1 := Lib.hid (HB_w1.out.trans (hj.out.mono HB_w1.out.size))
        have HB_w2 := Lib.hid (HB_w2.out.trans (hj.out.mono HB_w2.out.size))
        have HB_w3 := Lib.hid (Below.refl w3.heap.size w3)
        clear hb hj t0 t1 t2 tl
        go_wp2_with fail
        refine (awakeU_any _ (HS.out _ HB_w.out)).mono ?_
        rintro e w4 ⟨rfl, hb⟩
        have hj := Lib.hid hb
        have X_t := Lib.hid (X_t.out.kept hj.out X_t.out.lt)
        have X_c := Lib.hid (X_c.out.kept hj.out X_c.out.lt)
        have X_d := Lib.hid (X_d.out.kept hj.out X_d.out.lt)
        have HB_w := Lib.hid (HB_w.out.trans (hj.out.mono HB_w.out.size))
        have HB_wr := Lib.hid (HB_wr.out.trans (hj.out.mono HB_wr.out.size))
        have HB_w1 := Lib.hid (HB_w1.out.trans (hj.out.mono HB_w1.out.size))
        have HB_w2 := Lib.hid (HB_w2.out.trans (hj.out.mono HB_w2.out.size))
        have HB_w3 := Lib.hid (HB_w3.out.trans (hj.out.mono HB_w3.out.size))
        have HB_w4 := Lib.hid (Below.refl w4.heap.size w4)
        clear hb hj
        go_wp2_with fail
        go_ret
        exact ⟨rfl, HB_w.out⟩

end Go.Proofs.YtcobionbgiaomaaDoor
