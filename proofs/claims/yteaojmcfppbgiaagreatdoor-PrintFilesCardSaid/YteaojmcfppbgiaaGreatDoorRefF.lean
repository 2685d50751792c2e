/- The document's text of declarations: scholiumref06.File. -/
import Derived.Test.YteaojmcfppbgiaaGreatDoorRefD
import Derived.Test.YteaojmcfppbgiaaGreatDoorE1
namespace Go.Proofs.YteaojmcfppbgiaaGreatDoor
open Go.RowKit
set_option linter.unusedVariables false
set_option maxRecDepth 100000

theorem bindsX_len : ∀ l : List BT, (∀ y ∈ l, y.s.size ≤ 65535 ∧ (exprX y.t 0).length ≤ 500000) → (bindsX l).length ≤ l.length * 600000
  | [], _ => by simp [bindsX]
  | x :: l, h => by
    have h1 := h x (List.mem_cons_self ..)
    have h2 := bindsX_len l (fun y hy => h y (List.mem_cons_of_mem _ hy))
    have h3 := bind_len x.s (exprX x.t 0)
    rw [bindsX, List.length_append, List.length_append, h3, List.length_cons, List.length_cons, List.length_nil, Nat.add_mul]
    omega
theorem itemsX_len {α : Type} (f : α → Tx) (M : Nat) : ∀ l : List α, (∀ y ∈ l, (f y).length ≤ M) → (itemsX f l).length ≤ l.length * (M + 4)
  | [], _ => by simp [itemsX]
  | x :: l, h => by
    have h1 := h x (List.mem_cons_self ..)
    have h2 := itemsX_len f M l (fun y hy => h y (List.mem_cons_of_mem _ hy))
    have h3 : (l.length + 1) * (M + 4) = l.length * (M + 4) + (M + 4) := by rw [Nat.add_mul, Nat.one_mul]
    show _ ≤ (l.length + 1) * (M + 4)
    rw [itemsX, h3]
    simp only [List.length_append, List.length_cons, List.length_nil]
    omega
theorem rowPX_len : ∀ l : List RT, (∀ t ∈ l, (patX t).length ≤ 500000) → (rowPX l).length ≤ l.length * 500001
  | [], _ => by simp [rowPX]
  | x :: l, h => by
    have h1 := h x (List.mem_cons_self ..)
    have h2 := rowPX_len l (fun y hy => h y (List.mem_cons_of_mem _ hy))
    show _ ≤ (l.length + 1) * 500001
    rw [rowPX, Nat.add_mul]
    simp only [List.length_append, List.length_cons, List.length_nil]
    omega
theorem exprB_parts {t : RT} (h : exprB t = true) : goodB t false = true ∧ t.size ≤ 8192 := by
  unfold exprB at h
  rw [Bool.and_eq_true] at h
  exact ⟨h.2, (fitB_true.1 h.1).1⟩
theorem patB_parts {t : RT} (h : patB t = true) : goodB t true = true ∧ t.size ≤ 8192 := by
  unfold patB at h
  rw [Bool.and_eq_true] at h
  exact ⟨h.2, (fitB_true.1 h.1).1⟩
theorem zero_size {t : RT} (h : zeroB t = true) : t.size ≤ 8192 := by
  unfold zeroB at h
  simp only [Bool.and_eq_true, decide_eq_true_eq] at h
  obtain ⟨-, -, -, -, h⟩ := h
  obtain ⟨k, a, s, n, l⟩ := t
  have h : l.length = 0 := h
  obtain rfl := List.length_eq_zero_iff.1 h
  rw [size_node, sizeL_nil]
  decide
/-- How much room a right declaration takes. -/
theorem declB_more {x : DT} (h : declB x = true) : x.te.length ≤ 24 ∧ x.co.length ≤ 16 ∧ x.ro.length ≤ 32 ∧ x.s.size ≤ 65535 ∧ (∀ y ∈ x.te, y.s.size ≤ 65535 ∧ goodB y.t false = true ∧ y.t.size ≤ 8192) ∧ (goodB x.t false = true ∧ x.t.size ≤ 8192) ∧ (∀ y ∈ x.co, y.s.size ≤ 65535 ∧ goodB y.t false = true ∧ y.t.size ≤ 8192) ∧
    ∀ y ∈ x.ro, y.ps.length ≤ 24 ∧ (∀ t ∈ y.ps, goodB t true = true ∧ t.size ≤ 8192) ∧ y.t.size ≤ 8192 ∧ (y.h = true → goodB y.t false = true) := by
  unfold declB at h
  simp only [Bool.and_eq_true, decide_eq_true_eq] at h
  obtain ⟨-, -, h3, h4, h5, h6, h7, h8⟩ := h
  have hb : ∀ l : List BT, bindsB l = true → ∀ y ∈ l, y.s.size ≤ 65535 ∧ goodB y.t false = true ∧ y.t.size ≤ 8192 := fun l hl y hy => by
    have := allB_mem2 hl y hy
    unfold bindB at this
    rw [Bool.and_eq_true] at this
    exact ⟨nm_size this.1, exprB_parts this.2⟩
  have hr : x.te.length ≤ 24 ∧ x.co.length ≤ 16 ∧ x.ro.length ≤ 32 := by
    unfold roomB at h4
    split at h4
    · simp only [Bool.and_eq_true, decide_eq_true_eq] at h4; omega
    · simp only [Bool.and_eq_true, decide_eq_true_eq] at h4; omega
  refine ⟨hr.1, hr.2.1, hr.2.2, nm_size h3, hb _ h5, exprB_parts h6, hb _ h7, fun y hy => ?_⟩
  have := allB_mem2 h8 y hy
  unfold rowB at this
  simp only [Bool.and_eq_true, decide_eq_true_eq] at this
  obtain ⟨h9, h10, h11⟩ := this
  refine ⟨h9, fun t ht => patB_parts (allB_mem2 h10 t ht), ?_, fun hh => ?_⟩
  · cases hh : y.h with
    | true => rw [hh, if_pos rfl] at h11; exact (exprB_parts h11).2
    | false => rw [hh, if_neg (by decide)] at h11; exact zero_size h11
  · rw [hh, if_pos rfl] at h11; exact (exprB_parts h11).1
theorem declB_fits {x : DT} (h : declB x = true) : FitsD x := by
  obtain ⟨-, -, -, -, h5, h6, h7, h8⟩ := declB_more h
  exact ⟨fun y hy => (h5 y hy).2.2, h6.2, fun y hy => (h7 y hy).2.2, fun y hy => ⟨fun t ht => ((h8 y hy).2.1 t ht).2, (h8 y hy).2.2.1⟩⟩
theorem declB_len {x : DT} (h : declB x = true) : (declX x).length ≤ 1000000000000 := by
  obtain ⟨h1, h2, h3, h4, h5, h6, h7, h8⟩ := declB_more h
  have e0 : ∀ t : RT, goodB t false = true → t.size ≤ 8192 → (exprX t 0).length ≤ 500000 := fun t hg hz => by
    have := exprX_len t hg 0; omega
  have q1 := bindsX_len x.te (fun y hy => ⟨(h5 y hy).1, e0 _ (h5 y hy).2.1 (h5 y hy).2.2⟩)
  have q2 := e0 _ h6.1 h6.2
  have q3 := itemsX_len conX 600000 x.co (fun y hy => by
    have a1 := (h7 y hy).1
    have a2 := e0 _ (h7 y hy).2.1 (h7 y hy).2.2
    have a3 := bind_len y.s (exprX y.t 0)
    unfold bindX at a3
    unfold conX
    simp only [List.length_append, List.length_cons, List.length_nil] at a3
    omega)
  have q4 := itemsX_len rowX 13000000 x.ro (fun y hy => by
    obtain ⟨b1, b2, b3, b4⟩ := h8 y hy
    have a1 := rowPX_len y.ps (fun t ht => by have := patX_len t (b2 t ht).1; have := (b2 t ht).2; omega)
    have a2 : y.ps.length * 500001 ≤ 24 * 500001 := Nat.mul_le_mul_right _ b1
    unfold rowX
    rw [List.length_append]
    cases hh : y.h with
    | false => simp only [Bool.false_eq_true, if_false, List.length_nil]; omega
    | true =>
      have a3 := e0 _ (b4 hh) b3
      simp only [if_true, List.length_append, List.length_cons, List.length_nil]; omega)
  have k1 : x.te.length * 600000 ≤ 24 * 600000 := Nat.mul_le_mul_right _ h1
  have k2 : x.co.length * (600000 + 4) ≤ 16 * (600000 + 4) := Nat.mul_le_mul_right _ h2
  have k3 : x.ro.length * (13000000 + 4) ≤ 32 * (13000000 + 4) := Nat.mul_le_mul_right _ h3
  have k4 : (kwX x.k).length ≤ 6 := by unfold kwX; split; · decide
                                       · split <;> decide
  have k5 : (tx x.s).length = x.s.size := tx_length x.s
  unfold declX
  simp only [List.length_append, List.length_cons, List.length_nil]
  omega

set_option maxHeartbeats 4000000 in
theorem refFile_any (l : List DT) (lo hi : Nat) (A : Option Addr) (c : Nat) (w : World) (hl : l.length ≤ maxLen) (h : DeclsIn w lo hi A l) (hhi : hi ≤ w.heap.size) :
    Calls Tryz.prog 9 #[.slice A l.length c] w (TextIs (declsB l) (fileX l) w) := by
  have HN := Lib.hid h
  have HHI := Lib.hid hhi
  have HR := Lib.hid (fun i (hi' : i < l.length) p V (hV : Below w.heap.size w V) (hd : IsDecl V lo hi l[i] p) => rDeclRight_any l[i] lo hi p V hd (Nat.le_trans hhi hV.size))
  have HD := Lib.hid (fun i (hi' : i < l.length) (hb : declB l[i] = true) p V (hV : Below w.heap.size w V) (hd : IsDecl V lo hi l[i] p) => refDecl_any l[i] p hb (declB_fits hb) (declB_len hb) hd (Nat.le_trans hhi hV.size))
  have HDZ := Lib.hid (fun i (hi' : i < l.length) (hb : declB l[i] = true) => show (baX (declX l[i])).size ≤ 1000000000000 by rw [baX_size]; exact declB_len hb)
  have HBAD := Lib.hid (fun i (hi' : i < l.length) (hb : declB l[i] = false) => show declsB l = false by
    cases hq : declsB l with
    | false => rfl
    | true => have := allB_mem2 hq _ (List.getElem_mem hi'); rw [hb] at this; cases this)
  have HGOOD := Lib.hid (fun (hq : ∀ j (hj : j < l.length), declB l[j] = true) => show declsB l = true from allB_of_mem (fun x hx => by
    obtain ⟨j, hj, rfl⟩ := List.getElem_of_mem hx
    exact hq j hj))
  unfold StrIs at HD
  unfold maxLen at hl
  obtain ⟨P, hP⟩ : ∃ P : Nat → ByteArray, (fun i => baX (fileX (l.take i))) = P := ⟨_, rfl⟩
  have HP := Lib.hid (fun i => congrFun hP i)
  have HP0 : Hid (P 0 = ⟨#[]⟩) := Lib.hid (by rw [← HP.out]; rfl)
  have HPN : Hid (∀ i (hi' : i < l.length), P (i + 1) = P i ++ baX (declX l[i])) := Lib.hid (fun i hi' => by rw [← HP.out, ← HP.out, take_snocG hi', fileX_append, fileX_one, baX_cat])
  have HPL : Hid (∀ i, 65535 < (P i).size → 65535 < (fileX l).length) := Lib.hid (fun i hi' => by
    rw [← HP.out, baX_size] at hi'
    have e := congrArg (fun q => (fileX q).length) (List.take_append_drop i l)
    simp only [fileX_append, List.length_append] at e
    omega)
  have HPE : Hid (P l.length = baX (fileX l)) := Lib.hid (by rw [← HP.out, List.take_length])
  obtain ⟨S, hS⟩ : ∃ S, textS (declsB l) (fileX l) = S := ⟨_, rfl⟩
  obtain ⟨E, hE⟩ : ∃ E, textE (declsB l) (fileX l) = E := ⟨_, rfl⟩
  have HS := Lib.hid hS
  have HE := Lib.hid hE
  unfold TextIs
  rw [hS, hE]
  clear hS hE h hhi hP
  go_enter Tryz.func9, Tryz.ntmps9
  go_wp2_with fail
  go_loopw [4] (fun iv wr => ∃ i : Nat, i ≤ l.length ∧ iv = .int .i64 i ∧ Hid (Below w.heap.size w wr) ∧ Hid (∀ j (hj : j < l.length), j < i → declB l[j] = true)) (fun iv _ => l.length - (intOf iv).toNat)
  case atStart => exact ⟨0, Nat.zero_le _, rfl, Lib.hid (Below.refl _ _), Lib.hid (fun j hj h => by omega)⟩
  case round =>
    rename World => wr
    obtain ⟨i, hi1, rfl, HB, HQ⟩ := hrel
    have hz := HB.out.size
    by_cases hil : i < l.length
    · obtain ⟨b, o, p, hA, hb1, hb2, hx, hnode⟩ := (HN.out.kept HB.out HHI.out) i hil
      subst hA
      have hT := HR.out i hil p wr HB.out hnode
      have hbw : b < wr.heap.size := by have := HHI.out; omega
      have HBADI := Lib.hid (HBAD.out i hil)
      have HQN := Lib.hid (fun (hb : declB l[i] = true) => show ∀ j (hj : j < l.length), j < i + 1 → declB l[j] = true from fun j hj hji => by
        by_cases e : j < i
        · exact HQ.out j hj e
        · obtain rfl : j = i := by omega
          exact hb)
      obtain ⟨y, hy⟩ : ∃ y, l[i] = y := ⟨_, rfl⟩
      rw [hy] at hx hT HBADI HQN
      unfold declV at hT
      obtain ⟨x0, x1, x2, x3, x4, x5, x6, x7, x8, x9, x10⟩ := hx
      have hi2 : i + 1 ≤ l.length := hil
      have hiL : (i : Int) < 9223372036854775807 := by omega
      cases hq : declB y with
      | false =>
        rw [hq] at hT
        have hbad := HBADI.out hq
        have HT := Lib.hid hT
        have HS2 : Hid (S = ⟨#[]⟩) := Lib.hid (by rw [← HS.out, hbad]; rfl)
        have HE2 : Hid (E = 5) := Lib.hid (by rw [← HE.out, hbad]; rfl)
        clear hT hq hbad hy hnode HS HE HBADI HQN
        go_wp2_with fail
        refine HT.out.mono ?_
        rintro e w1 ⟨rfl, hb1⟩
        go_wp2_with fail
        go_ret2
        exact ⟨by rw [HS2.out, HE2.out]; rfl, HB.out.trans (hb1.mono hz)⟩
      | true =>
        rw [hq] at hT
        have HQ2 := Lib.hid (HQN.out hq)
        have HT := Lib.hid hT
        clear hT hq hy hnode HBADI HQN
        go_wp2_with fail
        refine HT.out.mono ?_
        rintro e w1 ⟨rfl, hb1⟩
        have HB1 := Lib.hid (HB.out.trans (hb1.mono hz))
        clear hb1
        go_wp2_with fail
        go_roundw
        case rel => exact ⟨i + 1, hi2, by go_num, HB1, HQ2⟩
        case measure => simp [intOf]; omega
    · obtain rfl : i = l.length := by omega
      have HALL : Hid (∀ j (hj : j < l.length), declB l[j] = true) := Lib.hid (fun j hj => HQ.out j hj hj)
      have HG := Lib.hid (HGOOD.out HALL.out)
      clear HR HBAD HGOOD HQ
      go_wp2_with fail
      clear hz
      rename World => wp
      go_loopw [5, 6] (fun sv iv wr => ∃ i : Nat, i ≤ l.length ∧ iv = .int .i64 i ∧ sv = .string (P i) ∧ Hid (Below w.heap.size w wr) ∧ Hid ((P i).size ≤ 65535)) (fun _ iv _ => l.length - (intOf iv).toNat)
      case atStart => exact ⟨0, Nat.zero_le _, rfl, by rw [HP0.out], HB, Lib.hid (by rw [HP0.out]; decide)⟩
      case round =>
        rename World => wr
        obtain ⟨i, hi1, rfl, rfl, HBB, HZ⟩ := hrel
        have hz := HBB.out.size
        by_cases hil : i < l.length
        · obtain ⟨b, o, p, hA, hb1, hb2, hx, hnode⟩ := (HN.out.kept HBB.out HHI.out) i hil
          subst hA
          have hT := HD.out i hil (HALL.out i hil) p wr HBB.out hnode
          have hTz := HDZ.out i hil (HALL.out i hil)
          have hPN := HPN.out i hil
          have hPL := HPL.out (i + 1)
          have hbw : b < wr.heap.size := by have := HHI.out; omega
          obtain ⟨y, hy⟩ : ∃ y, l[i] = y := ⟨_, rfl⟩
          rw [hy] at hx hT hPN hTz
          obtain ⟨R0, hR0⟩ : ∃ R, baX (declX y) = R := ⟨_, rfl⟩
          rw [hR0] at hT hPN hTz
          obtain ⟨Q, hQ⟩ : ∃ Q, P i = Q := ⟨_, rfl⟩
          obtain ⟨N, hN⟩ : ∃ N, P (i + 1) = N := ⟨_, rfl⟩
          rw [hQ, hN] at hPN
          rw [hN] at hPL
          have hQz : Q.size ≤ 65535 := by rw [← hQ]; exact HZ.out
          have hadd : ∀ V : World, (Op.stringOp .add Q R0).run Tryz.prog V = .ok (.string N) V := fun V => by rw [hPN]; exact run_string_add_sum V _ _ (by omega)
          rw [hQ]
          unfold declV at hT
          obtain ⟨x0, x1, x2, x3, x4, x5, x6, x7, x8, x9, x10⟩ := hx
          have hi2 : i + 1 ≤ l.length := hil
          have hiL : (i : Int) < 9223372036854775807 := by omega
          have HT := Lib.hid hT
          have HNN := Lib.hid hN
          by_cases hlong : 65535 < N.size
          · have hdec : decide ((65535 : Int) < (N.size : Int)) = true := decide_eq_true (by omega)
            have hfl := hPL hlong
            have HS2 : Hid (S = ⟨#[]⟩) := Lib.hid (by rw [← HS.out]; unfold textS; rw [if_neg (by omega)])
            have HE2 : Hid (E = 2) := Lib.hid (by rw [← HE.out]; unfold textE; rw [if_pos HG.out, if_neg (by omega)])
            clear hT hy hnode hPN hPL hR0 hQ hN hQz hTz hlong hfl
            go_wp2_with fail
            refine HT.out.mono ?_
            rintro e w1 ⟨rfl, hb1⟩
            go_wp2_with fail
            go_ret2
            exact ⟨by rw [HS2.out, HE2.out]; rfl, HBB.out.trans (hb1.mono hz)⟩
          · have hdec : decide ((65535 : Int) < (N.size : Int)) = false := decide_eq_false (by omega)
            have HNZ : Hid ((P (i + 1)).size ≤ 65535) := Lib.hid (by rw [hN]; omega)
            clear hT hy hnode hPN hPL hR0 hQ hN hQz hTz hlong
            go_wp2_with fail
            refine HT.out.mono ?_
            rintro e w1 ⟨rfl, hb1⟩
            have HB1 := Lib.hid (HBB.out.trans (hb1.mono hz))
            clear hb1
            go_wp2_with fail
            go_roundw
            case rel => exact ⟨i + 1, hi2, by go_num, by rw [HNN.out], HB1, HNZ⟩
            case measure => simp [intOf]; omega
        · obtain rfl : i = l.length := by omega
          have hfl : (fileX l).length ≤ 65535 := by have := HZ.out; rwa [HPE.out, baX_size] at this
          have HS2 : Hid (S = P l.length) := Lib.hid (by rw [← HS.out, HPE.out]; unfold textS baX; rw [if_pos ⟨HG.out, hfl⟩])
          have HE2 : Hid (E = 0) := Lib.hid (by rw [← HE.out]; unfold textE; rw [if_pos HG.out, if_pos hfl])
          obtain ⟨Q, hQ⟩ : ∃ Q, P l.length = Q := ⟨_, rfl⟩
          rw [hQ] at HS2 ⊢
          clear hfl hQ
          go_wp2_with fail
          go_ret2
          exact ⟨by rw [HS2.out, HE2.out]; rfl, HBB.out⟩

end Go.Proofs.YteaojmcfppbgiaaGreatDoor
