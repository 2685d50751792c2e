/- scholiumref07.Beneath, Has, Loose. -/
import Derived.Test.YtofmoggjpgjdgaaDoorM3
import Derived.Deep.RegionHeld3
import Derived.Deep.QuietTactic
import Derived.BigQuiet
namespace Go.Proofs.YtofmoggjpgjdgaaDoor
open Go.RowKit
set_option linter.unusedVariables false
set_option maxRecDepth 100000

theorem beneath_any (k n : Int) (A : Option Addr) (m cap i : Nat) (w : World) : Calls Tryd.prog 63 #[.agg #[.int .i64 k, .int .i64 n, .slice A m cap], .int .i64 (i : Int)] w fun e w' => e = .returned (.int .i64 (bndR k i)) ∧ Below w.heap.size w w' := by
  obtain ⟨r, hr⟩ : ∃ r, bndR k i = r := ⟨_, rfl⟩
  rw [hr]
  unfold bndR at hr
  have HR := Lib.hid hr
  clear hr
  by_cases h1 : i = 1
  · have e1 : ((i : Int) == 1) = true := by rw [beq_iff_eq]; omega
    by_cases h5 : k = 5
    · have e2 : (k != 5) = false := by rw [h5]; rfl
      have HR2 : Hid (r = 0) := Lib.hid (by rw [← HR.out]; exact if_neg (fun h => h.2 h5))
      clear h1 h5
      go_enter Tryd.func63, Tryd.ntmps63
      go_wp2_with fail
      go_ret
      exact ⟨by rw [HR2.out]; rfl, (Below.refl _ _).alloc (Nat.le_refl _) _⟩
    · have e2 : (k != 5) = true := by rw [bne_iff_ne]; exact h5
      have HR2 : Hid (r = 1) := Lib.hid (by rw [← HR.out]; exact if_pos ⟨h1, h5⟩)
      clear h1 h5
      go_enter Tryd.func63, Tryd.ntmps63
      go_wp2_with fail
      go_ret
      exact ⟨by rw [HR2.out]; rfl, (Below.refl _ _).alloc (Nat.le_refl _) _⟩
  · have e1 : ((i : Int) == 1) = false := by rw [beq_eq_false_iff_ne]; omega
    have HR2 : Hid (r = 0) := Lib.hid (by rw [← HR.out]; exact if_neg (fun h => h1 h.1))
    clear h1
    go_enter Tryd.func63, Tryd.ntmps63
    go_wp2_with fail
    go_ret
    exact ⟨by rw [HR2.out]; rfl, (Below.refl _ _).alloc (Nat.le_refl _) _⟩

theorem hasL_take (k m : Int) {l : List TM} {i : Nat} (h : i < l.length) : hasL k 0 (l.take (i + 1)) m = (hasL k 0 (l.take i) m || hasT l[i] (m + bndR k i)) := by
  rw [take_snocM h, hasL_snoc]
  have e : 0 + (l.take i).length = i := by simp; omega
  rw [e]
theorem hasL_app (k m : Int) : ∀ (r s : List TM) (i : Nat), hasL k i (r ++ s) m = (hasL k i r m || hasL k (i + r.length) s m)
  | [], s, i => by rw [List.nil_append, hasL_nil]; simp
  | u :: r, s, i => by
    rw [List.cons_append, hasL_cons, hasL_app k m r s, hasL_cons, Bool.or_assoc]
    have e : i + 1 + r.length = i + (u :: r).length := by simp; omega
    rw [e]
theorem hasL_yes (k m : Int) {l : List TM} {i : Nat} (h : i < l.length) (hy : hasT l[i] (m + bndR k i) = true) : hasL k 0 l m = true := by
  have h1 := hasL_app k m (l.take (i + 1)) (l.drop (i + 1)) 0
  rw [List.take_append_drop, hasL_take k m h, hy] at h1
  rw [h1]; simp

theorem looseL_take (k m : Int) {l : List TM} {i : Nat} (h : i < l.length) : looseL k 0 (l.take (i + 1)) m = max (looseL k 0 (l.take i) m) (max (looseT l[i] (m + bndR k i)) 0) := by
  rw [take_snocM h, looseL_snoc]
  have e : 0 + (l.take i).length = i := by simp; omega
  rw [e]

set_option maxHeartbeats 4000000 in
theorem refLoose_any : ∀ (t : TM) (m : Int) (lo hi : Nat) (A : Option Addr) (cap : Nat) (w : World), IsTerm w lo hi t A cap → hi ≤ w.heap.size → 0 ≤ m → m + t.depth ≤ 2000000 → tgoodB t = true →
    Calls Tryd.prog 45 #[termV t A cap, .int .i64 m] w fun e w' => e = .returned (.int .i64 (looseT t m)) ∧ Below w.heap.size w w' := by
  intro t
  induction t using TM.ind with
  | h k n l ih =>
    intro m lo hi A cap w h hhi hm0 hm1 hg
    have hgn := good_num hg
    rw [tgoodB_node, Bool.and_eq_true] at hg
    have HG := Lib.hid hg.2
    have hn0 : 0 ≤ n := hgn.1
    have hn1 : n ≤ 1048576 := hgn.2
    clear hg hgn
    obtain ⟨hl, hm⟩ := h.bounds
    rw [tdepth_node] at hm1
    have IH := Lib.hid ih
    have HN := Lib.hid h.sub
    unfold maxLen at hm
    obtain ⟨r, hr⟩ : ∃ r, looseT (.node k n l) m = r := ⟨_, rfl⟩
    rw [hr, termV_node]
    rw [looseT_node] at hr
    have HR := Lib.hid hr
    have HM1 := Lib.hid hm1
    clear ih h hr hm1
    by_cases hk : k = 1 ∧ m ≤ n
    · have e1 : (k == 1) = true := by rw [hk.1]; rfl
      have e2 : decide (m ≤ n) = true := decide_eq_true hk.2
      have HR2 : Hid (r = n - m + 1) := Lib.hid (by rw [← HR.out, if_pos hk])
      have hmn := hk.2
      clear hk IH HN
      go_enter Tryd.func45, Tryd.ntmps45
      go_wp2_with fail
      go_ret
      exact ⟨by rw [HR2.out]; rfl, (Below.refl _ _).alloc (Nat.le_refl _) _⟩
    · have HR2 : Hid (r = looseL k 0 l m) := Lib.hid (by rw [← HR.out, if_neg hk])
      have hdec : (k == 1) = false ∨ ((k == 1) = true ∧ decide (m ≤ n) = false) := by
        by_cases h1 : k = 1
        · exact .inr ⟨by rw [h1]; rfl, decide_eq_false (fun e => hk ⟨h1, e⟩)⟩
        · exact .inl (by rw [beq_eq_false_iff_ne]; exact h1)
      clear hk
      rcases hdec with e1 | ⟨e1, e2⟩
      · go_enter Tryd.func45, Tryd.ntmps45
        go_wp2_with fail
        go_loopw [5, 6] (fun nv iv wr => ∃ i : Nat, i ≤ l.length ∧ iv = .int .i64 i ∧ nv = .int .i64 (looseL k 0 (l.take i) m) ∧ Below w.heap.size w wr ∧ wr.cell? ⟨w.heap.size, 0, none⟩ = some (.int .i64 k) ∧ wr.cell? ⟨w.heap.size, 1, none⟩ = some (.int .i64 n) ∧ wr.cell? ⟨w.heap.size, 2, none⟩ = some (.slice A l.length cap) ∧ w.heap.size < wr.heap.size)
          (fun _ iv _ => l.length - (intOf iv).toNat)
        case atStart => exact ⟨0, Nat.zero_le _, rfl, by rw [List.take_zero, looseL_nil], (Below.refl _ _).alloc (Nat.le_refl _) _, by simp, by simp, by simp, by simp⟩
        case round =>
          obtain ⟨i, hi1, rfl, rfl, hB, z0, z1, z2, hlt⟩ := hrel
          have hz := hB.size
          by_cases hil : i < l.length
          · obtain ⟨b, o, F, C, hA, hb1, hb2, hx, hnode⟩ := (HN.out i hil).kept hB hhi
            subst hA
            obtain ⟨x0, x1, x2⟩ := hx
            have hb01 := bndR_01 k i
            have hdep : l[i].depth ≤ depthM l := by
              have h1 := depthM_append (l.take (i + 1)) (l.drop (i + 1))
              rw [List.take_append_drop, depthM_snoc hil] at h1
              omega
            have hIH := fun W h1 h2 => IH.out (l[i]'hil) (List.getElem_mem hil) (m + bndR k i) lo hi F C W h1 h2 (by omega) (by have := HM1.out; omega) (tgoodL_at HG.out hil)
            have hnx := looseL_take k m hil
            have hnn := looseL_nonneg k m (l.take i) 0
            have hvn := looseT_nonneg l[i] (m + bndR k i)
            obtain ⟨bb, hbb⟩ : ∃ bb, bndR k i = bb := ⟨_, rfl⟩
            obtain ⟨v, hv⟩ : ∃ v, looseT l[i] (m + bb) = v := ⟨_, rfl⟩
            rw [hbb] at hIH hnx hvn hb01
            rw [hv] at hIH hnx hvn
            obtain ⟨pp, hpp⟩ : ∃ pp, looseL k 0 (l.take i) m = pp := ⟨_, rfl⟩
            rw [hpp] at hnx hnn ⊢
            obtain ⟨u, hu⟩ : ∃ u, l[i] = u := ⟨_, rfl⟩
            rw [hu] at hIH hnode x0 x1 x2
            have HIH := Lib.hid hIH
            have HNX := Lib.hid hnx
            have HNO := Lib.hid (fun V (hV : Below wr.heap.size wr V) => hnode.kept hV (by omega))
            have HBN := Lib.hid (fun V => beneath_any k n (some ⟨b, o, none⟩) l.length cap i V)
            rw [hbb] at HBN
            have hW1 : IntKind.i64.wrap (m + bb) = m + bb := IntWalk.i64_in _ (by have := HM1.out; omega)
            have hi0' : (i : Int) < (l.length : Int) := by omega
            have hi00 : (0 : Int) ≤ (i : Int) := by omega
            have hbw : b < wr.heap.size := by omega
            have HB := Lib.hid hB
            have hbr := Lib.hid ((Below.refl wr.heap.size wr).drew)
            have HK6 := Lib.hid (fun (V : World) (hV : Below wr.heap.size wr V) => (show V.cell? ⟨w.heap.size, 0, none⟩ = some (.int .i64 k) ∧ V.cell? ⟨w.heap.size, 1, none⟩ = some (.int .i64 n) ∧ V.cell? ⟨w.heap.size, 2, none⟩ = some (.slice (some ⟨b, o, none⟩) l.length cap) ∧ V.cell? ⟨b, o + i * 3, none⟩ = some (.int .i64 u.k) ∧ V.cell? ⟨b, o + i * 3 + 1, none⟩ = some (.int .i64 u.n) ∧ V.cell? ⟨b, o + i * 3 + 2, none⟩ = some (.slice F u.l.length C) from
              ⟨(hV.cell (p := ⟨w.heap.size, 0, none⟩) hlt).trans z0, (hV.cell (p := ⟨w.heap.size, 1, none⟩) hlt).trans z1, (hV.cell (p := ⟨w.heap.size, 2, none⟩) hlt).trans z2, (hV.cell (p := ⟨b, o + i * 3, none⟩) hbw).trans x0, (hV.cell (p := ⟨b, o + i * 3 + 1, none⟩) hbw).trans x1, (hV.cell (p := ⟨b, o + i * 3 + 2, none⟩) hbw).trans x2⟩))
            clear hIH hnx hv hu hbb hpp hnode hB hdep hb01
            go_wp2_with fail
            go_region_held3 (fun w' => w'.cell? ⟨w.heap.size, 0, none⟩ = some (.int .i64 k) ∧ w'.cell? ⟨w.heap.size, 1, none⟩ = some (.int .i64 n) ∧ w'.cell? ⟨w.heap.size, 2, none⟩ = some (.slice (some ⟨b, o, none⟩) l.length cap) ∧ w'.cell? ⟨b, o + i * 3, none⟩ = some (.int .i64 u.k) ∧ w'.cell? ⟨b, o + i * 3 + 1, none⟩ = some (.int .i64 u.n) ∧ w'.cell? ⟨b, o + i * 3 + 2, none⟩ = some (.slice F u.l.length C))
              (first | go_keep | exact HK6.out _ hbr.out)
              (first
               | (go_at_call 63
                  refine (HBN.out _).mono ?_
                  rintro e wn ⟨rfl, hbn⟩
                  have hbr := Lib.hid (hbr.out.trans (hbn.mono hbr.out.size))
                  clear hbn)
               | (go_at_call 45
                  refine (HIH.out _ (HNO.out _ hbr.out) (by have := hbr.out.size; omega)).mono ?_
                  rintro e wn2 ⟨rfl, hbn⟩
                  have hbr := Lib.hid (hbr.out.trans (hbn.mono hbr.out.size))
                  clear hbn))
            all_goals
              have HB3 := Lib.hid (HB.out.trans (hbr.out.mono hz))
              obtain ⟨q0, q1, q2, _, _, _⟩ := HK6.out _ hbr.out
              have hlt3 := Nat.lt_of_lt_of_le hlt hbr.out.size
              clear z0 z1 z2 x0 x1 x2
              by_cases hpv : pp < v
              · go_wp2_with fail
                go_roundw
                case rel => exact ⟨i + 1, by omega, rfl, int_of (by rw [HNX.out]; omega), HB3.out, q0, q1, q2, hlt3⟩
                case measure => simp [intOf]; omega
              · go_wp2_with fail
                go_roundw
                case rel => exact ⟨i + 1, by omega, rfl, int_of (by rw [HNX.out]; omega), HB3.out, q0, q1, q2, hlt3⟩
                case measure => simp [intOf]; omega
          · obtain rfl : i = l.length := by omega
            rw [List.take_length]
            go_wp2_with fail
            go_ret
            exact ⟨by rw [HR2.out]; rfl, hB⟩
      · go_enter Tryd.func45, Tryd.ntmps45
        go_wp2_with fail
        go_loopw [5, 6] (fun nv iv wr => ∃ i : Nat, i ≤ l.length ∧ iv = .int .i64 i ∧ nv = .int .i64 (looseL k 0 (l.take i) m) ∧ Below w.heap.size w wr ∧ wr.cell? ⟨w.heap.size, 0, none⟩ = some (.int .i64 k) ∧ wr.cell? ⟨w.heap.size, 1, none⟩ = some (.int .i64 n) ∧ wr.cell? ⟨w.heap.size, 2, none⟩ = some (.slice A l.length cap) ∧ w.heap.size < wr.heap.size)
          (fun _ iv _ => l.length - (intOf iv).toNat)
        case atStart => exact ⟨0, Nat.zero_le _, rfl, by rw [List.take_zero, looseL_nil], (Below.refl _ _).alloc (Nat.le_refl _) _, by simp, by simp, by simp, by simp⟩
        case round =>
          obtain ⟨i, hi1, rfl, rfl, hB, z0, z1, z2, hlt⟩ := hrel
          have hz := hB.size
          by_cases hil : i < l.length
          · obtain ⟨b, o, F, C, hA, hb1, hb2, hx, hnode⟩ := (HN.out i hil).kept hB hhi
            subst hA
            obtain ⟨x0, x1, x2⟩ := hx
            have hb01 := bndR_01 k i
            have hdep : l[i].depth ≤ depthM l := by
              have h1 := depthM_append (l.take (i + 1)) (l.drop (i + 1))
              rw [List.take_append_drop, depthM_snoc hil] at h1
              omega
            have hIH := fun W h1 h2 => IH.out (l[i]'hil) (List.getElem_mem hil) (m + bndR k i) lo hi F C W h1 h2 (by omega) (by have := HM1.out; omega) (tgoodL_at HG.out hil)
            have hnx := looseL_take k m hil
            have hnn := looseL_nonneg k m (l.take i) 0
            have hvn := looseT_nonneg l[i] (m + bndR k i)
            obtain ⟨bb, hbb⟩ : ∃ bb, bndR k i = bb := ⟨_, rfl⟩
            obtain ⟨v, hv⟩ : ∃ v, looseT l[i] (m + bb) = v := ⟨_, rfl⟩
            rw [hbb] at hIH hnx hvn hb01
            rw [hv] at hIH hnx hvn
            obtain ⟨pp, hpp⟩ : ∃ pp, looseL k 0 (l.take i) m = pp := ⟨_, rfl⟩
            rw [hpp] at hnx hnn ⊢
            obtain ⟨u, hu⟩ : ∃ u, l[i] = u := ⟨_, rfl⟩
            rw [hu] at hIH hnode x0 x1 x2
            have HIH := Lib.hid hIH
            have HNX := Lib.hid hnx
            have HNO := Lib.hid (fun V (hV : Below wr.heap.size wr V) => hnode.kept hV (by omega))
            have HBN := Lib.hid (fun V => beneath_any k n (some ⟨b, o, none⟩) l.length cap i V)
            rw [hbb] at HBN
            have hW1 : IntKind.i64.wrap (m + bb) = m + bb := IntWalk.i64_in _ (by have := HM1.out; omega)
            have hi0' : (i : Int) < (l.length : Int) := by omega
            have hi00 : (0 : Int) ≤ (i : Int) := by omega
            have hbw : b < wr.heap.size := by omega
            have HB := Lib.hid hB
            have hbr := Lib.hid ((Below.refl wr.heap.size wr).drew)
            have HK6 := Lib.hid (fun (V : World) (hV : Below wr.heap.size wr V) => (show V.cell? ⟨w.heap.size, 0, none⟩ = some (.int .i64 k) ∧ V.cell? ⟨w.heap.size, 1, none⟩ = some (.int .i64 n) ∧ V.cell? ⟨w.heap.size, 2, none⟩ = some (.slice (some ⟨b, o, none⟩) l.length cap) ∧ V.cell? ⟨b, o + i * 3, none⟩ = some (.int .i64 u.k) ∧ V.cell? ⟨b, o + i * 3 + 1, none⟩ = some (.int .i64 u.n) ∧ V.cell? ⟨b, o + i * 3 + 2, none⟩ = some (.slice F u.l.length C) from
              ⟨(hV.cell (p := ⟨w.heap.size, 0, none⟩) hlt).trans z0, (hV.cell (p := ⟨w.heap.size, 1, none⟩) hlt).trans z1, (hV.cell (p := ⟨w.heap.size, 2, none⟩) hlt).trans z2, (hV.cell (p := ⟨b, o + i * 3, none⟩) hbw).trans x0, (hV.cell (p := ⟨b, o + i * 3 + 1, none⟩) hbw).trans x1, (hV.cell (p := ⟨b, o + i * 3 + 2, none⟩) hbw).trans x2⟩))
            clear hIH hnx hv hu hbb hpp hnode hB hdep hb01
            go_wp2_with fail
            go_region_held3 (fun w' => w'.cell? ⟨w.heap.size, 0, none⟩ = some (.int .i64 k) ∧ w'.cell? ⟨w.heap.size, 1, none⟩ = some (.int .i64 n) ∧ w'.cell? ⟨w.heap.size, 2, none⟩ = some (.slice (some ⟨b, o, none⟩) l.length cap) ∧ w'.cell? ⟨b, o + i * 3, none⟩ = some (.int .i64 u.k) ∧ w'.cell? ⟨b, o + i * 3 + 1, none⟩ = some (.int .i64 u.n) ∧ w'.cell? ⟨b, o + i * 3 + 2, none⟩ = some (.slice F u.l.length C))
              (first | go_keep | exact HK6.out _ hbr.out)
              (first
               | (go_at_call 63
                  refine (HBN.out _).mono ?_
                  rintro e wn ⟨rfl, hbn⟩
                  have hbr := Lib.hid (hbr.out.trans (hbn.mono hbr.out.size))
                  clear hbn)
               | (go_at_call 45
                  refine (HIH.out _ (HNO.out _ hbr.out) (by have := hbr.out.size; omega)).mono ?_
                  rintro e wn2 ⟨rfl, hbn⟩
                  have hbr := Lib.hid (hbr.out.trans (hbn.mono hbr.out.size))
                  clear hbn))
            all_goals
              have HB3 := Lib.hid (HB.out.trans (hbr.out.mono hz))
              obtain ⟨q0, q1, q2, _, _, _⟩ := HK6.out _ hbr.out
              have hlt3 := Nat.lt_of_lt_of_le hlt hbr.out.size
              clear z0 z1 z2 x0 x1 x2
              by_cases hpv : pp < v
              · go_wp2_with fail
                go_roundw
                case rel => exact ⟨i + 1, by omega, rfl, int_of (by rw [HNX.out]; omega), HB3.out, q0, q1, q2, hlt3⟩
                case measure => simp [intOf]; omega
              · go_wp2_with fail
                go_roundw
                case rel => exact ⟨i + 1, by omega, rfl, int_of (by rw [HNX.out]; omega), HB3.out, q0, q1, q2, hlt3⟩
                case measure => simp [intOf]; omega
          · obtain rfl : i = l.length := by omega
            rw [List.take_length]
            go_wp2_with fail
            go_ret
            exact ⟨by rw [HR2.out]; rfl, hB⟩

end Go.Proofs.YtofmoggjpgjdgaaDoor
