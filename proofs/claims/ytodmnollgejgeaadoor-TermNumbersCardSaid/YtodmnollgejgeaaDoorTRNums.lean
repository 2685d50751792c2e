/- scholiumref07.Numbers: the numbers of all nodes of two kinds, rising, each once. -/
import Derived.Test.YtodmnollgejgeaaDoorTPutW
namespace Go.Proofs.YtodmnollgejgeaaDoor
open Go.RowKit
set_option linter.unusedVariables false
set_option maxRecDepth 100000

theorem setL_congr {a b : List Int} (h : ∀ x, x ∈ a ↔ x ∈ b) : setL a = setL b := rising_one _ _ (setL_rising _) (setL_rising _) fun x => by rw [setL_mem, setL_mem]; exact h x
theorem setL_one (n : Int) : setL [n] = [n] := rising_one _ _ (setL_rising _) (List.pairwise_singleton _ _) fun x => setL_mem
theorem colLL_len (f : Int → Bool) : ∀ r : List TM, (colL f r).length ≤ sizeM r
  | [] => by rw [colL_nil]; simp
  | u :: r => by
    rw [colL_cons, sizeM_cons, List.length_append]
    have h1 := colL_len f u
    have h2 := colLL_len f r
    omega
def twoK (a b : Int) (k : Int) : Bool := (k == a) || (k == b)
def ownK (a b k n : Int) : List Int := if twoK a b k then [n] else []
theorem ownK_len (a b k n : Int) : (ownK a b k n).length ≤ 1 := by unfold ownK; split <;> simp

def NumOut (w : World) (a b k n : Int) (l : List TM) (A : Option Addr) (cap : Nat) (ov iv : Value) (wr : World) : Prop :=
  ∃ i : Nat, i ≤ l.length ∧ iv = .int .i64 i ∧ Below w.heap.size w wr ∧ wr.cell? ⟨w.heap.size, 2, none⟩ = some (.slice A l.length cap) ∧ w.heap.size < wr.heap.size ∧
    Hid (wr.ownsRow w.heap.size 3 1 ov (setL (ownK a b k n ++ colL (twoK a b) (l.take i))).length ((setL (ownK a b k n ++ colL (twoK a b) (l.take i))).map (Value.int .i64)))
def NumInn (w : World) (C q : List Int) (aq : Option Addr) (A : Option Addr) (ln cap : Nat) (ov kv : Value) (wr : World) : Prop :=
  ∃ j : Nat, j ≤ q.length ∧ kv = .int .i64 j ∧ Below w.heap.size w wr ∧ wr.cell? ⟨w.heap.size, 2, none⟩ = some (.slice A ln cap) ∧ w.heap.size < wr.heap.size ∧ Hid (RowAt wr aq q) ∧
    Hid (wr.ownsRow w.heap.size 3 1 ov (setL (C ++ q.take j)).length ((setL (C ++ q.take j)).map (Value.int .i64)))

set_option maxHeartbeats 4000000 in
theorem refNums_any (a b : Int) : ∀ (t : TM) (lo hi : Nat) (A : Option Addr) (cap : Nat) (w : World), IsTerm w lo hi t A cap → hi ≤ w.heap.size → t.size ≤ 8192 →
    Calls Tryd.prog 19 #[termV t A cap, .int .i64 a, .int .i64 b] w (NumsIs (setL (colT (twoK a b) t)) w) := by
  obtain ⟨i0, hi0, hz0, hz1, hz2⟩ := info_parts infoI
  intro t
  induction t using TM.ind with
  | h k n l ih =>
    intro lo hi A cap w h hhi hsz
    obtain ⟨hl, hm⟩ := h.bounds
    rw [tsize_node] at hsz
    have IH := Lib.hid ih
    have HN := Lib.hid h.sub
    have HSZ := Lib.hid hsz
    have hll := sizeM_len l
    have hl9 : (l.length : Int) ≤ 8192 := by omega
    unfold maxLen at hm
    rw [termV_node]
    have HRES : Hid (setL (colT (twoK a b) (.node k n l)) = setL (ownK a b k n ++ colL (twoK a b) l)) := Lib.hid (by rw [colT_node]; rfl)
    rw [HRES.out]
    clear ih h hsz hll HRES
    have HLOOP := Lib.hid (fun (ov : Value) (W : World) (hB : Below w.heap.size w W) (hc : W.cell? ⟨w.heap.size, 2, none⟩ = some (.slice A l.length cap)) (hlt : w.heap.size < W.heap.size) (ho : W.ownsRow w.heap.size 3 1 ov (ownK a b k n).length ((ownK a b k n).map (Value.int .i64))) =>
      (show NumOut w a b k n l A cap ov (.int .i64 (0 : Nat)) W from ⟨0, Nat.zero_le _, rfl, hB, hc, hlt, Lib.hid (by
        have e : setL (ownK a b k n ++ colL (twoK a b) (l.take 0)) = ownK a b k n := by
          rw [List.take_zero, colL_nil, List.append_nil]
          unfold ownK
          split
          · exact setL_one n
          · exact setL_nil
        rw [e]; exact ho)⟩))
    cases hk : twoK a b k with
    | false =>
      have hown : ownK a b k n = [] := by unfold ownK; rw [hk]; rfl
      have HOW0 := Lib.hid hown
      unfold twoK at hk
      obtain ⟨hk1, hk2⟩ : (k == a) = false ∧ (k == b) = false := by revert hk; cases (k == a) <;> cases (k == b) <;> simp
      clear hk hown
      go_enter Tryd.func19, Tryd.ntmps19
      go_wp2_with fail
      go_loopw [7, 8] (NumOut w a b k n l A cap) (fun _ iv _ => l.length - (intOf iv).toNat)
      case atStart =>
        refine HLOOP.out _ _ ?_ ?_ ?_ ?_
        · exact ((Below.refl _ _).alloc (Nat.le_refl _) _).alloc (by simp) _
        · simp
        · simp; omega
        rw [HOW0.out]
        have := World.ownsRow_lit (base := w.heap.size) (e := 3) (size := 1) (w.alloc (.cells #[.int .i64 k, .int .i64 n, .slice A l.length cap] 24)) #[] 0 (by simp) (by decide) rfl
        simpa using this
      case round =>
        obtain ⟨i, hi1, rfl, hB, y2, hlt, HO⟩ := hrel
        have hz := hB.size
        obtain ⟨ao, co, rfl⟩ := own_sliceM HO.out
        have hi9 : (i : Int) ≤ 8192 := by omega
        by_cases hil : i < l.length
        · obtain ⟨b', o', F, C', hA, hb1, hb2, hx, hnode⟩ := (HN.out i hil).kept hB hhi
          subst hA
          obtain ⟨x0, x1, x2⟩ := hx
          have hs1 := sizeM_snoc hil
          have hs2 := sizeM_take_le l (i + 1)
          have HIH := Lib.hid (IH.out l[i] (List.getElem_mem hil) lo hi F C' wr hnode (by omega) (by have := HSZ.out; omega))
          have hcol := colL_take (twoK a b) hil
          have hlen1 := colLL_len (twoK a b) (l.take (i + 1))
          obtain ⟨q, hq⟩ : ∃ q, setL (colT (twoK a b) l[i]) = q := ⟨_, rfl⟩
          obtain ⟨C, hC⟩ : ∃ C, ownK a b k n ++ colL (twoK a b) (l.take i) = C := ⟨_, rfl⟩
          have HNEXT : Hid (setL (ownK a b k n ++ colL (twoK a b) (l.take (i + 1))) = setL (C ++ q)) := Lib.hid (setL_congr fun x => by
            rw [hcol, ← hC, ← hq]
            simp only [List.mem_append, setL_mem, or_assoc])
          have HLEN : Hid (C.length + q.length ≤ 8192) := Lib.hid (by
            have h1 := ownK_len a b k n
            have h2 := setL_length_le (colT (twoK a b) l[i])
            rw [hcol, List.length_append] at hlen1
            rw [← hC, ← hq, List.length_append]
            have := HSZ.out
            omega)
          rw [hq] at HIH
          rw [hC] at HO ⊢
          have hil' : (i : Int) < (l.length : Int) := by omega
          have hi0' : (0 : Int) ≤ (i : Int) := by omega
          have hbw : b' < wr.heap.size := by omega
          have HB := Lib.hid hB
          obtain ⟨S, hS⟩ : ∃ S, (setL (C ++ q.take 0)).length = S := ⟨_, rfl⟩
          have e0 : setL C = setL (C ++ q.take 0) := by rw [List.take_zero, List.append_nil]
          rw [e0] at HO ⊢
          clear hs1 hs2 hcol hlen1 hq hC hB hnode hS e0
          go_wp2_with fail
          refine HIH.out.mono ?_
          rintro e w1 ⟨vq, rfl, hoq, hb1'⟩
          obtain ⟨aq, cq, rfl⟩ := own_sliceM hoq
          have hz1 := hb1'.size
          have HB1 := Lib.hid (HB.out.trans (hb1'.mono hz))
          have HQ1 := Lib.hid (RowAt.own hoq)
          have HO1 := Lib.hid (HO.out.kept (row := none) ⟨hb1'.os, hb1'.tape, hb1'.output, hb1'.size, fun k hk _ => hb1'.block k hk⟩ (by cases hv : (Value.slice ao (setL (C ++ List.take 0 q)).length co).ownBlock <;> simp))
          have hy1 := (hb1'.cell (p := ⟨w.heap.size, 2, none⟩) hlt).trans y2
          have hq9 : (q.length : Int) ≤ 8192 := by have := HLEN.out; omega
          have hlt1 := Nat.lt_of_lt_of_le hlt hz1
          have HY1 := Lib.hid hy1
          clear hb1' hoq y2 x0 x1 x2
          go_wp2_with fail
          rename World => wq
          go_loopw [7, 10] (NumInn w C q aq (some ⟨b', o', none⟩) l.length cap) (fun _ kv _ => q.length - (intOf kv).toNat)
          case atStart => exact ⟨0, Nat.zero_le _, rfl, HB1.out, HY1.out, hlt1, HQ1, Lib.hid (by have := HO1.out; rw [List.take_zero, List.append_nil] at this ⊢; exact this)⟩
          case round =>
            obtain ⟨j, hj1, rfl, hB2, z2, hlt2, HRQ, HO2⟩ := hrel
            obtain ⟨ap, cp, rfl⟩ := own_sliceM HO2.out
            have hj9 : (j : Int) ≤ 8192 := by omega
            by_cases hjl : j < q.length
            · obtain ⟨bq, hab, hbl, hints⟩ := HRQ.out (by omega)
              subst hab
              have hxj := hints j hjl
              rw [Nat.zero_add] at hxj
              have htk : q.take (j + 1) = q.take j ++ [q[j]] := by rw [List.take_succ_eq_append_getElem hjl]
              obtain ⟨x, hx⟩ : ∃ x, q[j] = x := ⟨_, rfl⟩
              rw [hx] at hxj htk
              have hlenC : (setL (C ++ q.take j)).length ≤ 8192 := by
                have h1 := setL_length_le (C ++ q.take j)
                rw [List.length_append, List.length_take] at h1
                have := HLEN.out
                omega
              have hput := put_any (setL (C ++ q.take j)) x ap cp wr hlenC (RowAt.own HO2.out)
              rw [putL_set] at hput
              have HPUT := Lib.hid hput
              have HNX : Hid (setL (C ++ q.take (j + 1)) = setL (C ++ q.take j ++ [x])) := Lib.hid (by rw [htk, List.append_assoc])
              have hjl' : (j : Int) < (q.length : Int) := by omega
              have hj0' : (0 : Int) ≤ (j : Int) := by omega
              have HB2 := Lib.hid hB2
              have HZ2 := Lib.hid z2
              obtain ⟨Sj, hSj⟩ : ∃ Sj, (setL (C ++ q.take j)).length = Sj := ⟨_, rfl⟩
              rw [hSj] at HPUT ⊢
              clear hints htk hx hlenC hput hB2 z2 hSj
              go_wp2_with fail
              refine HPUT.out.mono ?_
              rintro e w3 ⟨v3, rfl, ho3, hb3⟩
              have hz3 := hb3.size
              have HB3 := Lib.hid (HB2.out.trans (hb3.mono HB2.out.size))
              have HO3 := Lib.hid (ownsRow_base ho3 (base' := w.heap.size) HB2.out.size)
              have HRQ3 := Lib.hid (HRQ.out.kept hb3)
              have HZ3 := Lib.hid ((hb3.cell (p := ⟨w.heap.size, 2, none⟩) hlt2).trans HZ2.out)
              have hlt3 := Nat.lt_of_lt_of_le hlt2 hz3
              clear ho3 hb3
              go_wp2_with fail
              go_roundw
              case rel => exact ⟨j + 1, by omega, rfl, HB3.out, HZ3.out, hlt3, HRQ3, Lib.hid (by rw [HNX.out]; exact HO3.out)⟩
              case measure => simp [intOf]; omega
            · obtain rfl : j = q.length := by omega
              have HB2 := Lib.hid hB2
              have HZ2 := Lib.hid z2
              have HO4 := Lib.hid HO2.out
              rw [List.take_length] at HO4 ⊢
              clear hB2 z2 HO2
              go_wp2_with fail
              go_roundw
              case rel => exact ⟨i + 1, by omega, rfl, HB2.out, HZ2.out, hlt2, Lib.hid (by rw [HNEXT.out]; exact HO4.out)⟩
              case measure => simp [intOf]; omega
        · obtain rfl : i = l.length := by omega
          rw [List.take_length] at HO ⊢
          go_wp2_with fail
          go_ret
          exact ⟨_, rfl, HO.out, hB⟩
    | true =>
      have hown : ownK a b k n = [n] := by unfold ownK; rw [hk]; rfl
      have HOW0 := Lib.hid hown
      unfold twoK at hk
      have hkk : ((k == a) = true) ∨ ((k == a) = false ∧ (k == b) = true) := by revert hk; cases (k == a) <;> cases (k == b) <;> simp
      clear hk hown
      rcases hkk with hk1 | ⟨hk1, hk2⟩
      · go_enter Tryd.func19, Tryd.ntmps19
        have HOWN0 := Lib.hid (show ((w.alloc (.cells #[.int .i64 k, .int .i64 n, .slice A l.length cap] 24)).alloc (.cells #[] 3)).ownsRow w.heap.size 3 1 (.slice (some ⟨w.heap.size + 1, 0, none⟩) 0 0) 0 [] from by
          have := World.ownsRow_lit (base := w.heap.size) (e := 3) (size := 1) (w.alloc (.cells #[.int .i64 k, .int .i64 n, .slice A l.length cap] 24)) #[] 0 (by simp) (by decide) rfl
          simpa using this)
        have HOWN1 := Lib.hid (fun (o1 : Obj) => HOWN0.out.kept (w' := ((w.alloc (.cells #[.int .i64 k, .int .i64 n, .slice A l.length cap] 24)).alloc (.cells #[] 3)).alloc o1) (row := none) ⟨rfl, rfl, rfl, by simp, fun k hk _ => Below.heap_alloc _ _ _ hk⟩ (.inr (by simp [Value.ownBlock])))
        go_wp2_with (at_builtin; refine wpList_app rfl _ _ 26 rfl w.heap.size 3 i0 (.int .i64 0) 1 8 Tryd.underlying26 hi0 hz0 hz1 hz2 rfl (by decide) _ _ _ rfl (HOWN1.out _) (some ⟨w.heap.size + 1 + 1, 0, none⟩) 1 1 [.int .i64 n] rfl (src_at _ _ _ (by simp) rfl) (by simp [Value.oneCell']) ?c3 ?c4 ?c5 ?_)
        case c3 => unfold maxLen; omega
        case c4 => omega
        case c5 => simp; omega
        rintro v2 w3 ⟨hown3, hg3, ho3⟩
        obtain ⟨a2, c2, rfl⟩ := own_sliceM hown3
        have hz3 := hg3.size
        simp at hz3
        have HB3 := Lib.hid (((((Below.refl w.heap.size w).alloc (Nat.le_refl _) (.cells #[.int .i64 k, .int .i64 n, .slice A l.length cap] 24)).alloc (by simp) (.cells #[] 3)).alloc (by simp; omega) _).grown hg3 (by simp; omega) (fun k hk => by have h9 : w.heap.size + 1 = k := (by simpa [Value.ownBlock] using hk); omega))
        have b3 : Bk w3 w.heap.size 24 #[.int .i64 k, .int .i64 n, .slice A l.length cap] := (((Bk.new w 24 _).alloc _).alloc _).grown hg3 (by simp [Value.ownBlock])
        have HY3 := Lib.hid (show w3.cell? ⟨w.heap.size, 2, none⟩ = some (.slice A l.length cap) from b3.cell 2)
        have HOWN3 := Lib.hid hown3
        have hl3 : w.heap.size < w3.heap.size := by omega
        clear b3 hown3 hg3 ho3
        go_wp2_with fail
        go_loopw [7, 8] (NumOut w a b k n l A cap) (fun _ iv _ => l.length - (intOf iv).toNat)
        case atStart =>
          refine HLOOP.out _ _ HB3.out HY3.out hl3 ?_
          rw [HOW0.out]
          exact HOWN3.out
        case round =>
          obtain ⟨i, hi1, rfl, hB, y2, hlt, HO⟩ := hrel
          have hz := hB.size
          obtain ⟨ao, co, rfl⟩ := own_sliceM HO.out
          have hi9 : (i : Int) ≤ 8192 := by omega
          by_cases hil : i < l.length
          · obtain ⟨b', o', F, C', hA, hb1, hb2, hx, hnode⟩ := (HN.out i hil).kept hB hhi
            subst hA
            obtain ⟨x0, x1, x2⟩ := hx
            have hs1 := sizeM_snoc hil
            have hs2 := sizeM_take_le l (i + 1)
            have HIH := Lib.hid (IH.out l[i] (List.getElem_mem hil) lo hi F C' wr hnode (by omega) (by have := HSZ.out; omega))
            have hcol := colL_take (twoK a b) hil
            have hlen1 := colLL_len (twoK a b) (l.take (i + 1))
            obtain ⟨q, hq⟩ : ∃ q, setL (colT (twoK a b) l[i]) = q := ⟨_, rfl⟩
            obtain ⟨C, hC⟩ : ∃ C, ownK a b k n ++ colL (twoK a b) (l.take i) = C := ⟨_, rfl⟩
            have HNEXT : Hid (setL (ownK a b k n ++ colL (twoK a b) (l.take (i + 1))) = setL (C ++ q)) := Lib.hid (setL_congr fun x => by
              rw [hcol, ← hC, ← hq]
              simp only [List.mem_append, setL_mem, or_assoc])
            have HLEN : Hid (C.length + q.length ≤ 8192) := Lib.hid (by
              have h1 := ownK_len a b k n
              have h2 := setL_length_le (colT (twoK a b) l[i])
              rw [hcol, List.length_append] at hlen1
              rw [← hC, ← hq, List.length_append]
              have := HSZ.out
              omega)
            rw [hq] at HIH
            rw [hC] at HO ⊢
            have hil' : (i : Int) < (l.length : Int) := by omega
            have hi0' : (0 : Int) ≤ (i : Int) := by omega
            have hbw : b' < wr.heap.size := by omega
            have HB := Lib.hid hB
            obtain ⟨S, hS⟩ : ∃ S, (setL (C ++ q.take 0)).length = S := ⟨_, rfl⟩
            have e0 : setL C = setL (C ++ q.take 0) := by rw [List.take_zero, List.append_nil]
            rw [e0] at HO ⊢
            clear hs1 hs2 hcol hlen1 hq hC hB hnode hS e0
            go_wp2_with fail
            refine HIH.out.mono ?_
            rintro e w1 ⟨vq, rfl, hoq, hb1'⟩
            obtain ⟨aq, cq, rfl⟩ := own_sliceM hoq
            have hz1 := hb1'.size
            have HB1 := Lib.hid (HB.out.trans (hb1'.mono hz))
            have HQ1 := Lib.hid (RowAt.own hoq)
            have HO1 := Lib.hid (HO.out.kept (row := none) ⟨hb1'.os, hb1'.tape, hb1'.output, hb1'.size, fun k hk _ => hb1'.block k hk⟩ (by cases hv : (Value.slice ao (setL (C ++ List.take 0 q)).length co).ownBlock <;> simp))
            have hy1 := (hb1'.cell (p := ⟨w.heap.size, 2, none⟩) hlt).trans y2
            have hq9 : (q.length : Int) ≤ 8192 := by have := HLEN.out; omega
            have hlt1 := Nat.lt_of_lt_of_le hlt hz1
            have HY1 := Lib.hid hy1
            clear hb1' hoq y2 x0 x1 x2
            go_wp2_with fail
            rename World => wq
            go_loopw [7, 10] (NumInn w C q aq (some ⟨b', o', none⟩) l.length cap) (fun _ kv _ => q.length - (intOf kv).toNat)
            case atStart => exact ⟨0, Nat.zero_le _, rfl, HB1.out, HY1.out, hlt1, HQ1, Lib.hid (by have := HO1.out; rw [List.take_zero, List.append_nil] at this ⊢; exact this)⟩
            case round =>
              obtain ⟨j, hj1, rfl, hB2, z2, hlt2, HRQ, HO2⟩ := hrel
              obtain ⟨ap, cp, rfl⟩ := own_sliceM HO2.out
              have hj9 : (j : Int) ≤ 8192 := by omega
              by_cases hjl : j < q.length
              · obtain ⟨bq, hab, hbl, hints⟩ := HRQ.out (by omega)
                subst hab
                have hxj := hints j hjl
                rw [Nat.zero_add] at hxj
                have htk : q.take (j + 1) = q.take j ++ [q[j]] := by rw [List.take_succ_eq_append_getElem hjl]
                obtain ⟨x, hx⟩ : ∃ x, q[j] = x := ⟨_, rfl⟩
                rw [hx] at hxj htk
                have hlenC : (setL (C ++ q.take j)).length ≤ 8192 := by
                  have h1 := setL_length_le (C ++ q.take j)
                  rw [List.length_append, List.length_take] at h1
                  have := HLEN.out
                  omega
                have hput := put_any (setL (C ++ q.take j)) x ap cp wr hlenC (RowAt.own HO2.out)
                rw [putL_set] at hput
                have HPUT := Lib.hid hput
                have HNX : Hid (setL (C ++ q.take (j + 1)) = setL (C ++ q.take j ++ [x])) := Lib.hid (by rw [htk, List.append_assoc])
                have hjl' : (j : Int) < (q.length : Int) := by omega
                have hj0' : (0 : Int) ≤ (j : Int) := by omega
                have HB2 := Lib.hid hB2
                have HZ2 := Lib.hid z2
                obtain ⟨Sj, hSj⟩ : ∃ Sj, (setL (C ++ q.take j)).length = Sj := ⟨_, rfl⟩
                rw [hSj] at HPUT ⊢
                clear hints htk hx hlenC hput hB2 z2 hSj
                go_wp2_with fail
                refine HPUT.out.mono ?_
                rintro e w3 ⟨v3, rfl, ho3, hb3⟩
                have hz3 := hb3.size
                have HB3 := Lib.hid (HB2.out.trans (hb3.mono HB2.out.size))
                have HO3 := Lib.hid (ownsRow_base ho3 (base' := w.heap.size) HB2.out.size)
                have HRQ3 := Lib.hid (HRQ.out.kept hb3)
                have HZ3 := Lib.hid ((hb3.cell (p := ⟨w.heap.size, 2, none⟩) hlt2).trans HZ2.out)
                have hlt3 := Nat.lt_of_lt_of_le hlt2 hz3
                clear ho3 hb3
                go_wp2_with fail
                go_roundw
                case rel => exact ⟨j + 1, by omega, rfl, HB3.out, HZ3.out, hlt3, HRQ3, Lib.hid (by rw [HNX.out]; exact HO3.out)⟩
                case measure => simp [intOf]; omega
              · obtain rfl : j = q.length := by omega
                have HB2 := Lib.hid hB2
                have HZ2 := Lib.hid z2
                have HO4 := Lib.hid HO2.out
                rw [List.take_length] at HO4 ⊢
                clear hB2 z2 HO2
                go_wp2_with fail
                go_roundw
                case rel => exact ⟨i + 1, by omega, rfl, HB2.out, HZ2.out, hlt2, Lib.hid (by rw [HNEXT.out]; exact HO4.out)⟩
                case measure => simp [intOf]; omega
          · obtain rfl : i = l.length := by omega
            rw [List.take_length] at HO ⊢
            go_wp2_with fail
            go_ret
            exact ⟨_, rfl, HO.out, hB⟩
      · go_enter Tryd.func19, Tryd.ntmps19
        have HOWN0 := Lib.hid (show ((w.alloc (.cells #[.int .i64 k, .int .i64 n, .slice A l.length cap] 24)).alloc (.cells #[] 3)).ownsRow w.heap.size 3 1 (.slice (some ⟨w.heap.size + 1, 0, none⟩) 0 0) 0 [] from by
          have := World.ownsRow_lit (base := w.heap.size) (e := 3) (size := 1) (w.alloc (.cells #[.int .i64 k, .int .i64 n, .slice A l.length cap] 24)) #[] 0 (by simp) (by decide) rfl
          simpa using this)
        have HOWN1 := Lib.hid (fun (o1 : Obj) => HOWN0.out.kept (w' := ((w.alloc (.cells #[.int .i64 k, .int .i64 n, .slice A l.length cap] 24)).alloc (.cells #[] 3)).alloc o1) (row := none) ⟨rfl, rfl, rfl, by simp, fun k hk _ => Below.heap_alloc _ _ _ hk⟩ (.inr (by simp [Value.ownBlock])))
        go_wp2_with (at_builtin; refine wpList_app rfl _ _ 26 rfl w.heap.size 3 i0 (.int .i64 0) 1 8 Tryd.underlying26 hi0 hz0 hz1 hz2 rfl (by decide) _ _ _ rfl (HOWN1.out _) (some ⟨w.heap.size + 1 + 1, 0, none⟩) 1 1 [.int .i64 n] rfl (src_at _ _ _ (by simp) rfl) (by simp [Value.oneCell']) ?c3 ?c4 ?c5 ?_)
        case c3 => unfold maxLen; omega
        case c4 => omega
        case c5 => simp; omega
        rintro v2 w3 ⟨hown3, hg3, ho3⟩
        obtain ⟨a2, c2, rfl⟩ := own_sliceM hown3
        have hz3 := hg3.size
        simp at hz3
        have HB3 := Lib.hid (((((Below.refl w.heap.size w).alloc (Nat.le_refl _) (.cells #[.int .i64 k, .int .i64 n, .slice A l.length cap] 24)).alloc (by simp) (.cells #[] 3)).alloc (by simp; omega) _).grown hg3 (by simp; omega) (fun k hk => by have h9 : w.heap.size + 1 = k := (by simpa [Value.ownBlock] using hk); omega))
        have b3 : Bk w3 w.heap.size 24 #[.int .i64 k, .int .i64 n, .slice A l.length cap] := (((Bk.new w 24 _).alloc _).alloc _).grown hg3 (by simp [Value.ownBlock])
        have HY3 := Lib.hid (show w3.cell? ⟨w.heap.size, 2, none⟩ = some (.slice A l.length cap) from b3.cell 2)
        have HOWN3 := Lib.hid hown3
        have hl3 : w.heap.size < w3.heap.size := by omega
        clear b3 hown3 hg3 ho3
        go_wp2_with fail
        go_loopw [7, 8] (NumOut w a b k n l A cap) (fun _ iv _ => l.length - (intOf iv).toNat)
        case atStart =>
          refine HLOOP.out _ _ HB3.out HY3.out hl3 ?_
          rw [HOW0.out]
          exact HOWN3.out
        case round =>
          obtain ⟨i, hi1, rfl, hB, y2, hlt, HO⟩ := hrel
          have hz := hB.size
          obtain ⟨ao, co, rfl⟩ := own_sliceM HO.out
          have hi9 : (i : Int) ≤ 8192 := by omega
          by_cases hil : i < l.length
          · obtain ⟨b', o', F, C', hA, hb1, hb2, hx, hnode⟩ := (HN.out i hil).kept hB hhi
            subst hA
            obtain ⟨x0, x1, x2⟩ := hx
            have hs1 := sizeM_snoc hil
            have hs2 := sizeM_take_le l (i + 1)
            have HIH := Lib.hid (IH.out l[i] (List.getElem_mem hil) lo hi F C' wr hnode (by omega) (by have := HSZ.out; omega))
            have hcol := colL_take (twoK a b) hil
            have hlen1 := colLL_len (twoK a b) (l.take (i + 1))
            obtain ⟨q, hq⟩ : ∃ q, setL (colT (twoK a b) l[i]) = q := ⟨_, rfl⟩
            obtain ⟨C, hC⟩ : ∃ C, ownK a b k n ++ colL (twoK a b) (l.take i) = C := ⟨_, rfl⟩
            have HNEXT : Hid (setL (ownK a b k n ++ colL (twoK a b) (l.take (i + 1))) = setL (C ++ q)) := Lib.hid (setL_congr fun x => by
              rw [hcol, ← hC, ← hq]
              simp only [List.mem_append, setL_mem, or_assoc])
            have HLEN : Hid (C.length + q.length ≤ 8192) := Lib.hid (by
              have h1 := ownK_len a b k n
              have h2 := setL_length_le (colT (twoK a b) l[i])
              rw [hcol, List.length_append] at hlen1
              rw [← hC, ← hq, List.length_append]
              have := HSZ.out
              omega)
            rw [hq] at HIH
            rw [hC] at HO ⊢
            have hil' : (i : Int) < (l.length : Int) := by omega
            have hi0' : (0 : Int) ≤ (i : Int) := by omega
            have hbw : b' < wr.heap.size := by omega
            have HB := Lib.hid hB
            obtain ⟨S, hS⟩ : ∃ S, (setL (C ++ q.take 0)).length = S := ⟨_, rfl⟩
            have e0 : setL C = setL (C ++ q.take 0) := by rw [List.take_zero, List.append_nil]
            rw [e0] at HO ⊢
            clear hs1 hs2 hcol hlen1 hq hC hB hnode hS e0
            go_wp2_with fail
            refine HIH.out.mono ?_
            rintro e w1 ⟨vq, rfl, hoq, hb1'⟩
            obtain ⟨aq, cq, rfl⟩ := own_sliceM hoq
            have hz1 := hb1'.size
            have HB1 := Lib.hid (HB.out.trans (hb1'.mono hz))
            have HQ1 := Lib.hid (RowAt.own hoq)
            have HO1 := Lib.hid (HO.out.kept (row := none) ⟨hb1'.os, hb1'.tape, hb1'.output, hb1'.size, fun k hk _ => hb1'.block k hk⟩ (by cases hv : (Value.slice ao (setL (C ++ List.take 0 q)).length co).ownBlock <;> simp))
            have hy1 := (hb1'.cell (p := ⟨w.heap.size, 2, none⟩) hlt).trans y2
            have hq9 : (q.length : Int) ≤ 8192 := by have := HLEN.out; omega
            have hlt1 := Nat.lt_of_lt_of_le hlt hz1
            have HY1 := Lib.hid hy1
            clear hb1' hoq y2 x0 x1 x2
            go_wp2_with fail
            rename World => wq
            go_loopw [7, 10] (NumInn w C q aq (some ⟨b', o', none⟩) l.length cap) (fun _ kv _ => q.length - (intOf kv).toNat)
            case atStart => exact ⟨0, Nat.zero_le _, rfl, HB1.out, HY1.out, hlt1, HQ1, Lib.hid (by have := HO1.out; rw [List.take_zero, List.append_nil] at this ⊢; exact this)⟩
            case round =>
              obtain ⟨j, hj1, rfl, hB2, z2, hlt2, HRQ, HO2⟩ := hrel
              obtain ⟨ap, cp, rfl⟩ := own_sliceM HO2.out
              have hj9 : (j : Int) ≤ 8192 := by omega
              by_cases hjl : j < q.length
              · obtain ⟨bq, hab, hbl, hints⟩ := HRQ.out (by omega)
                subst hab
                have hxj := hints j hjl
                rw [Nat.zero_add] at hxj
                have htk : q.take (j + 1) = q.take j ++ [q[j]] := by rw [List.take_succ_eq_append_getElem hjl]
                obtain ⟨x, hx⟩ : ∃ x, q[j] = x := ⟨_, rfl⟩
                rw [hx] at hxj htk
                have hlenC : (setL (C ++ q.take j)).length ≤ 8192 := by
                  have h1 := setL_length_le (C ++ q.take j)
                  rw [List.length_append, List.length_take] at h1
                  have := HLEN.out
                  omega
                have hput := put_any (setL (C ++ q.take j)) x ap cp wr hlenC (RowAt.own HO2.out)
                rw [putL_set] at hput
                have HPUT := Lib.hid hput
                have HNX : Hid (setL (C ++ q.take (j + 1)) = setL (C ++ q.take j ++ [x])) := Lib.hid (by rw [htk, List.append_assoc])
                have hjl' : (j : Int) < (q.length : Int) := by omega
                have hj0' : (0 : Int) ≤ (j : Int) := by omega
                have HB2 := Lib.hid hB2
                have HZ2 := Lib.hid z2
                obtain ⟨Sj, hSj⟩ : ∃ Sj, (setL (C ++ q.take j)).length = Sj := ⟨_, rfl⟩
                rw [hSj] at HPUT ⊢
                clear hints htk hx hlenC hput hB2 z2 hSj
                go_wp2_with fail
                refine HPUT.out.mono ?_
                rintro e w3 ⟨v3, rfl, ho3, hb3⟩
                have hz3 := hb3.size
                have HB3 := Lib.hid (HB2.out.trans (hb3.mono HB2.out.size))
                have HO3 := Lib.hid (ownsRow_base ho3 (base' := w.heap.size) HB2.out.size)
                have HRQ3 := Lib.hid (HRQ.out.kept hb3)
                have HZ3 := Lib.hid ((hb3.cell (p := ⟨w.heap.size, 2, none⟩) hlt2).trans HZ2.out)
                have hlt3 := Nat.lt_of_lt_of_le hlt2 hz3
                clear ho3 hb3
                go_wp2_with fail
                go_roundw
                case rel => exact ⟨j + 1, by omega, rfl, HB3.out, HZ3.out, hlt3, HRQ3, Lib.hid (by rw [HNX.out]; exact HO3.out)⟩
                case measure => simp [intOf]; omega
              · obtain rfl : j = q.length := by omega
                have HB2 := Lib.hid hB2
                have HZ2 := Lib.hid z2
                have HO4 := Lib.hid HO2.out
                rw [List.take_length] at HO4 ⊢
                clear hB2 z2 HO2
                go_wp2_with fail
                go_roundw
                case rel => exact ⟨i + 1, by omega, rfl, HB2.out, HZ2.out, hlt2, Lib.hid (by rw [HNEXT.out]; exact HO4.out)⟩
                case measure => simp [intOf]; omega
          · obtain rfl : i = l.length := by omega
            rw [List.take_length] at HO ⊢
            go_wp2_with fail
            go_ret
            exact ⟨_, rfl, HO.out, hB⟩

end Go.Proofs.YtodmnollgejgeaaDoor
