/- The walk of the law ParseBlanks. -/
import Derived.Test.YtkccjfbgepmfkaaAw5
import Derived.Test.YtkccjfbgepmfkaaC9
namespace Go.Proofs.Ytkccjfbgepmfkaa
open Go.RowKit
set_option linter.unusedVariables false
set_option maxRecDepth 100000

theorem bytesL_app2 (u x : ByteArray) : bytesL (u ++ x) = bytesL u ++ bytesL x := by
  unfold bytesL
  simp
theorem txB_app (a b : List Tk) : txB (a ++ b) = txB a ++ txB b := by unfold txB; rw [List.flatMap_append]
theorem txB_take {L : List Tk} {i : Nat} (h : i < L.length) : txB (L.take (i + 1)) = txB (L.take i) ++ (bytesL (tk L i).2.1 ++ gapB) := by
  rw [List.take_succ_eq_append_getElem h, txB_app]
  congr 1
  have : tk L i = L[i] := by unfold tk; rw [List.getD_eq_getElem?_getD, List.getElem?_eq_getElem h]; rfl
  rw [this]
  unfold txB
  rw [List.flatMap_cons, List.flatMap_nil, List.append_nil]
theorem txB_end (l : List Tk) (n : Nat) : txB (withEnd l n) = txB l ++ gapB := by
  unfold withEnd
  rw [txB_app]
  rfl

theorem decls_kept {w w' : World} {lo hi B : Nat} {A : Option Addr} {l : List DT} (h : DeclsAt w lo hi A l) (hb : Below B w w') (hB : hi ≤ B) : DeclsAt w' lo hi A l := by
  intro i hi'
  obtain ⟨b, o, p, hA, h1, h2, h3, h4⟩ := h i hi'
  exact ⟨b, o, p, hA, h1, h2, fun r hr => (hb.cell (p := ⟨b, o + i * 11 + r, none⟩) (by show b < B; omega)).trans (h3 r hr), h4.kept hb hB⟩

set_option maxHeartbeats 4000000 in
theorem blanks_good (s : ByteArray) (ns : List Int) (stop : Nat) (l : List Tk) (w : World) (hs : s.size ≤ 2000) (hp : Parse (bytesL s) ns []) (hx : Lex s (skipL (bytesL s)) 0 l stop 0) :
    Calls Try.prog 3 #[.string s] w fun e w' => e = .returned (.bool true) ∧ Below w.heap.size w w' := by
  have hd : decide ((2000 : Int) < (s.size : Int)) = false := decide_eq_false (by omega)
  have HALL := Lib.hid (tokAll_any s ns w l stop 0 (by omega) hp hx)
  have hstop : stop = s.size := by rcases lex_err hx with ⟨_, h⟩ | h | h <;> first | exact h | cases h
  have HX := Lib.hid hx
  have HS := Lib.hid hs
  have HP := Lib.hid hp
  clear hp hx
  go_enter Try.func3, Try.ntmps3
  go_wp2_with fail
  refine HALL.out.mono ?_; rintro e w1 ⟨v, rfl, hall, hb1⟩
  obtain ⟨g, cap, rfl, hg, htk⟩ := toks_of (by have := HS.out; omega) HX.out hall
  clear hall HALL
  obtain ⟨L, hL⟩ : ∃ L, withEnd l s.size = L := ⟨_, rfl⟩
  rw [hL] at htk
  have hLl : L.length = l.length + 1 := by rw [← hL, withEnd_length]
  have HT := Lib.hid htk
  have HLL := Lib.hid hLl
  have HLE := Lib.hid hL
  have hfew := htk.few
  have hle := htk.le
  have hmx := htk.mx
  unfold maxLen at hmx
  have hs1 := hb1.size
  rw [hLl] at hfew hle
  clear htk hLl hL
  go_wp2_with fail
  go_loopw [6, 7] (fun v q wr => ∃ (i : Nat) (u : ByteArray), v = .string u ∧ q = .int .i64 i ∧ i ≤ l.length + 1 ∧ Hid (bytesL u = firstB ++ txB (L.take i)) ∧ u.size ≤ 11 + 70000 * i ∧ Hid (Below w1.heap.size w1 wr))
    (fun _ q _ => l.length + 1 - (intOf q).toNat)
  case atStart => exact ⟨0, _, rfl, rfl, Nat.zero_le _, Lib.hid rfl, by decide, Lib.hid (Below.refl _ _)⟩
  case round =>
    obtain ⟨i, u, rfl, rfl, hi, HU, hus, HB⟩ := hrel
    by_cases hlt : i < l.length + 1
    · have hd2 : decide ((i : Int) < (↑(l.length + 1) : Int)) = true := decide_eq_true (by omega)
      obtain ⟨-, hc, -⟩ := HT.out.cell i (by rw [HLL.out]; omega)
      have hc := (HB.out.cell (p := ⟨g, i * 3 + 1, none⟩) HT.out.lt).trans hc
      obtain ⟨x, hxx⟩ : ∃ x, (tk L i).2.1 = x := ⟨_, rfl⟩
      rw [hxx] at hc
      have hxs : x.size ≤ 65537 := by
        rw [← hxx]
        by_cases hil : i < l.length
        · rw [← HLE.out, withEnd_at hil]
          exact ((lex_toks (by have := HS.out; omega) HX.out).1 _ (List.getElem_mem hil)).2
        · have : i = l.length := by omega
          subst this
          rw [← HLE.out, withEnd_last]
          show 0 ≤ 65537
          omega
      have HU2 : Hid (bytesL (u ++ x ++ ⟨#[32, 45, 45, 32, 40, 10, 9]⟩) = firstB ++ txB (L.take (i + 1))) := Lib.hid (by
        rw [txB_take (by rw [HLL.out]; exact hlt), bytesL_app2, bytesL_app2, HU.out, hxx, List.append_assoc, List.append_assoc]
        rfl)
      have hus2 : (u ++ x ++ ⟨#[32, 45, 45, 32, 40, 10, 9]⟩ : ByteArray).size ≤ 11 + 70000 * (i + 1) := by
        rw [ByteArray.size_append, ByteArray.size_append]
        show u.size + x.size + 7 ≤ _
        omega
      clear hxx HU
      go_wp2_with fail
      refine ⟨⟨i + 1, _, rfl, rfl, hlt, HU2, hus2, HB⟩, ?_⟩
      show l.length + 1 - (i + 1 : Int).toNat < l.length + 1 - (i : Int).toNat
      omega
    · obtain rfl : i = l.length + 1 := by omega
      have hd2 : decide ((↑(l.length + 1) : Int) < (↑(l.length + 1) : Int)) = false := decide_eq_false (by omega)
      have HUE : Hid (bytesL u = firstB ++ (txB l ++ gapB)) := Lib.hid (by
        have := HU.out
        rw [List.take_of_length_le (by rw [HLL.out]; exact Nat.le_refl _), ← HLE.out, txB_end] at this
        exact this)
      obtain ⟨la, lb, za, zb, HA, HBB, hze, hlen, hsame⟩ := built_files HS.out HP.out HX.out HUE.out
      have HA := Lib.hid HA
      have HBB := Lib.hid HBB
      have HSM := Lib.hid hsame
      have HAW := Lib.hid (fun V => awake5_any V)
      go_wp2_with fail
      by_cases h0 : za.e = 0
      · refine (HA.out _).mono ?_; rintro e w2 ⟨hb2, hok, -⟩
        obtain ⟨A, c, rfl, hl1, hc1, hda⟩ := hok h0
        clear hok
        go_wp2_with fail
        refine (HBB.out _).mono ?_; rintro e w3 ⟨hb3, hok2, -⟩
        obtain ⟨B, c2, rfl, hl2, hc2, hdb⟩ := hok2 (by rw [← hze]; exact h0)
        clear hok2
        go_wp2_with fail
        have HDA : Hid (DeclsAt w3 wr.heap.size w2.heap.size A la) := Lib.hid (decls_kept hda hb3 (Nat.le_refl _))
        have HDB := Lib.hid hdb
        have HSM2 := Lib.hid (HSM.out h0)
        have HB3 : Hid (Below w.heap.size w w3) := Lib.hid ((hb1.trans (HB.out.mono hs1)).trans ((hb2.mono (Nat.le_trans hs1 HB.out.size)).trans (hb3.mono (Nat.le_trans (Nat.le_trans hs1 HB.out.size) hb2.size))))
        have hs23 := hb3.size
        unfold maxLen at hc1 hc2
        clear hda hdb HA HBB HSM hb1 hb2 hb3
        go_loopw [14] (fun q wr2 => ∃ i : Nat, q = .int .i64 i ∧ i ≤ la.length ∧ Hid (Below w3.heap.size w3 wr2))
          (fun q _ => la.length - (intOf q).toNat)
        case atStart => exact ⟨0, rfl, Nat.zero_le _, Lib.hid (Below.refl _ _)⟩
        case round =>
          obtain ⟨i, rfl, hi, HB4⟩ := hrel
          have hs34 := HB4.out.size
          by_cases hlt : i < la.length
          · have hd2 : decide ((i : Int) < (la.length : Int)) = true := decide_eq_true (by omega)
            have hlt' : i < lb.length := by omega
            obtain ⟨b, o, P, hA, -, hb, hca, hDa⟩ := HDA.out i hlt
            obtain ⟨b2, o2, R, hA2, -, hb2, hcb, hDb⟩ := HDB.out i hlt'
            subst hA
            subst hA2
            have hsm := HSM2.out i hlt hlt'
            obtain ⟨x, hx⟩ : ∃ x, la[i] = x := ⟨_, rfl⟩
            obtain ⟨y, hy⟩ : ∃ y, lb[i] = y := ⟨_, rfl⟩
            rw [hx] at hsm hca hDa
            rw [hy] at hsm hcb hDb
            have hbw : b < w3.heap.size := by omega
            have hcw : b2 < w3.heap.size := by omega
            have hbw' : b < wr.heap.size := by omega
            have hcw' : b2 < wr.heap.size := by omega
            have x0 : wr.cell? ⟨b, o + i * 11, none⟩ = some (.int .i64 x.k) := (HB4.out.cell (p := ⟨b, o + i * 11, none⟩) hbw).trans (hca 0 (by decide))
            have x1 : wr.cell? ⟨b, o + i * 11 + 1, none⟩ = some (.int .i64 x.a) := (HB4.out.cell (p := ⟨b, o + i * 11 + 1, none⟩) hbw).trans (hca 1 (by decide))
            have x2 : wr.cell? ⟨b, o + i * 11 + 2, none⟩ = some (.string x.s) := (HB4.out.cell (p := ⟨b, o + i * 11 + 2, none⟩) hbw).trans (hca 2 (by decide))
            have x3 : wr.cell? ⟨b, o + i * 11 + 3, none⟩ = some (.slice P.A x.te.length P.a) := (HB4.out.cell (p := ⟨b, o + i * 11 + 3, none⟩) hbw).trans (hca 3 (by decide))
            have x4 : wr.cell? ⟨b, o + i * 11 + 4, none⟩ = some (.int .i64 x.t.k) := (HB4.out.cell (p := ⟨b, o + i * 11 + 4, none⟩) hbw).trans (hca 4 (by decide))
            have x5 : wr.cell? ⟨b, o + i * 11 + 5, none⟩ = some (.int .i64 x.t.a) := (HB4.out.cell (p := ⟨b, o + i * 11 + 5, none⟩) hbw).trans (hca 5 (by decide))
            have x6 : wr.cell? ⟨b, o + i * 11 + 6, none⟩ = some (.string x.t.s) := (HB4.out.cell (p := ⟨b, o + i * 11 + 6, none⟩) hbw).trans (hca 6 (by decide))
            have x7 : wr.cell? ⟨b, o + i * 11 + 7, none⟩ = some (.int .i64 x.t.n) := (HB4.out.cell (p := ⟨b, o + i * 11 + 7, none⟩) hbw).trans (hca 7 (by decide))
            have x8 : wr.cell? ⟨b, o + i * 11 + 8, none⟩ = some (.slice P.F x.t.l.length P.C) := (HB4.out.cell (p := ⟨b, o + i * 11 + 8, none⟩) hbw).trans (hca 8 (by decide))
            have x9 : wr.cell? ⟨b, o + i * 11 + 9, none⟩ = some (.slice P.B x.co.length P.b) := (HB4.out.cell (p := ⟨b, o + i * 11 + 9, none⟩) hbw).trans (hca 9 (by decide))
            have x10 : wr.cell? ⟨b, o + i * 11 + 10, none⟩ = some (.slice P.D x.ro.length P.d) := (HB4.out.cell (p := ⟨b, o + i * 11 + 10, none⟩) hbw).trans (hca 10 (by decide))
            have y0 : wr.cell? ⟨b2, o2 + i * 11, none⟩ = some (.int .i64 y.k) := (HB4.out.cell (p := ⟨b2, o2 + i * 11, none⟩) hcw).trans (hcb 0 (by decide))
            have y1 : wr.cell? ⟨b2, o2 + i * 11 + 1, none⟩ = some (.int .i64 y.a) := (HB4.out.cell (p := ⟨b2, o2 + i * 11 + 1, none⟩) hcw).trans (hcb 1 (by decide))
            have y2 : wr.cell? ⟨b2, o2 + i * 11 + 2, none⟩ = some (.string y.s) := (HB4.out.cell (p := ⟨b2, o2 + i * 11 + 2, none⟩) hcw).trans (hcb 2 (by decide))
            have y3 : wr.cell? ⟨b2, o2 + i * 11 + 3, none⟩ = some (.slice R.A y.te.length R.a) := (HB4.out.cell (p := ⟨b2, o2 + i * 11 + 3, none⟩) hcw).trans (hcb 3 (by decide))
            have y4 : wr.cell? ⟨b2, o2 + i * 11 + 4, none⟩ = some (.int .i64 y.t.k) := (HB4.out.cell (p := ⟨b2, o2 + i * 11 + 4, none⟩) hcw).trans (hcb 4 (by decide))
            have y5 : wr.cell? ⟨b2, o2 + i * 11 + 5, none⟩ = some (.int .i64 y.t.a) := (HB4.out.cell (p := ⟨b2, o2 + i * 11 + 5, none⟩) hcw).trans (hcb 5 (by decide))
            have y6 : wr.cell? ⟨b2, o2 + i * 11 + 6, none⟩ = some (.string y.t.s) := (HB4.out.cell (p := ⟨b2, o2 + i * 11 + 6, none⟩) hcw).trans (hcb 6 (by decide))
            have y7 : wr.cell? ⟨b2, o2 + i * 11 + 7, none⟩ = some (.int .i64 y.t.n) := (HB4.out.cell (p := ⟨b2, o2 + i * 11 + 7, none⟩) hcw).trans (hcb 7 (by decide))
            have y8 : wr.cell? ⟨b2, o2 + i * 11 + 8, none⟩ = some (.slice R.F y.t.l.length R.C) := (HB4.out.cell (p := ⟨b2, o2 + i * 11 + 8, none⟩) hcw).trans (hcb 8 (by decide))
            have y9 : wr.cell? ⟨b2, o2 + i * 11 + 9, none⟩ = some (.slice R.B y.co.length R.b) := (HB4.out.cell (p := ⟨b2, o2 + i * 11 + 9, none⟩) hcw).trans (hcb 9 (by decide))
            have y10 : wr.cell? ⟨b2, o2 + i * 11 + 10, none⟩ = some (.slice R.D y.ro.length R.d) := (HB4.out.cell (p := ⟨b2, o2 + i * 11 + 10, none⟩) hcw).trans (hcb 10 (by decide))
            have HC := Lib.hid (fun (V : World) (hV : Below wr.heap.size wr V) => (sameDecl_any x y _ _ _ _ P R V ((hDa.kept HB4.out (by omega)).kept hV (by omega)) ((hDb.kept HB4.out (by omega)).kept hV (by omega)) (by have := hV.size; omega) (by have := hV.size; omega)).mono fun e w' h => And.intro (h.1.trans (by rw [hsm])) h.2)
            have HK := Lib.hid (fun (V : World) (hV : Below wr.heap.size wr V) => (show V.cell? ⟨b, o + i * 11, none⟩ = some (.int .i64 x.k) ∧ V.cell? ⟨b, o + i * 11 + 1, none⟩ = some (.int .i64 x.a) ∧ V.cell? ⟨b, o + i * 11 + 2, none⟩ = some (.string x.s) ∧ V.cell? ⟨b, o + i * 11 + 3, none⟩ = some (.slice P.A x.te.length P.a) ∧ V.cell? ⟨b, o + i * 11 + 4, none⟩ = some (.int .i64 x.t.k) ∧ V.cell? ⟨b, o + i * 11 + 5, none⟩ = some (.int .i64 x.t.a) ∧ V.cell? ⟨b, o + i * 11 + 6, none⟩ = some (.string x.t.s) ∧ V.cell? ⟨b, o + i * 11 + 7, none⟩ = some (.int .i64 x.t.n) ∧ V.cell? ⟨b, o + i * 11 + 8, none⟩ = some (.slice P.F x.t.l.length P.C) ∧ V.cell? ⟨b, o + i * 11 + 9, none⟩ = some (.slice P.B x.co.length P.b) ∧ V.cell? ⟨b, o + i * 11 + 10, none⟩ = some (.slice P.D x.ro.length P.d) ∧ V.cell? ⟨b2, o2 + i * 11, none⟩ = some (.int .i64 y.k) ∧ V.cell? ⟨b2, o2 + i * 11 + 1, none⟩ = some (.int .i64 y.a) ∧ V.cell? ⟨b2, o2 + i * 11 + 2, none⟩ = some (.string y.s) ∧ V.cell? ⟨b2, o2 + i * 11 + 3, none⟩ = some (.slice R.A y.te.length R.a) ∧ V.cell? ⟨b2, o2 + i * 11 + 4, none⟩ = some (.int .i64 y.t.k) ∧ V.cell? ⟨b2, o2 + i * 11 + 5, none⟩ = some (.int .i64 y.t.a) ∧ V.cell? ⟨b2, o2 + i * 11 + 6, none⟩ = some (.string y.t.s) ∧ V.cell? ⟨b2, o2 + i * 11 + 7, none⟩ = some (.int .i64 y.t.n) ∧ V.cell? ⟨b2, o2 + i * 11 + 8, none⟩ = some (.slice R.F y.t.l.length R.C) ∧ V.cell? ⟨b2, o2 + i * 11 + 9, none⟩ = some (.slice R.B y.co.length R.b) ∧ V.cell? ⟨b2, o2 + i * 11 + 10, none⟩ = some (.slice R.D y.ro.length R.d) from
              ⟨(hV.cell (p := ⟨b, o + i * 11, none⟩) hbw').trans x0, (hV.cell (p := ⟨b, o + i * 11 + 1, none⟩) hbw').trans x1, (hV.cell (p := ⟨b, o + i * 11 + 2, none⟩) hbw').trans x2, (hV.cell (p := ⟨b, o + i * 11 + 3, none⟩) hbw').trans x3, (hV.cell (p := ⟨b, o + i * 11 + 4, none⟩) hbw').trans x4, (hV.cell (p := ⟨b, o + i * 11 + 5, none⟩) hbw').trans x5, (hV.cell (p := ⟨b, o + i * 11 + 6, none⟩) hbw').trans x6, (hV.cell (p := ⟨b, o + i * 11 + 7, none⟩) hbw').trans x7, (hV.cell (p := ⟨b, o + i * 11 + 8, none⟩) hbw').trans x8, (hV.cell (p := ⟨b, o + i * 11 + 9, none⟩) hbw').trans x9, (hV.cell (p := ⟨b, o + i * 11 + 10, none⟩) hbw').trans x10, (hV.cell (p := ⟨b2, o2 + i * 11, none⟩) hcw').trans y0, (hV.cell (p := ⟨b2, o2 + i * 11 + 1, none⟩) hcw').trans y1, (hV.cell (p := ⟨b2, o2 + i * 11 + 2, none⟩) hcw').trans y2, (hV.cell (p := ⟨b2, o2 + i * 11 + 3, none⟩) hcw').trans y3, (hV.cell (p := ⟨b2, o2 + i * 11 + 4, none⟩) hcw').trans y4, (hV.cell (p := ⟨b2, o2 + i * 11 + 5, none⟩) hcw').trans y5, (hV.cell (p := ⟨b2, o2 + i * 11 + 6, none⟩) hcw').trans y6, (hV.cell (p := ⟨b2, o2 + i * 11 + 7, none⟩) hcw').trans y7, (hV.cell (p := ⟨b2, o2 + i * 11 + 8, none⟩) hcw').trans y8, (hV.cell (p := ⟨b2, o2 + i * 11 + 9, none⟩) hcw').trans y9, (hV.cell (p := ⟨b2, o2 + i * 11 + 10, none⟩) hcw').trans y10⟩))
            have hbk := Lib.hid ((Below.refl wr.heap.size wr).drew)
            unfold declV at HC
            have hi1' : (i : Int) < (la.length : Int) := by omega
            have hi2' : (i : Int) < (lb.length : Int) := by omega
            have hi0' : (0 : Int) ≤ (i : Int) := by omega
            clear hDa hDb hsm hca hcb hx hy
            go_wp2_with fail
            go_region_held3 (fun w' => w'.cell? ⟨b, o + i * 11, none⟩ = some (.int .i64 x.k) ∧ w'.cell? ⟨b, o + i * 11 + 1, none⟩ = some (.int .i64 x.a) ∧ w'.cell? ⟨b, o + i * 11 + 2, none⟩ = some (.string x.s) ∧ w'.cell? ⟨b, o + i * 11 + 3, none⟩ = some (.slice P.A x.te.length P.a) ∧ w'.cell? ⟨b, o + i * 11 + 4, none⟩ = some (.int .i64 x.t.k) ∧ w'.cell? ⟨b, o + i * 11 + 5, none⟩ = some (.int .i64 x.t.a) ∧ w'.cell? ⟨b, o + i * 11 + 6, none⟩ = some (.string x.t.s) ∧ w'.cell? ⟨b, o + i * 11 + 7, none⟩ = some (.int .i64 x.t.n) ∧ w'.cell? ⟨b, o + i * 11 + 8, none⟩ = some (.slice P.F x.t.l.length P.C) ∧ w'.cell? ⟨b, o + i * 11 + 9, none⟩ = some (.slice P.B x.co.length P.b) ∧ w'.cell? ⟨b, o + i * 11 + 10, none⟩ = some (.slice P.D x.ro.length P.d) ∧ w'.cell? ⟨b2, o2 + i * 11, none⟩ = some (.int .i64 y.k) ∧ w'.cell? ⟨b2, o2 + i * 11 + 1, none⟩ = some (.int .i64 y.a) ∧ w'.cell? ⟨b2, o2 + i * 11 + 2, none⟩ = some (.string y.s) ∧ w'.cell? ⟨b2, o2 + i * 11 + 3, none⟩ = some (.slice R.A y.te.length R.a) ∧ w'.cell? ⟨b2, o2 + i * 11 + 4, none⟩ = some (.int .i64 y.t.k) ∧ w'.cell? ⟨b2, o2 + i * 11 + 5, none⟩ = some (.int .i64 y.t.a) ∧ w'.cell? ⟨b2, o2 + i * 11 + 6, none⟩ = some (.string y.t.s) ∧ w'.cell? ⟨b2, o2 + i * 11 + 7, none⟩ = some (.int .i64 y.t.n) ∧ w'.cell? ⟨b2, o2 + i * 11 + 8, none⟩ = some (.slice R.F y.t.l.length R.C) ∧ w'.cell? ⟨b2, o2 + i * 11 + 9, none⟩ = some (.slice R.B y.co.length R.b) ∧ w'.cell? ⟨b2, o2 + i * 11 + 10, none⟩ = some (.slice R.D y.ro.length R.d))
              (exact HK.out _ hbk.out)
              (first
              | (go_at_call 8; refine (HC.out _ hbk.out).mono ?_; rintro e wn ⟨rfl, hbn⟩; have hbk := Lib.hid (hbk.out.trans (hbn.mono hbk.out.size)); clear hbn))
            all_goals
              go_wp2_with fail
              go_roundw
              case rel => exact ⟨i + 1, by go_num, by omega, Lib.hid (HB4.out.trans (hbk.out.mono hs34))⟩
              case measure => simp [intOf]; omega
          · obtain rfl : i = la.length := by omega
            have hd2 : decide ((la.length : Int) < (la.length : Int)) = false := decide_eq_false (by omega)
            go_wp2_with fail
            refine (HAW.out _).mono ?_; rintro e w5 ⟨rfl, hb5⟩
            go_wp2_with fail
            go_ret
            exact ⟨rfl, (HB3.out.trans (HB4.out.mono HB3.out.size)).trans (hb5.mono (by have := HB3.out.size; omega))⟩
      · refine (HA.out _).mono ?_; rintro e w2 ⟨hb2, -, hok⟩
        obtain rfl := hok h0
        go_wp2_with fail
        refine (HBB.out _).mono ?_; rintro e w3 ⟨hb3, -, hok2⟩
        obtain rfl := hok2 (by rw [← hze]; exact h0)
        have hnn : (za.e != zb.e) = false := by rw [hze]; simp
        go_wp2_with fail
        have HB3 : Hid (Below w.heap.size w w3) := Lib.hid ((hb1.trans (HB.out.mono hs1)).trans ((hb2.mono (Nat.le_trans hs1 HB.out.size)).trans (hb3.mono (Nat.le_trans (Nat.le_trans hs1 HB.out.size) hb2.size))))
        clear HA HBB HSM hb1 hb2 hb3
        go_loopw [14] (fun q wr2 => q = .int .i64 0 ∧ Hid (Below w3.heap.size w3 wr2)) (fun _ _ => 0)
        case atStart => exact ⟨rfl, Lib.hid (Below.refl _ _)⟩
        case round =>
          obtain ⟨rfl, HB4⟩ := hrel
          have hs34 := HB4.out.size
          go_wp2_with fail
          refine (HAW.out _).mono ?_; rintro e w5 ⟨rfl, hb5⟩
          go_wp2_with fail
          go_ret
          exact ⟨rfl, (HB3.out.trans (HB4.out.mono HB3.out.size)).trans (hb5.mono (by have := HB3.out.size; omega))⟩

end Go.Proofs.Ytkccjfbgepmfkaa
