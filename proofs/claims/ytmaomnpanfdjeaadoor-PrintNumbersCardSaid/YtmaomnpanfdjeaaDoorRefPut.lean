/- scholiumref01.Put gives, for every sign, the same bytes as utf.Put; nothing that was there is written. -/
import Derived.Test.YtmaomnpanfdjeaaDoorTail
namespace Go.Proofs.YtmaomnpanfdjeaaDoor
open Go.RowKit
set_option maxRecDepth 100000

/-- Owned bytes turned into a string. -/
theorem conv_own (w : World) (g n cap : Nat) (xs : List Int) (hn : xs.length = n) (h : ∀ j u, (xs.map (Value.int .u8))[j]? = some u → w.cell? ((⟨g, 0, none⟩ : Addr).add j) = some u) :
    (convert 53 9 (.slice (some ⟨g, 0, none⟩) n cap)).run Tryd.prog w = .ok (.string (strOfNums xs)) w :=
  run_convert_bytes_arg (P := Tryd.prog) w 53 5 Tryd.underlying53 Tryd.underlying5 g 0 n cap xs hn
    (fun i hi => by
      have hi' : i < xs.length := by omega
      have := h i (.int .u8 (xs.getD i 0)) (by simp [List.getD, hi'])
      rwa [Addr.add_lit] at this) 9 Tryd.underlying9

theorem own_lit {w w1 : World} {x : Value} (hb : Below (w.heap.size + 1) (w.alloc (.cells #[x] 5)) w1) : w1.ownsRow w.heap.size 5 1 (.slice (some ⟨w.heap.size, 0, none⟩) 1 1) 1 [x] := by
  refine ⟨rfl, .inr ⟨w.heap.size, 1, #[x], rfl, Nat.le_refl _, ?_, Nat.le_refl _, by decide, rfl, rfl⟩⟩
  rw [hb.block w.heap.size (by omega)]
  exact heap_alloc_new w _

theorem refPut_1 (n : Int) (w : World) (h0 : 0 ≤ n) (h1 : n ≤ 127) :
    Calls Tryd.prog 91 #[.int .i64 n] w fun e w' => e = .returned (.string (strOfNums [n])) ∧ Below w.heap.size w w' := by
  have hc := conv_new w #[.int .u8 n] 5 (0, 0) [n] 1 1 rfl (by intro i hi; match i, hi with | 0, _ => rfl)
  go_enter Tryd.func91, Tryd.ntmps91
  go_wp2_with fail
  go_ret
  exact ⟨rfl, (Below.refl _ _).alloc (Nat.le_refl _) _⟩

theorem refPut_2 (n : Int) (w : World) (h0 : 128 ≤ n) (h1 : n ≤ 2047) :
    Calls Tryd.prog 91 #[.int .i64 n] w fun e w' => e = .returned (.string (strOfNums [192 + n / 64, 128 + n % 64])) ∧ Below w.heap.size w w' := by
  obtain ⟨i0, hi, hz0, hz1, hz2⟩ := info_parts info5
  have hh : strOfNums [192 + n / 64, 128 + n % 64] = strOfNums [192 + n / 64, 128 + n % 64] := by
    have e : 192 + n / 64 = 192 + n / 64 := by omega
    rw [e]
  rw [hh]; clear hh
  go_enter Tryd.func91, Tryd.ntmps91
  go_wp2_with fail
  refine (tail_1 _ _ (by omega) (by omega)).mono ?_
  rintro e w1 ⟨g1, cap1, rfl, hge1, hlt1, hc1, hb1⟩
  have hown := own_lit (w := w) (by simpa using hb1)
  have hB : Below w.heap.size w w1 := ((Below.refl _ _).alloc (Nat.le_refl _) _).trans (hb1.mono (by simp))
  have hsz := hB.size
  go_wp2_with (at_builtin; refine wpList_append_own _ rfl _ _ 53 rfl w.heap.size 5 i0 (.int .u8 0) 1 1 Tryd.underlying53 hi hz0 hz1 hz2 rfl (by decide) _ _ _ rfl hown ⟨g1, 0, none⟩ 1 cap1 [.int .u8 (128 + n % 64)] rfl rfl ?c1 ?c2 ?c3 ?c4 ?c5 ?_)
  case c1 => exact hc1
  case c2 => intro u hu; simp at hu; rcases hu with rfl <;> rfl
  case c3 => decide
  case c4 => decide
  case c5 => omega
  intro v2 w2 hown2 hg2 _
  have hB2 := below_append hB hown hg2 hsz
  clear hg2 hown
  obtain ⟨g2, cap2, rfl, _, _, hc2⟩ := own_open hown2 (by decide)
  have hc := conv_own w2 g2 2 cap2 [192 + n / 64, 128 + n % 64] rfl hc2
  clear hown2 hc2 hc1
  go_wp2_with fail
  go_ret
  exact ⟨rfl, hB2⟩

theorem refPut_3 (n : Int) (w : World) (h0 : 2048 ≤ n) (h1 : n ≤ 65535) :
    Calls Tryd.prog 91 #[.int .i64 n] w fun e w' => e = .returned (.string (strOfNums [224 + n / 64 / 64, 128 + n / 64 % 64, 128 + n % 64])) ∧ Below w.heap.size w w' := by
  obtain ⟨i0, hi, hz0, hz1, hz2⟩ := info_parts info5
  have hh : strOfNums [224 + n / 64 / 64, 128 + n / 64 % 64, 128 + n % 64] = strOfNums [224 + n / 4096, 128 + n / 64 % 64, 128 + n % 64] := by
    have e : 224 + n / 64 / 64 = 224 + n / 4096 := by omega
    rw [e]
  rw [hh]; clear hh
  go_enter Tryd.func91, Tryd.ntmps91
  go_wp2_with fail
  refine (tail_2 _ _ (by omega) (by omega)).mono ?_
  rintro e w1 ⟨g1, cap1, rfl, hge1, hlt1, hc1, hb1⟩
  have hown := own_lit (w := w) (by simpa using hb1)
  have hB : Below w.heap.size w w1 := ((Below.refl _ _).alloc (Nat.le_refl _) _).trans (hb1.mono (by simp))
  have hsz := hB.size
  go_wp2_with (at_builtin; refine wpList_append_own _ rfl _ _ 53 rfl w.heap.size 5 i0 (.int .u8 0) 1 1 Tryd.underlying53 hi hz0 hz1 hz2 rfl (by decide) _ _ _ rfl hown ⟨g1, 0, none⟩ 2 cap1 [.int .u8 (128 + n / 64 % 64), .int .u8 (128 + n % 64)] rfl rfl ?c1 ?c2 ?c3 ?c4 ?c5 ?_)
  case c1 => exact hc1
  case c2 => intro u hu; simp at hu; rcases hu with rfl | rfl <;> rfl
  case c3 => decide
  case c4 => decide
  case c5 => omega
  intro v2 w2 hown2 hg2 _
  have hB2 := below_append hB hown hg2 hsz
  clear hg2 hown
  obtain ⟨g2, cap2, rfl, _, _, hc2⟩ := own_open hown2 (by decide)
  have hc := conv_own w2 g2 3 cap2 [224 + n / 4096, 128 + n / 64 % 64, 128 + n % 64] rfl hc2
  clear hown2 hc2 hc1
  go_wp2_with fail
  go_ret
  exact ⟨rfl, hB2⟩

theorem refPut_4 (n : Int) (w : World) (h0 : 65536 ≤ n) (h1 : n ≤ 1114111) :
    Calls Tryd.prog 91 #[.int .i64 n] w fun e w' => e = .returned (.string (strOfNums [240 + n / 64 / 64 / 64, 128 + n / 64 / 64 % 64, 128 + n / 64 % 64, 128 + n % 64])) ∧ Below w.heap.size w w' := by
  obtain ⟨i0, hi, hz0, hz1, hz2⟩ := info_parts info5
  have hh : strOfNums [240 + n / 64 / 64 / 64, 128 + n / 64 / 64 % 64, 128 + n / 64 % 64, 128 + n % 64] = strOfNums [240 + n / 262144, 128 + n / 64 / 64 % 64, 128 + n / 64 % 64, 128 + n % 64] := by
    have e : 240 + n / 64 / 64 / 64 = 240 + n / 262144 := by omega
    rw [e]
  rw [hh]; clear hh
  go_enter Tryd.func91, Tryd.ntmps91
  go_wp2_with fail
  refine (tail_3 _ _ (by omega) (by omega)).mono ?_
  rintro e w1 ⟨g1, cap1, rfl, hge1, hlt1, hc1, hb1⟩
  have hown := own_lit (w := w) (by simpa using hb1)
  have hB : Below w.heap.size w w1 := ((Below.refl _ _).alloc (Nat.le_refl _) _).trans (hb1.mono (by simp))
  have hsz := hB.size
  go_wp2_with (at_builtin; refine wpList_append_own _ rfl _ _ 53 rfl w.heap.size 5 i0 (.int .u8 0) 1 1 Tryd.underlying53 hi hz0 hz1 hz2 rfl (by decide) _ _ _ rfl hown ⟨g1, 0, none⟩ 3 cap1 [.int .u8 (128 + n / 64 / 64 % 64), .int .u8 (128 + n / 64 % 64), .int .u8 (128 + n % 64)] rfl rfl ?c1 ?c2 ?c3 ?c4 ?c5 ?_)
  case c1 => exact hc1
  case c2 => intro u hu; simp at hu; rcases hu with rfl | rfl | rfl <;> rfl
  case c3 => decide
  case c4 => decide
  case c5 => omega
  intro v2 w2 hown2 hg2 _
  have hB2 := below_append hB hown hg2 hsz
  clear hg2 hown
  obtain ⟨g2, cap2, rfl, _, _, hc2⟩ := own_open hown2 (by decide)
  have hc := conv_own w2 g2 4 cap2 [240 + n / 262144, 128 + n / 64 / 64 % 64, 128 + n / 64 % 64, 128 + n % 64] rfl hc2
  clear hown2 hc2 hc1
  go_wp2_with fail
  go_ret
  exact ⟨rfl, hB2⟩

theorem refPut_any (n : Int) (w : World) (h0 : 0 ≤ n) (h1 : n ≤ 1114111) :
    Calls Tryd.prog 91 #[.int .i64 n] w fun e w' => e = .returned (.string (enc n)) ∧ Below w.heap.size w w' := by
  unfold enc
  by_cases h1 : n ≤ 127
  · rw [encI_1 h1]; exact refPut_1 n w (by omega) h1
  · by_cases h2 : n ≤ 2047
    · rw [encI_2 (by omega) h2]; exact refPut_2 n w (by omega) h2
    · by_cases h3 : n ≤ 65535
      · rw [encI_3 (by omega) h3]; exact refPut_3 n w (by omega) h3
      · rw [encI_4 (by omega)]; exact refPut_4 n w (by omega) (by omega)

end Go.Proofs.YtmaomnpanfdjeaaDoor
