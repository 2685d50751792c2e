/- The law UtfBack answers true, for every string and every slice of ints: Join of All is the text, All of Join the signs. No condition beyond the row's own. -/
import Derived.Test.YtcmmkdihknjfnaaRows
import Derived.Test.YtcmmkdihknjfnaaAwake
import Derived.Test.YtcmmkdihknjfnaaJoin
import Derived.Test.YtcmmkdihknjfnaaSame
import Derived.Test.YtcmmkdihknjfnaaIn
import Derived.WalkKit
import Derived.ProofKit
import Derived.OpenShut
import Derived.ShutString
import Derived.ChangeOld
import Derived.Below
namespace Go.Proofs.Ytcmmkdihknjfnaa.utfBack
open Go.ChangeShapes Go.WideShapes Go.ChangeAt Go.RowKit
open Go.ChangeMaps (open_string shut_string)
set_option linter.unusedVariables false

theorem own : ownKnob Try.prog.godebug = none := by kernel_rfl
theorem laidOut : laidOutB Try.prog = true := by kernel_rfl

theorem encAll_bytes : ∀ (ns : List Int), (∀ n ∈ ns, rightB n = true) → ∀ x ∈ encAll ns, 0 ≤ x ∧ x ≤ 255
  | [], _, x, hx => by cases hx
  | n :: ns, h, x, hx => by
    have hx2 : x ∈ encI n ++ encAll ns := hx
    rcases List.mem_append.1 hx2 with h1 | h1
    · have hb := rightB_true.1 (h n (List.mem_cons_self ..))
      exact encI_bytes hb.1 hb.2.1 x h1
    · exact encAll_bytes ns (fun m hm => h m (List.mem_cons_of_mem _ hm)) x h1

/-- Join at a row of the call's own that holds signs. -/
theorem join_own (w : World) (B : Nat) (v : Value) (ns : List Int) (hown : w.ownsRow B 3 1 v ns.length (ns.map (Value.int .i64))) (hr : ∀ n ∈ ns, rightB n = true) (hl : (encAll ns).length ≤ 65535) :
    Calls Try.prog 20 #[v] w fun e w' => e = .returned (.tuple #[.string (strOfNums (encAll ns)), .int .i64 0]) ∧ Below w.heap.size w w' := by
  by_cases hn : ns.length = 0
  · obtain rfl : ns = [] := List.eq_nil_of_length_eq_zero hn
    obtain ⟨a, c, rfl⟩ := own_shape hown
    exact join_empty a c w
  · obtain ⟨g, c, rfl, _, hc⟩ := own_cells hown rfl (by omega)
    have := length_encAll ns
    exact join_ok g 0 ns.length c ns w rfl (by omega) hc (fun i hi => hr _ (getD_mem hi)) hl

theorem same_in (w : World) (B : Nat) (v : Value) (b off n c : Nat) (xs : List Int) (hx : xs.length = n) (hn : 0 < n) (hl : n ≤ 5000)
    (hown : w.ownsRow B 3 1 v xs.length (xs.map (Value.int .i64))) (hc : ∀ i, i < n → w.cell? ⟨b, off + i, none⟩ = some (.int .i64 (xs.getD i 0))) :
    Calls Try.prog 15 #[v, .slice (some ⟨b, off, none⟩) n c] w fun e w' => e = .returned (.bool true) ∧ Below w.heap.size w w' := by
  subst hx
  obtain ⟨g, c1, rfl, _, k1⟩ := own_cells hown rfl hn
  exact same_some w xs xs.length rfl (by omega) g 0 c1 b off c k1 hc

theorem all_right {xs : List Int} {n : Nat} (hx : xs.length = n) (h : ∀ i, i < n → rightB (xs.getD i 0) = true) : ∀ x ∈ xs, rightB x = true := by
  intro x hm
  obtain ⟨i, hi, rfl⟩ := List.getElem_of_mem hm
  have := h i (by omega)
  rwa [List.getD, List.getElem?_eq_getElem hi] at this

theorem join_parse {xs : List Int} {n : Nat} (hx : xs.length = n) (h : ∀ i, i < n → rightB (xs.getD i 0) = true) (hl : (encAll xs).length ≤ 65535) :
    Parse (bytesL (strOfNums (encAll xs))) xs [] ∧ (strOfNums (encAll xs)).size ≤ 65535 := by
  have hr := all_right hx h
  rw [bytesL_strOfNums _ (encAll_bytes xs hr), strOfNums_size]
  exact ⟨parse_enc hr, hl⟩

theorem text_eq {s : ByteArray} {ns : List Int} (hp : Parse (bytesL s) ns []) : ((strOfNums (encAll ns)).toList == s.toList) = true := by
  apply str_eq_true
  rw [bytesL_strOfNums _ (encAll_bytes ns hp.right), hp.eq, List.append_nil]

theorem text_len {s : ByteArray} {ns : List Int} (hp : Parse (bytesL s) ns []) (hs : s.size ≤ 65535) : (encAll ns).length ≤ 65535 := by
  have h := parse_length hp
  rw [bytesL_length] at h
  omega

theorem walk_many (s : ByteArray) (a : Option Addr) (n c : Nat) (w : World) (hn : 5000 < n) (hm : n ≤ 9223372036854775807) :
    Calls Try.prog 7 #[.string s, .slice a n c] w fun e w' => e = .returned (.bool true) ∧ Below w.heap.size w w' := by
  go_enter Try.func7, Try.ntmps7
  go_wp2_with fail
  refine (awake_any _).mono ?_; rintro e w3 ⟨rfl, hb3⟩
  go_wp2_with fail
  go_ret
  exact ⟨rfl, hb3⟩

theorem w_long_empty (s : ByteArray) (w : World) (hs0 : s.size ≤ 9223372036854775807) (hs : 65535 < s.size) (a : Option Addr) (c : Nat) :
    Calls Try.prog 7 #[.string s, .slice a 0 c] w fun e w' => e = .returned (.bool true) ∧ Below w.heap.size w w' := by
  go_enter Try.func7, Try.ntmps7
  go_wp2_with fail
  refine (all_long s _ hs).mono ?_; rintro e w1 ⟨rfl, hb1⟩
  go_wp2_with fail
  have hbA := hb1
  refine (join_empty a c _).mono ?_; rintro e w2 ⟨rfl, hb2⟩
  have hbB := hbA.trans (hb2.mono hbA.size)
  go_wp2_with fail
  refine (all_ok ⟨#[]⟩ [] _ (Nat.zero_le _) ⟨rfl, by simp, rfl⟩).mono ?_; rintro e w3 ⟨v3, rfl, hown3, hb3⟩
  have hbC := hbB.trans (hb3.mono hbB.size)
  obtain ⟨a3, c3, rfl⟩ := own_shape hown3
  clear hown3
  simp only [List.length_nil]
  go_wp2_with fail
  refine (same_nil _ _ _ _ _).mono ?_; rintro e w4 ⟨rfl, hb4⟩
  have hbZ := hbC.trans (hb4.mono hbC.size)
  go_wp2_with fail
  refine (awake_any _).mono ?_; rintro e w9 ⟨rfl, hb9⟩
  go_wp2_with fail
  go_ret
  exact ⟨rfl, hbZ.trans (hb9.mono hbZ.size)⟩

theorem w_long_none (s : ByteArray) (w : World) (hs0 : s.size ≤ 9223372036854775807) (hs : 65535 < s.size) (b off n c : Nat) (xs : List Int) (hx : xs.length = n) (h1 : 0 < n) (hn : n ≤ 5000) (hc : ∀ i, i < n → w.cell? ⟨b, off + i, none⟩ = some (.int .i64 (xs.getD i 0))) (p : Nat) (hp2 : p < n) (hbad : rightB (xs.getD p 0) = false) :
    Calls Try.prog 7 #[.string s, .slice (some ⟨b, off, none⟩) n c] w fun e w' => e = .returned (.bool true) ∧ Below w.heap.size w w' := by
  have HC := hide hc
  have HX := hide hx
  clear hc hx
  have HBAD := hide hbad
  clear hbad
  go_enter Try.func7, Try.ntmps7
  go_wp2_with fail
  refine (all_long s _ hs).mono ?_; rintro e w1 ⟨rfl, hb1⟩
  go_wp2_with fail
  have hbA := hb1
  have HC1 := hide (cells_below HC.out hbA)
  refine (join_none b off n c xs _ HX.out (by omega) HC1.out p hp2 HBAD.out).mono ?_; rintro e w2 ⟨rfl, hb2⟩
  have hbZ := hbA.trans (hb2.mono hbA.size)
  go_wp2_with fail
  refine (awake_any _).mono ?_; rintro e w9 ⟨rfl, hb9⟩
  go_wp2_with fail
  go_ret
  exact ⟨rfl, hbZ.trans (hb9.mono hbZ.size)⟩

theorem w_long_long (s : ByteArray) (w : World) (hs0 : s.size ≤ 9223372036854775807) (hs : 65535 < s.size) (b off n c : Nat) (xs : List Int) (hx : xs.length = n) (h1 : 0 < n) (hn : n ≤ 5000) (hc : ∀ i, i < n → w.cell? ⟨b, off + i, none⟩ = some (.int .i64 (xs.getD i 0))) (hall : ∀ i, i < n → rightB (xs.getD i 0) = true) (hlim : 65535 < (encAll xs).length) :
    Calls Try.prog 7 #[.string s, .slice (some ⟨b, off, none⟩) n c] w fun e w' => e = .returned (.bool true) ∧ Below w.heap.size w w' := by
  have HC := hide hc
  have HX := hide hx
  clear hc hx
  have HR := hide hall
  have HM := hide hlim
  clear hall hlim
  go_enter Try.func7, Try.ntmps7
  go_wp2_with fail
  refine (all_long s _ hs).mono ?_; rintro e w1 ⟨rfl, hb1⟩
  go_wp2_with fail
  have hbA := hb1
  have HC1 := hide (cells_below HC.out hbA)
  refine (join_long b off n c xs _ HX.out (by omega) HC1.out HR.out HM.out).mono ?_; rintro e w2 ⟨rfl, hb2⟩
  have hbZ := hbA.trans (hb2.mono hbA.size)
  go_wp2_with fail
  refine (awake_any _).mono ?_; rintro e w9 ⟨rfl, hb9⟩
  go_wp2_with fail
  go_ret
  exact ⟨rfl, hbZ.trans (hb9.mono hbZ.size)⟩

theorem w_long_ok (s : ByteArray) (w : World) (hs0 : s.size ≤ 9223372036854775807) (hs : 65535 < s.size) (b off n c : Nat) (xs : List Int) (hx : xs.length = n) (h1 : 0 < n) (hn : n ≤ 5000) (hc : ∀ i, i < n → w.cell? ⟨b, off + i, none⟩ = some (.int .i64 (xs.getD i 0))) (hall : ∀ i, i < n → rightB (xs.getD i 0) = true) (hlim : (encAll xs).length ≤ 65535) :
    Calls Try.prog 7 #[.string s, .slice (some ⟨b, off, none⟩) n c] w fun e w' => e = .returned (.bool true) ∧ Below w.heap.size w w' := by
  obtain ⟨hP, hT⟩ := join_parse hx hall hlim
  have HP := hide hP
  clear hP
  have HC := hide hc
  have HX := hide hx
  clear hc hx
  have HR := hide hall
  have HM := hide hlim
  clear hall hlim
  go_enter Try.func7, Try.ntmps7
  go_wp2_with fail
  refine (all_long s _ hs).mono ?_; rintro e w1 ⟨rfl, hb1⟩
  go_wp2_with fail
  have hbA := hb1
  have HC1 := hide (cells_below HC.out hbA)
  refine (join_ok b off n c xs _ HX.out (by omega) HC1.out HR.out HM.out).mono ?_; rintro e w2 ⟨rfl, hb2⟩
  have hbB := hbA.trans (hb2.mono hbA.size)
  go_wp2_with fail
  refine (all_ok _ xs _ hT HP.out).mono ?_; rintro e w3 ⟨v3, rfl, hown3, hb3⟩
  have hbC := hbB.trans (hb3.mono hbB.size)
  have HC3 := hide (cells_below HC.out hbC)
  obtain ⟨a3, c3, rfl⟩ := own_shape hown3
  have O3 := hide hown3
  clear hown3
  go_wp2_with fail
  refine (same_in _ w2.heap.size _ b off n c xs HX.out h1 hn O3.out HC3.out).mono ?_; rintro e w4 ⟨rfl, hb4⟩
  have hbZ := hbC.trans (hb4.mono hbC.size)
  go_wp2_with fail
  refine (awake_any _).mono ?_; rintro e w9 ⟨rfl, hb9⟩
  go_wp2_with fail
  go_ret
  exact ⟨rfl, hbZ.trans (hb9.mono hbZ.size)⟩

theorem w_err_empty (s : ByteArray) (w : World) (hs0 : s.size ≤ 9223372036854775807) (ns r : List Int) (hs : s.size ≤ 65535) (hp : Parse (bytesL s) ns r) (hr : r ≠ []) (a : Option Addr) (c : Nat) :
    Calls Try.prog 7 #[.string s, .slice a 0 c] w fun e w' => e = .returned (.bool true) ∧ Below w.heap.size w w' := by
  go_enter Try.func7, Try.ntmps7
  go_wp2_with fail
  refine (all_err s ns r _ hs hp hr).mono ?_; rintro e w1 ⟨rfl, hb1⟩
  go_wp2_with fail
  have hbA := hb1
  refine (join_empty a c _).mono ?_; rintro e w2 ⟨rfl, hb2⟩
  have hbB := hbA.trans (hb2.mono hbA.size)
  go_wp2_with fail
  refine (all_ok ⟨#[]⟩ [] _ (Nat.zero_le _) ⟨rfl, by simp, rfl⟩).mono ?_; rintro e w3 ⟨v3, rfl, hown3, hb3⟩
  have hbC := hbB.trans (hb3.mono hbB.size)
  obtain ⟨a3, c3, rfl⟩ := own_shape hown3
  clear hown3
  simp only [List.length_nil]
  go_wp2_with fail
  refine (same_nil _ _ _ _ _).mono ?_; rintro e w4 ⟨rfl, hb4⟩
  have hbZ := hbC.trans (hb4.mono hbC.size)
  go_wp2_with fail
  refine (awake_any _).mono ?_; rintro e w9 ⟨rfl, hb9⟩
  go_wp2_with fail
  go_ret
  exact ⟨rfl, hbZ.trans (hb9.mono hbZ.size)⟩

theorem w_err_none (s : ByteArray) (w : World) (hs0 : s.size ≤ 9223372036854775807) (ns r : List Int) (hs : s.size ≤ 65535) (hp : Parse (bytesL s) ns r) (hr : r ≠ []) (b off n c : Nat) (xs : List Int) (hx : xs.length = n) (h1 : 0 < n) (hn : n ≤ 5000) (hc : ∀ i, i < n → w.cell? ⟨b, off + i, none⟩ = some (.int .i64 (xs.getD i 0))) (p : Nat) (hp2 : p < n) (hbad : rightB (xs.getD p 0) = false) :
    Calls Try.prog 7 #[.string s, .slice (some ⟨b, off, none⟩) n c] w fun e w' => e = .returned (.bool true) ∧ Below w.heap.size w w' := by
  have HC := hide hc
  have HX := hide hx
  clear hc hx
  have HBAD := hide hbad
  clear hbad
  go_enter Try.func7, Try.ntmps7
  go_wp2_with fail
  refine (all_err s ns r _ hs hp hr).mono ?_; rintro e w1 ⟨rfl, hb1⟩
  go_wp2_with fail
  have hbA := hb1
  have HC1 := hide (cells_below HC.out hbA)
  refine (join_none b off n c xs _ HX.out (by omega) HC1.out p hp2 HBAD.out).mono ?_; rintro e w2 ⟨rfl, hb2⟩
  have hbZ := hbA.trans (hb2.mono hbA.size)
  go_wp2_with fail
  refine (awake_any _).mono ?_; rintro e w9 ⟨rfl, hb9⟩
  go_wp2_with fail
  go_ret
  exact ⟨rfl, hbZ.trans (hb9.mono hbZ.size)⟩

theorem w_err_long (s : ByteArray) (w : World) (hs0 : s.size ≤ 9223372036854775807) (ns r : List Int) (hs : s.size ≤ 65535) (hp : Parse (bytesL s) ns r) (hr : r ≠ []) (b off n c : Nat) (xs : List Int) (hx : xs.length = n) (h1 : 0 < n) (hn : n ≤ 5000) (hc : ∀ i, i < n → w.cell? ⟨b, off + i, none⟩ = some (.int .i64 (xs.getD i 0))) (hall : ∀ i, i < n → rightB (xs.getD i 0) = true) (hlim : 65535 < (encAll xs).length) :
    Calls Try.prog 7 #[.string s, .slice (some ⟨b, off, none⟩) n c] w fun e w' => e = .returned (.bool true) ∧ Below w.heap.size w w' := by
  have HC := hide hc
  have HX := hide hx
  clear hc hx
  have HR := hide hall
  have HM := hide hlim
  clear hall hlim
  go_enter Try.func7, Try.ntmps7
  go_wp2_with fail
  refine (all_err s ns r _ hs hp hr).mono ?_; rintro e w1 ⟨rfl, hb1⟩
  go_wp2_with fail
  have hbA := hb1
  have HC1 := hide (cells_below HC.out hbA)
  refine (join_long b off n c xs _ HX.out (by omega) HC1.out HR.out HM.out).mono ?_; rintro e w2 ⟨rfl, hb2⟩
  have hbZ := hbA.trans (hb2.mono hbA.size)
  go_wp2_with fail
  refine (awake_any _).mono ?_; rintro e w9 ⟨rfl, hb9⟩
  go_wp2_with fail
  go_ret
  exact ⟨rfl, hbZ.trans (hb9.mono hbZ.size)⟩

theorem w_err_ok (s : ByteArray) (w : World) (hs0 : s.size ≤ 9223372036854775807) (ns r : List Int) (hs : s.size ≤ 65535) (hp : Parse (bytesL s) ns r) (hr : r ≠ []) (b off n c : Nat) (xs : List Int) (hx : xs.length = n) (h1 : 0 < n) (hn : n ≤ 5000) (hc : ∀ i, i < n → w.cell? ⟨b, off + i, none⟩ = some (.int .i64 (xs.getD i 0))) (hall : ∀ i, i < n → rightB (xs.getD i 0) = true) (hlim : (encAll xs).length ≤ 65535) :
    Calls Try.prog 7 #[.string s, .slice (some ⟨b, off, none⟩) n c] w fun e w' => e = .returned (.bool true) ∧ Below w.heap.size w w' := by
  obtain ⟨hP, hT⟩ := join_parse hx hall hlim
  have HP := hide hP
  clear hP
  have HC := hide hc
  have HX := hide hx
  clear hc hx
  have HR := hide hall
  have HM := hide hlim
  clear hall hlim
  go_enter Try.func7, Try.ntmps7
  go_wp2_with fail
  refine (all_err s ns r _ hs hp hr).mono ?_; rintro e w1 ⟨rfl, hb1⟩
  go_wp2_with fail
  have hbA := hb1
  have HC1 := hide (cells_below HC.out hbA)
  refine (join_ok b off n c xs _ HX.out (by omega) HC1.out HR.out HM.out).mono ?_; rintro e w2 ⟨rfl, hb2⟩
  have hbB := hbA.trans (hb2.mono hbA.size)
  go_wp2_with fail
  refine (all_ok _ xs _ hT HP.out).mono ?_; rintro e w3 ⟨v3, rfl, hown3, hb3⟩
  have hbC := hbB.trans (hb3.mono hbB.size)
  have HC3 := hide (cells_below HC.out hbC)
  obtain ⟨a3, c3, rfl⟩ := own_shape hown3
  have O3 := hide hown3
  clear hown3
  go_wp2_with fail
  refine (same_in _ w2.heap.size _ b off n c xs HX.out h1 hn O3.out HC3.out).mono ?_; rintro e w4 ⟨rfl, hb4⟩
  have hbZ := hbC.trans (hb4.mono hbC.size)
  go_wp2_with fail
  refine (awake_any _).mono ?_; rintro e w9 ⟨rfl, hb9⟩
  go_wp2_with fail
  go_ret
  exact ⟨rfl, hbZ.trans (hb9.mono hbZ.size)⟩

theorem w_ok_empty (s : ByteArray) (w : World) (hs0 : s.size ≤ 9223372036854775807) (ns : List Int) (hs : s.size ≤ 65535) (hp : Parse (bytesL s) ns []) (a : Option Addr) (c : Nat) :
    Calls Try.prog 7 #[.string s, .slice a 0 c] w fun e w' => e = .returned (.bool true) ∧ Below w.heap.size w w' := by
  have hEq := text_eq hp
  have hLen := text_len hp hs
  go_enter Try.func7, Try.ntmps7
  go_wp2_with fail
  refine (all_ok s ns _ hs hp).mono ?_; rintro e w0 ⟨v0, rfl, hown0, hb0⟩
  obtain ⟨a0, c0, rfl⟩ := own_shape hown0
  have O0 := hide hown0
  clear hown0
  go_wp2_with fail
  refine (join_own _ w.heap.size _ ns O0.out hp.right hLen).mono ?_; rintro e w1 ⟨rfl, hb1⟩
  have hbA := hb0.trans (hb1.mono hb0.size)
  clear O0 hb0 hb1
  go_wp2_with fail
  refine (join_empty a c _).mono ?_; rintro e w2 ⟨rfl, hb2⟩
  have hbB := hbA.trans (hb2.mono hbA.size)
  go_wp2_with fail
  refine (all_ok ⟨#[]⟩ [] _ (Nat.zero_le _) ⟨rfl, by simp, rfl⟩).mono ?_; rintro e w3 ⟨v3, rfl, hown3, hb3⟩
  have hbC := hbB.trans (hb3.mono hbB.size)
  obtain ⟨a3, c3, rfl⟩ := own_shape hown3
  clear hown3
  simp only [List.length_nil]
  go_wp2_with fail
  refine (same_nil _ _ _ _ _).mono ?_; rintro e w4 ⟨rfl, hb4⟩
  have hbZ := hbC.trans (hb4.mono hbC.size)
  go_wp2_with fail
  refine (awake_any _).mono ?_; rintro e w9 ⟨rfl, hb9⟩
  go_wp2_with fail
  go_ret
  exact ⟨rfl, hbZ.trans (hb9.mono hbZ.size)⟩

theorem w_ok_none (s : ByteArray) (w : World) (hs0 : s.size ≤ 9223372036854775807) (ns : List Int) (hs : s.size ≤ 65535) (hp : Parse (bytesL s) ns []) (b off n c : Nat) (xs : List Int) (hx : xs.length = n) (h1 : 0 < n) (hn : n ≤ 5000) (hc : ∀ i, i < n → w.cell? ⟨b, off + i, none⟩ = some (.int .i64 (xs.getD i 0))) (p : Nat) (hp2 : p < n) (hbad : rightB (xs.getD p 0) = false) :
    Calls Try.prog 7 #[.string s, .slice (some ⟨b, off, none⟩) n c] w fun e w' => e = .returned (.bool true) ∧ Below w.heap.size w w' := by
  have hEq := text_eq hp
  have hLen := text_len hp hs
  have HC := hide hc
  have HX := hide hx
  clear hc hx
  have HBAD := hide hbad
  clear hbad
  go_enter Try.func7, Try.ntmps7
  go_wp2_with fail
  refine (all_ok s ns _ hs hp).mono ?_; rintro e w0 ⟨v0, rfl, hown0, hb0⟩
  obtain ⟨a0, c0, rfl⟩ := own_shape hown0
  have O0 := hide hown0
  clear hown0
  go_wp2_with fail
  refine (join_own _ w.heap.size _ ns O0.out hp.right hLen).mono ?_; rintro e w1 ⟨rfl, hb1⟩
  have hbA := hb0.trans (hb1.mono hb0.size)
  clear O0 hb0 hb1
  go_wp2_with fail
  have HC1 := hide (cells_below HC.out hbA)
  refine (join_none b off n c xs _ HX.out (by omega) HC1.out p hp2 HBAD.out).mono ?_; rintro e w2 ⟨rfl, hb2⟩
  have hbZ := hbA.trans (hb2.mono hbA.size)
  go_wp2_with fail
  refine (awake_any _).mono ?_; rintro e w9 ⟨rfl, hb9⟩
  go_wp2_with fail
  go_ret
  exact ⟨rfl, hbZ.trans (hb9.mono hbZ.size)⟩

theorem w_ok_long (s : ByteArray) (w : World) (hs0 : s.size ≤ 9223372036854775807) (ns : List Int) (hs : s.size ≤ 65535) (hp : Parse (bytesL s) ns []) (b off n c : Nat) (xs : List Int) (hx : xs.length = n) (h1 : 0 < n) (hn : n ≤ 5000) (hc : ∀ i, i < n → w.cell? ⟨b, off + i, none⟩ = some (.int .i64 (xs.getD i 0))) (hall : ∀ i, i < n → rightB (xs.getD i 0) = true) (hlim : 65535 < (encAll xs).length) :
    Calls Try.prog 7 #[.string s, .slice (some ⟨b, off, none⟩) n c] w fun e w' => e = .returned (.bool true) ∧ Below w.heap.size w w' := by
  have hEq := text_eq hp
  have hLen := text_len hp hs
  have HC := hide hc
  have HX := hide hx
  clear hc hx
  have HR := hide hall
  have HM := hide hlim
  clear hall hlim
  go_enter Try.func7, Try.ntmps7
  go_wp2_with fail
  refine (all_ok s ns _ hs hp).mono ?_; rintro e w0 ⟨v0, rfl, hown0, hb0⟩
  obtain ⟨a0, c0, rfl⟩ := own_shape hown0
  have O0 := hide hown0
  clear hown0
  go_wp2_with fail
  refine (join_own _ w.heap.size _ ns O0.out hp.right hLen).mono ?_; rintro e w1 ⟨rfl, hb1⟩
  have hbA := hb0.trans (hb1.mono hb0.size)
  clear O0 hb0 hb1
  go_wp2_with fail
  have HC1 := hide (cells_below HC.out hbA)
  refine (join_long b off n c xs _ HX.out (by omega) HC1.out HR.out HM.out).mono ?_; rintro e w2 ⟨rfl, hb2⟩
  have hbZ := hbA.trans (hb2.mono hbA.size)
  go_wp2_with fail
  refine (awake_any _).mono ?_; rintro e w9 ⟨rfl, hb9⟩
  go_wp2_with fail
  go_ret
  exact ⟨rfl, hbZ.trans (hb9.mono hbZ.size)⟩

theorem w_ok_ok (s : ByteArray) (w : World) (hs0 : s.size ≤ 9223372036854775807) (ns : List Int) (hs : s.size ≤ 65535) (hp : Parse (bytesL s) ns []) (b off n c : Nat) (xs : List Int) (hx : xs.length = n) (h1 : 0 < n) (hn : n ≤ 5000) (hc : ∀ i, i < n → w.cell? ⟨b, off + i, none⟩ = some (.int .i64 (xs.getD i 0))) (hall : ∀ i, i < n → rightB (xs.getD i 0) = true) (hlim : (encAll xs).length ≤ 65535) :
    Calls Try.prog 7 #[.string s, .slice (some ⟨b, off, none⟩) n c] w fun e w' => e = .returned (.bool true) ∧ Below w.heap.size w w' := by
  have hEq := text_eq hp
  have hLen := text_len hp hs
  obtain ⟨hP, hT⟩ := join_parse hx hall hlim
  have HP := hide hP
  clear hP
  have HC := hide hc
  have HX := hide hx
  clear hc hx
  have HR := hide hall
  have HM := hide hlim
  clear hall hlim
  go_enter Try.func7, Try.ntmps7
  go_wp2_with fail
  refine (all_ok s ns _ hs hp).mono ?_; rintro e w0 ⟨v0, rfl, hown0, hb0⟩
  obtain ⟨a0, c0, rfl⟩ := own_shape hown0
  have O0 := hide hown0
  clear hown0
  go_wp2_with fail
  refine (join_own _ w.heap.size _ ns O0.out hp.right hLen).mono ?_; rintro e w1 ⟨rfl, hb1⟩
  have hbA := hb0.trans (hb1.mono hb0.size)
  clear O0 hb0 hb1
  go_wp2_with fail
  have HC1 := hide (cells_below HC.out hbA)
  refine (join_ok b off n c xs _ HX.out (by omega) HC1.out HR.out HM.out).mono ?_; rintro e w2 ⟨rfl, hb2⟩
  have hbB := hbA.trans (hb2.mono hbA.size)
  go_wp2_with fail
  refine (all_ok _ xs _ hT HP.out).mono ?_; rintro e w3 ⟨v3, rfl, hown3, hb3⟩
  have hbC := hbB.trans (hb3.mono hbB.size)
  have HC3 := hide (cells_below HC.out hbC)
  obtain ⟨a3, c3, rfl⟩ := own_shape hown3
  have O3 := hide hown3
  clear hown3
  go_wp2_with fail
  refine (same_in _ w2.heap.size _ b off n c xs HX.out h1 hn O3.out HC3.out).mono ?_; rintro e w4 ⟨rfl, hb4⟩
  have hbZ := hbC.trans (hb4.mono hbC.size)
  go_wp2_with fail
  refine (awake_any _).mono ?_; rintro e w9 ⟨rfl, hb9⟩
  go_wp2_with fail
  go_ret
  exact ⟨rfl, hbZ.trans (hb9.mono hbZ.size)⟩

theorem walk (a0 : ByteArray) (a1 : Option Addr) (len1 cap1 : Nat) (z1 : List Int) (w : World) (w0 : a0.size ≤ maxLen) (w1 : IsRow .i64 w a1 len1 cap1 z1) :
    Calls Try.prog 7 #[.string a0, .slice a1 len1 cap1] w fun e w' => e = .returned (.bool true) ∧ Below w.heap.size w w' := by
  unfold maxLen at w0
  by_cases hm : 5000 < len1
  · refine walk_many a0 a1 len1 cap1 w hm ?_
    rcases w1 with ⟨_, h1, _⟩ | ⟨x, _, hl, hm, _⟩
    · omega
    · unfold maxLen at hm; omega
  by_cases h0 : len1 = 0
  · subst h0
    by_cases hl : 65535 < a0.size
    · exact w_long_empty a0 w w0 hl a1 cap1
    · obtain ⟨ns, r, hp⟩ := parse_str a0
      by_cases hr : r = []
      · subst hr; exact w_ok_empty a0 w w0 ns (by omega) hp a1 cap1
      · exact w_err_empty a0 w w0 ns r (by omega) hp hr a1 cap1
  obtain ⟨b, off, xs, rfl, hx, hc⟩ := row_open w1 h0
  rcases bad_or_all xs len1 with ⟨p, hp2, hbad⟩ | hall
  · by_cases hl : 65535 < a0.size
    · exact w_long_none a0 w w0 hl b off len1 cap1 xs hx (by omega) (by omega) hc p hp2 hbad
    · obtain ⟨ns, r, hp⟩ := parse_str a0
      by_cases hr : r = []
      · subst hr; exact w_ok_none a0 w w0 ns (by omega) hp b off len1 cap1 xs hx (by omega) (by omega) hc p hp2 hbad
      · exact w_err_none a0 w w0 ns r (by omega) hp hr b off len1 cap1 xs hx (by omega) (by omega) hc p hp2 hbad
  · by_cases hlim : (encAll xs).length ≤ 65535
    · by_cases hl : 65535 < a0.size
      · exact w_long_ok a0 w w0 hl b off len1 cap1 xs hx (by omega) (by omega) hc hall hlim
      · obtain ⟨ns, r, hp⟩ := parse_str a0
        by_cases hr : r = []
        · subst hr; exact w_ok_ok a0 w w0 ns (by omega) hp b off len1 cap1 xs hx (by omega) (by omega) hc hall hlim
        · exact w_err_ok a0 w w0 ns r (by omega) hp hr b off len1 cap1 xs hx (by omega) (by omega) hc hall hlim
    · by_cases hl : 65535 < a0.size
      · exact w_long_long a0 w w0 hl b off len1 cap1 xs hx (by omega) (by omega) hc hall (by omega)
      · obtain ⟨ns, r, hp⟩ := parse_str a0
        by_cases hr : r = []
        · subst hr; exact w_ok_long a0 w w0 ns (by omega) hp b off len1 cap1 xs hx (by omega) (by omega) hc hall (by omega)
        · exact w_err_long a0 w w0 ns r (by omega) hp hr b off len1 cap1 xs hx (by omega) (by omega) hc hall (by omega)

set_option maxRecDepth 100000 in
theorem lifted (os : Os) (started : os.Started) (H : Type) (enc : TypeId × Value → H) :
    ReturnsInHanded {} Try.checked os 7 .any (Rows.utfBackSpec.pre6 enc Try.prog Try.f7 Rows.utfBackRow.domain false) (Rows.utfBackSpec.post enc Try.prog Try.f7 false true false false) := by
  refine returnsInHanded_of_change (C := Try.checked) own started (by kernel_rfl) Try.func7
    (ChangeSpec.witness6 (enc := enc) (C := Try.checked) false ⟨#[], #[.string ByteArray.empty, .slice none 0 0], []⟩ 8 (by kernel_rfl) (by kernel_rfl) (by kernel_rfl) (by kernel_rfl)) ?_
  intro W base args ds gs before hval0 hW hcnd _
  have hval : ∀ (j : Nat) t v, Try.f7.params[j]? = some t → args[j]? = some v → Value.okWide Try.prog W .any base t v := hval0
  have hW' := hW
  obtain ⟨p, q, hA0, hV, rfl, hfz, hnd⟩ := hW
  have hA : DataW.TrodAll enc Try.prog W 0 (fun _ => true) true Try.f7.params.toList args.toList ds p := hA0
  rw [Try.params7] at hA hval
  obtain ⟨v0, vs0, d0, ds0, p0, q0, hargs, rfl, rfl, h0, r0⟩ := trodAll_cons hA
  obtain ⟨v1, vs1, d1, ds1, p1, q1, rfl, rfl, rfl, h1, r1⟩ := trodAll_cons r0
  obtain ⟨rfl, rfl, rfl⟩ := trodAll_nil r1
  obtain rfl : args = #[v0, v1] := by cases args; simp_all
  obtain ⟨rfl, rfl⟩ := trodVars_none hV
  obtain ⟨a0, rfl, rfl, rfl, w0⟩ := open_string Try.underlying9 (hval 0 9 v0 rfl rfl) h0
  obtain ⟨a1, len1, cap1, rfl⟩ := okWide_slice Try.underlying29 (hval 1 29 v1 rfl rfl)
  have k1 := h1
  have lt1 : ∀ x ∈ p1, x.block < W.heap.size := by obtain ⟨m, hm⟩ := k1; exact DataW.trod_lt m _ _ _ hm
  obtain ⟨z1, w1⟩ : ∃ zs, IsRow .i64 W a1 len1 cap1 zs := by
    obtain ⟨fuel, hf⟩ := h1
    rcases open_ints Try.underlying29 Try.underlying3 (by kernel_rfl) hf with ⟨hcs, _⟩ | ⟨x, l, c, zs, hcs, _, hl, hm, hz, _, hcell, hwz⟩
    · simp [Value.cells] at hcs
      obtain ⟨rfl, rfl, rfl⟩ := hcs
      exact ⟨[], .inl ⟨rfl, rfl, rfl, rfl⟩⟩
    · simp [Value.cells] at hcs
      obtain ⟨rfl, rfl, rfl⟩ := hcs
      exact ⟨zs, .inr ⟨_, rfl, hl, hm, by simpa using hz, hcell, hwz⟩⟩
  clear hA0 hval0
  refine (walk a0 a1 len1 cap1 z1 W w0 w1).mono fun e W' ⟨he, bel⟩ => ?_
  subst he
  exact ⟨_, rfl, _, _, _, [], _, [], hW', trodAll_mk1 (shut_bool Try.underlying4 _), (trodAll_cons_mk (shut_string Try.underlying9 w0) (trodAll_cons_mk (Below.trod laidOut (by kernel_rfl) (of_decide_eq_true (by kernel_rfl)) k1 bel lt1) trodAll_mk0)), rfl, bel.frame _, fun h => by cases h⟩

theorem over : Rows.utfBackRow.holds Try.pinned (OpenSpec.ofChange Rows.utfBackSpec) :=
  OpenClaim.holds_of_wide 7 Try.f7 rfl rfl rfl rfl rfl rfl rfl ⟨rfl, rfl, rfl, rfl, rfl⟩ rfl rfl rfl rfl rfl (by kernel_rfl) Try.func7 (by kernel_rfl)
    (of_decide_eq_true (by kernel_rfl)) (by unfold Func.isWrapper; first | (rw [if_pos (by decide +kernel)]; kernel_rfl) | (rw [if_neg (by decide +kernel)]; exact ⟨rfl, rfl⟩))
    (fun os started H enc _ => lifted os started H enc)

/-- The statement. -/
theorem back_holds : Rows.UtfBackSaid := over
#print axioms back_holds
end Go.Proofs.Ytcmmkdihknjfnaa.utfBack
