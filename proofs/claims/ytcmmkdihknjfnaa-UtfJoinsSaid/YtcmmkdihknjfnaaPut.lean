/- utf.Put gives, for every sign, the sign's bytes, and ErrNone for what is no sign; nothing that was there is written. No condition. -/
import Derived.Test.YtcmmkdihknjfnaaLeaf
import Derived.Test.YtcmmkdihknjfnaaBits
import Derived.LoopN
import Derived.Laws.BytesArg
import Derived.Laws.IdiomStrings
namespace Go.Proofs.Ytcmmkdihknjfnaa
open Go.RowKit

/-- A new row of bytes turned into a string. -/
theorem conv_new (w : World) (C : Array Value) (T : TypeId) (fr : Nat × Nat) (xs : List Int) (n cap : Nat) (hn : xs.length = n) (h : ∀ i, i < n → C[i]? = some (.int .u8 (xs.getD i 0))) :
    (convert 46 9 (.slice (some ⟨w.heap.size, 0, none⟩) n cap)).run Try.prog (w.alloc (.cells C T fr)) = .ok (.string (strOfNums xs)) (w.alloc (.cells C T fr)) :=
  run_convert_bytes_arg (P := Try.prog) (w.alloc (.cells C T fr)) 46 5 Try.underlying46 Try.underlying5 w.heap.size 0 n cap xs hn
    (fun i hi => by rw [Nat.zero_add, World.cell?_alloc_mark]; exact h i hi) 9 Try.underlying9

/-- A sign's bytes, as numbers. -/
def encI (n : Int) : List Int :=
  if n ≤ 127 then [n] else if n ≤ 2047 then [192 + n / 64, 128 + n % 64]
  else if n ≤ 65535 then [224 + n / 64 / 64, 128 + n / 64 % 64, 128 + n % 64]
  else [240 + n / 64 / 64 / 64, 128 + n / 64 / 64 % 64, 128 + n / 64 % 64, 128 + n % 64]
def enc (n : Int) : ByteArray := strOfNums (encI n)

theorem encI_1 {n : Int} (h : n ≤ 127) : encI n = [n] := if_pos h
theorem encI_2 {n : Int} (h0 : 128 ≤ n) (h1 : n ≤ 2047) : encI n = [192 + n / 64, 128 + n % 64] := by
  unfold encI; rw [if_neg (by omega), if_pos h1]
theorem encI_3 {n : Int} (h0 : 2048 ≤ n) (h1 : n ≤ 65535) : encI n = [224 + n / 64 / 64, 128 + n / 64 % 64, 128 + n % 64] := by
  unfold encI; rw [if_neg (by omega), if_neg (by omega), if_pos h1]
theorem encI_4 {n : Int} (h0 : 65536 ≤ n) : encI n = [240 + n / 64 / 64 / 64, 128 + n / 64 / 64 % 64, 128 + n / 64 % 64, 128 + n % 64] := by
  unfold encI; rw [if_neg (by omega), if_neg (by omega), if_neg (by omega)]
theorem encI_length (n : Int) : (encI n).length = wid n := by
  unfold encI wid; (repeat' split) <;> rfl

theorem put_no (n : Int) (w : World) (hr : rightB n = false) :
    Calls Try.prog 16 #[.int .i64 n] w fun e w' => e = .returned (.tuple #[.string ⟨#[]⟩, .int .i64 16]) ∧ Below w.heap.size w w' := by
  go_enter Try.func16, Try.ntmps16
  go_wp2_with fail
  refine (right_any _ _).mono ?_; rintro e w' ⟨rfl, rfl⟩
  rw [hr]
  go_wp2_with fail
  go_ret2
  exact ⟨rfl, Below.refl _ _⟩

theorem put_1 (n : Int) (w : World) (h0 : 0 ≤ n) (h1 : n ≤ 127) :
    Calls Try.prog 16 #[.int .i64 n] w fun e w' => e = .returned (.tuple #[.string (strOfNums [n]), .int .i64 0]) ∧ Below w.heap.size w w' := by
  have hr : rightB n = true := rightB_true.2 (by omega)
  have hw : wid n = 1 := by unfold wid; rw [if_pos (by omega)]
  have o4 : bits .or .i64 0 n = n := or_0 _ (by omega) (by omega)
  have hc := conv_new w #[.int .u8 n, .int .u8 0, .int .u8 0, .int .u8 0] 51 (0, 0) [n] 1 4 rfl (by intro i hi; match i, hi with | 0, _ => rfl)
  go_enter Try.func16, Try.ntmps16
  go_wp2_with fail
  refine (right_any _ _).mono ?_; rintro e w' ⟨rfl, rfl⟩
  rw [hr]
  go_wp2_with fail
  refine (width_any _ _).mono ?_; rintro e w' ⟨rfl, rfl⟩
  rw [hw]; clear hw hr
  go_wp2_with fail
  refine wp_loop_rounds 1 ?_
  rw [rounds_succ]
  go_wp2_with fail
  refine (head_1 _).mono ?_; rintro e w' ⟨rfl, rfl⟩
  go_wp2_with fail
  go_ret2
  exact ⟨rfl, (Below.refl _ _).alloc (Nat.le_refl _) _⟩

theorem put_2 (n : Int) (w : World) (h0 : 128 ≤ n) (h1 : n ≤ 2047) :
    Calls Try.prog 16 #[.int .i64 n] w fun e w' => e = .returned (.tuple #[.string (strOfNums [192 + n / 64, 128 + n % 64]), .int .i64 0]) ∧ Below w.heap.size w w' := by
  have hr : rightB n = true := rightB_true.2 (by omega)
  have hw : wid n = 2 := by unfold wid; rw [if_neg (by omega), if_pos (by omega)]
  have a1 : bits .and .i64 n 63 = n % 64 := and63 n (by omega) (by omega)
  have o1 : bits .or .i64 128 (n % 64) = 128 + n % 64 := or_128 _ (by omega) (by omega)
  have o4 : bits .or .i64 192 (n / 64) = 192 + n / 64 := or_192 _ (by omega) (by omega)
  have hc := conv_new w #[.int .u8 (192 + n / 64), .int .u8 (128 + n % 64), .int .u8 0, .int .u8 0] 51 (0, 0) [192 + n / 64, 128 + n % 64] 2 4 rfl
    (by intro i hi; match i, hi with | 0, _ => rfl | 1, _ => rfl)
  go_enter Try.func16, Try.ntmps16
  go_wp2_with fail
  refine (right_any _ _).mono ?_; rintro e w' ⟨rfl, rfl⟩
  rw [hr]
  go_wp2_with fail
  refine (width_any _ _).mono ?_; rintro e w' ⟨rfl, rfl⟩
  rw [hw]; clear hw hr
  go_wp2_with fail
  refine wp_loop_rounds 2 ?_
  rw [rounds_succ]
  go_wp2_with fail
  rw [rounds_succ]
  go_wp2_with fail
  refine (head_2 _).mono ?_; rintro e w' ⟨rfl, rfl⟩
  go_wp2_with fail
  go_ret2
  exact ⟨rfl, (Below.refl _ _).alloc (Nat.le_refl _) _⟩

theorem put_3 (n : Int) (w : World) (h0 : 2048 ≤ n) (h1 : n ≤ 65535) (hr : rightB n = true) :
    Calls Try.prog 16 #[.int .i64 n] w fun e w' => e = .returned (.tuple #[.string (strOfNums [224 + n / 64 / 64, 128 + n / 64 % 64, 128 + n % 64]), .int .i64 0]) ∧ Below w.heap.size w w' := by
  have hw : wid n = 3 := by unfold wid; rw [if_neg (by omega), if_neg (by omega), if_pos (by omega)]
  have a1 : bits .and .i64 n 63 = n % 64 := and63 n (by omega) (by omega)
  have a2 : bits .and .i64 (n / 64) 63 = n / 64 % 64 := and63 _ (by omega) (by omega)
  have o1 : bits .or .i64 128 (n % 64) = 128 + n % 64 := or_128 _ (by omega) (by omega)
  have o2 : bits .or .i64 128 (n / 64 % 64) = 128 + n / 64 % 64 := or_128 _ (by omega) (by omega)
  have o4 : bits .or .i64 224 (n / 64 / 64) = 224 + n / 64 / 64 := or_224 _ (by omega) (by omega)
  have hc := conv_new w #[.int .u8 (224 + n / 64 / 64), .int .u8 (128 + n / 64 % 64), .int .u8 (128 + n % 64), .int .u8 0] 51 (0, 0) [224 + n / 64 / 64, 128 + n / 64 % 64, 128 + n % 64] 3 4 rfl
    (by intro i hi; match i, hi with | 0, _ => rfl | 1, _ => rfl | 2, _ => rfl)
  go_enter Try.func16, Try.ntmps16
  go_wp2_with fail
  refine (right_any _ _).mono ?_; rintro e w' ⟨rfl, rfl⟩
  rw [hr]
  go_wp2_with fail
  refine (width_any _ _).mono ?_; rintro e w' ⟨rfl, rfl⟩
  rw [hw]; clear hw hr
  go_wp2_with fail
  refine wp_loop_rounds 3 ?_
  rw [rounds_succ]
  go_wp2_with fail
  rw [rounds_succ]
  go_wp2_with fail
  rw [rounds_succ]
  go_wp2_with fail
  refine (head_3 _).mono ?_; rintro e w' ⟨rfl, rfl⟩
  go_wp2_with fail
  go_ret2
  exact ⟨rfl, (Below.refl _ _).alloc (Nat.le_refl _) _⟩

theorem put_4 (n : Int) (w : World) (h0 : 65536 ≤ n) (h1 : n ≤ 1114111) :
    Calls Try.prog 16 #[.int .i64 n] w fun e w' => e = .returned (.tuple #[.string (strOfNums [240 + n / 64 / 64 / 64, 128 + n / 64 / 64 % 64, 128 + n / 64 % 64, 128 + n % 64]), .int .i64 0]) ∧ Below w.heap.size w w' := by
  have hr : rightB n = true := rightB_true.2 (by omega)
  have hw : wid n = 4 := by unfold wid; rw [if_neg (by omega), if_neg (by omega), if_neg (by omega)]
  have a1 : bits .and .i64 n 63 = n % 64 := and63 n (by omega) (by omega)
  have a2 : bits .and .i64 (n / 64) 63 = n / 64 % 64 := and63 _ (by omega) (by omega)
  have a3 : bits .and .i64 (n / 64 / 64) 63 = n / 64 / 64 % 64 := and63 _ (by omega) (by omega)
  have o1 : bits .or .i64 128 (n % 64) = 128 + n % 64 := or_128 _ (by omega) (by omega)
  have o2 : bits .or .i64 128 (n / 64 % 64) = 128 + n / 64 % 64 := or_128 _ (by omega) (by omega)
  have o3 : bits .or .i64 128 (n / 64 / 64 % 64) = 128 + n / 64 / 64 % 64 := or_128 _ (by omega) (by omega)
  have o4 : bits .or .i64 240 (n / 64 / 64 / 64) = 240 + n / 64 / 64 / 64 := or_240 _ (by omega) (by omega)
  have hc := conv_new w #[.int .u8 (240 + n / 64 / 64 / 64), .int .u8 (128 + n / 64 / 64 % 64), .int .u8 (128 + n / 64 % 64), .int .u8 (128 + n % 64)] 51 (0, 0) [240 + n / 64 / 64 / 64, 128 + n / 64 / 64 % 64, 128 + n / 64 % 64, 128 + n % 64] 4 4 rfl
    (by intro i hi; match i, hi with | 0, _ => rfl | 1, _ => rfl | 2, _ => rfl | 3, _ => rfl)
  go_enter Try.func16, Try.ntmps16
  go_wp2_with fail
  refine (right_any _ _).mono ?_; rintro e w' ⟨rfl, rfl⟩
  rw [hr]
  go_wp2_with fail
  refine (width_any _ _).mono ?_; rintro e w' ⟨rfl, rfl⟩
  rw [hw]; clear hw hr
  go_wp2_with fail
  refine wp_loop_rounds 4 ?_
  rw [rounds_succ]
  go_wp2_with fail
  rw [rounds_succ]
  go_wp2_with fail
  rw [rounds_succ]
  go_wp2_with fail
  rw [rounds_succ]
  go_wp2_with fail
  refine (head_4 _).mono ?_; rintro e w' ⟨rfl, rfl⟩
  go_wp2_with fail
  go_ret2
  exact ⟨rfl, (Below.refl _ _).alloc (Nat.le_refl _) _⟩

/-- utf.Put at a sign. -/
theorem put_yes (n : Int) (w : World) (hr : rightB n = true) :
    Calls Try.prog 16 #[.int .i64 n] w fun e w' => e = .returned (.tuple #[.string (enc n), .int .i64 0]) ∧ Below w.heap.size w w' := by
  have hb := rightB_true.1 hr
  unfold enc
  by_cases h1 : n ≤ 127
  · rw [encI_1 h1]; exact put_1 n w (by omega) h1
  · by_cases h2 : n ≤ 2047
    · rw [encI_2 (by omega) h2]; exact put_2 n w (by omega) h2
    · by_cases h3 : n ≤ 65535
      · rw [encI_3 (by omega) h3]; exact put_3 n w (by omega) h3 hr
      · rw [encI_4 (by omega)]; exact put_4 n w (by omega) (by omega)

end Go.Proofs.Ytcmmkdihknjfnaa
