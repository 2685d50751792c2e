/- A sign's bytes, as numbers and as a string; a new row of bytes turned into a string. No program but its types. -/
import Derived.Test.YtmaomnpanfdjeaaDoorLeaf
import Derived.Test.YtmaomnpanfdjeaaDoorBits
import Derived.LoopN
import Derived.Laws.BytesArg
import Derived.Laws.IdiomStrings
namespace Go.Proofs.YtmaomnpanfdjeaaDoor
open Go.RowKit

/-- A new row of bytes turned into a string. -/
theorem conv_new (w : World) (C : Array Value) (T : TypeId) (fr : Nat × Nat) (xs : List Int) (n cap : Nat) (hn : xs.length = n) (h : ∀ i, i < n → C[i]? = some (.int .u8 (xs.getD i 0))) :
    (convert 53 9 (.slice (some ⟨w.heap.size, 0, none⟩) n cap)).run Tryd.prog (w.alloc (.cells C T fr)) = .ok (.string (strOfNums xs)) (w.alloc (.cells C T fr)) :=
  run_convert_bytes_arg (P := Tryd.prog) (w.alloc (.cells C T fr)) 53 5 Tryd.underlying53 Tryd.underlying5 w.heap.size 0 n cap xs hn
    (fun i hi => by rw [Nat.zero_add, World.cell?_alloc_mark]; exact h i hi) 9 Tryd.underlying9

/-- A sign's bytes, as numbers. -/
def encI (n : Int) : List Int :=
  if n ≤ 127 then [n] else if n ≤ 2047 then [192 + n / 64, 128 + n % 64]
  else if n ≤ 65535 then [224 + n / 64 / 64, 128 + n / 64 % 64, 128 + n % 64]
  else [240 + n / 64 / 64 / 64, 128 + n / 64 / 64 % 64, 128 + n / 64 % 64, 128 + n % 64]
def enc (n : Int) : ByteArray := strOfNums (encI n)

theorem encI_1 {n : Int} (h : n ≤ 127) : encI n = [n] := if_pos h
theorem encI_2 {n : Int} (h0 : 128 ≤ n) (h1 : n ≤ 2047) : encI n = [192 + n / 64, 128 + n % 64] := by
  unfold encI; rw [if_neg (by omega), if_pos h1]
theorem encI_3 {n : Int} (h0 : 2048 ≤ n) (h1 : n ≤ 65535) : encI n = [224 + n / 64 / 64, 128 + n / 64 % 64, 128 + n % 64] := by
  unfold encI; rw [if_neg (by omega), if_neg (by omega), if_pos h1]
theorem encI_4 {n : Int} (h0 : 65536 ≤ n) : encI n = [240 + n / 64 / 64 / 64, 128 + n / 64 / 64 % 64, 128 + n / 64 % 64, 128 + n % 64] := by
  unfold encI; rw [if_neg (by omega), if_neg (by omega), if_neg (by omega)]
theorem encI_length (n : Int) : (encI n).length = wid n := by
  unfold encI wid; (repeat' split) <;> rfl

end Go.Proofs.YtmaomnpanfdjeaaDoor
