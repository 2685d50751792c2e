/- utf.Join lays the bytes of signs one behind the other; or answers ErrNone where one number is no sign; or ErrLong where their bytes are more than 65535. For every slice of ints of at most 2^47 elements; nothing that was there is written. -/
import Derived.Test.YtcmmkdihknjfnaaParse
import Derived.Test.YtcmmkdihknjfnaaBld
import Derived.Test.YtcmmkdihknjfnaaAll
namespace Go.Proofs.Ytcmmkdihknjfnaa
open Go.RowKit
set_option linter.unusedVariables false

/-- The total that utf.Join has reckoned behind j signs: it stops growing beyond the limit. -/
def Tot (xs : List Int) (j t : Nat) : Prop := (t ≤ 65535 ∧ t = offs xs j) ∨ (65535 < t ∧ t ≤ 65539 ∧ 65535 < offs xs j)
theorem tot_0 (xs : List Int) : Tot xs 0 0 := .inl ⟨by omega, by rw [offs_0]⟩
theorem tot_lo {xs : List Int} {j t : Nat} (h : Tot xs j t) (ht : t ≤ 65535) (hj : j < xs.length) : Tot xs (j + 1) (t + wid (xs.getD j 0)) := by
  have hs := offs_succ xs j hj
  have hw := wid_pos (xs.getD j 0)
  rcases h with ⟨h1, h2⟩ | ⟨h1, _⟩
  · by_cases hc : t + wid (xs.getD j 0) ≤ 65535
    · exact .inl ⟨hc, by omega⟩
    · exact .inr ⟨by omega, by omega, by omega⟩
  · omega
theorem tot_hi {xs : List Int} {j t : Nat} (h : Tot xs j t) (ht : 65535 < t) (hj : j < xs.length) : Tot xs (j + 1) t := by
  have hs := offs_succ xs j hj
  rcases h with ⟨h1, h2⟩ | ⟨h1, h2, h3⟩
  · omega
  · exact .inr ⟨h1, h2, by omega⟩
theorem tot_le {xs : List Int} {j t : Nat} (h : Tot xs j t) : t ≤ 65539 := by
  rcases h with ⟨h1, h2⟩ | ⟨h1, h2, h3⟩ <;> omega
theorem tot_ok {xs : List Int} {t : Nat} (h : Tot xs xs.length t) (hl : (encAll xs).length ≤ 65535) : t ≤ 65535 := by
  rw [← offs_all] at hl
  rcases h with ⟨h1, h2⟩ | ⟨h1, h2, h3⟩ <;> omega
theorem tot_long {xs : List Int} {t : Nat} (h : Tot xs xs.length t) (hl : 65535 < (encAll xs).length) : 65535 < t := by
  rw [← offs_all] at hl
  rcases h with ⟨h1, h2⟩ | ⟨h1, h2, h3⟩ <;> omega

theorem builder_below {T e : TypeId} {B b : Nat} {p : Value} {bs : List Value} {w w' : World} (h : Lib.BuilderAt T e B b p bs w) (hb : Below w.heap.size w w') : Lib.BuilderAt T e B b p bs w' := by
  have hlt := h.lt
  obtain ⟨hB, v, h1, h2, h3⟩ := h
  exact ⟨hB, v, (hb.block b hlt).trans h1, own_below h2 hb, h3⟩
theorem isBuilder_below {T e : TypeId} {B b : Nat} {bs : List Value} {w w' : World} (h : Lib.IsBuilder T e B b bs w) (hb : Below w.heap.size w w') : Lib.IsBuilder T e B b bs w' := by
  rcases h with h | h
  · exact .inl (builder_below h hb)
  · exact .inr (builder_below h hb)

/-- The bytes of the first signs, as bytes. -/
def encB (xs : List Int) : List UInt8 := (encAll xs).map fun n => UInt8.ofNat n.toNat
theorem encB_snoc {xs : List Int} {j : Nat} (h : j < xs.length) : Lib.byteCells (encB (xs.take j)) ++ Lib.strCells (enc (xs.getD j 0)) = Lib.byteCells (encB (xs.take (j + 1))) := by
  rw [take_snocI h, Lib.strCells_eq]
  unfold encB Lib.byteCells
  rw [encAll_append, List.map_append, List.map_append]
  congr 1
  show _ = List.map _ (List.map _ (encI (xs.getD j 0) ++ []))
  rw [List.append_nil]
  rfl
theorem enc_size (n : Int) : (enc n).size = wid n := by unfold enc; rw [strOfNums_size, encI_length]
theorem encB_length (xs : List Int) : (Lib.byteCells (encB xs)).length = (encAll xs).length := by simp [Lib.byteCells, encB]

/-- The empty slice, nil or not. -/
theorem join_empty (a : Option Addr) (c : Nat) (w : World) :
    Calls Try.prog 20 #[.slice a 0 c] w fun e w' => e = .returned (.tuple #[.string ⟨#[]⟩, .int .i64 0]) ∧ Below w.heap.size w w' := by
  have hbk : (w.alloc (.cells #[.pointer none, .slice none 0 0] 55)).heap[w.heap.size]? = some (.cells #[.pointer none, .slice none 0 0] 55 (0, 0)) := heap_alloc_new w _
  have hB0 : Below w.heap.size w (w.alloc (.cells #[.pointer none, .slice none 0 0] 55)) := (Below.refl _ _).alloc (Nat.le_refl _) _
  have HG := hide (bld_Grow w.heap.size w.heap.size 0 _ (Nat.le_refl _) hbk (by simp) (by decide))
  clear hbk
  go_enter Try.func20, Try.ntmps20
  go_wp2_with fail
  refine wp_loop_rounds 1 ?_
  rw [rounds_succ]
  go_wp2_with fail
  refine HG.out.mono ?_; rintro e w1 ⟨rfl, hA, hB1⟩
  go_wp2_with fail
  refine wp_loop_rounds 1 ?_
  rw [rounds_succ]
  go_wp2_with fail
  have hB2 := hB0.trans hB1
  refine (bld_String w.heap.size w.heap.size [] _ (.inr hA) hB2.size).mono ?_; rintro e w2 ⟨rfl, hB3⟩
  go_wp2_with fail
  go_ret2
  exact ⟨rfl, hB2.trans hB3⟩

/-- A number that is no sign. -/
theorem join_none (b off n c : Nat) (xs : List Int) (w : World) (hx : xs.length = n) (hn : n ≤ 140737488355328)
    (hc : ∀ i, i < n → w.cell? ⟨b, off + i, none⟩ = some (.int .i64 (xs.getD i 0))) (p : Nat) (hp : p < n) (hbad : rightB (xs.getD p 0) = false) :
    Calls Try.prog 20 #[.slice (some ⟨b, off, none⟩) n c] w fun e w' => e = .returned (.tuple #[.string ⟨#[]⟩, .int .i64 16]) ∧ Below w.heap.size w w' := by
  have HC := hide hc
  have HB := hide hbad
  have HX := hide hx
  clear hc hbad hx
  go_enter Try.func20, Try.ntmps20
  go_wp2_with fail
  go_loop [4, 14] (fun t i => ∃ j u : Nat, j ≤ p ∧ i = .int .i64 j ∧ t = .int .i64 u ∧ Tot xs j u) (fun _ i => n - (intOf i).toNat)
  case atStart => exact ⟨0, 0, Nat.zero_le _, rfl, rfl, tot_0 xs⟩
  case round =>
    obtain ⟨j, u, hj, rfl, rfl, hT⟩ := hrel
    have hlt : j < n := by omega
    have hu := tot_le hT
    have hcell := HC.out j hlt
    have hjx : j < xs.length := by rw [HX.out]; exact hlt
    have hTl := fun h => tot_lo hT h hjx
    have hTh := fun h => tot_hi hT h hjx
    have hw := wid_pos (xs.getD j 0)
    cases hr : rightB (xs.getD j 0) with
    | false =>
      clear hTl hTh
      obtain ⟨x, hxx⟩ : ∃ x, xs.getD j 0 = x := ⟨_, rfl⟩
      rw [hxx] at hcell hr
      clear hw hxx
      go_wp2_with fail
      refine (right_any _ _).mono ?_; rintro e w1 ⟨rfl, rfl⟩
      rw [hr]
      go_wp2_with fail
      go_ret2
      exact ⟨rfl, Below.refl _ _⟩
    | true =>
      have hjp : j ≠ p := fun h => by subst h; rw [HB.out] at hr; cases hr
      obtain ⟨x, hxx⟩ : ∃ x, xs.getD j 0 = x := ⟨_, rfl⟩
      rw [hxx] at hcell hr hTl hw
      have HTl := hide hTl
      have HTh := hide hTh
      clear hTl hTh hxx
      by_cases hle : u ≤ 65535
      · go_wp2_with fail
        refine (right_any _ _).mono ?_; rintro e w1 ⟨rfl, rfl⟩
        rw [hr]
        go_wp2_with fail
        refine (width_any _ _).mono ?_; rintro e w1 ⟨rfl, rfl⟩
        go_wp2_with fail
        go_round
        case rel => exact ⟨j + 1, u + wid x, by omega, by go_num, by go_num, HTl.out hle⟩
        case measure => simp [intOf]; omega
      · go_wp2_with fail
        refine (right_any _ _).mono ?_; rintro e w1 ⟨rfl, rfl⟩
        rw [hr]
        go_wp2_with fail
        go_round
        case rel => exact ⟨j + 1, u, by omega, by go_num, rfl, HTh.out (by omega)⟩
        case measure => simp [intOf]; omega


set_option maxHeartbeats 400000 in
/-- Too long. -/
theorem join_long (b off n c : Nat) (xs : List Int) (w : World) (hx : xs.length = n) (hn : n ≤ 140737488355328)
    (hc : ∀ i, i < n → w.cell? ⟨b, off + i, none⟩ = some (.int .i64 (xs.getD i 0))) (hall : ∀ i, i < n → rightB (xs.getD i 0) = true) (hlim : 65535 < (encAll xs).length) :
    Calls Try.prog 20 #[.slice (some ⟨b, off, none⟩) n c] w fun e w' => e = .returned (.tuple #[.string ⟨#[]⟩, .int .i64 2]) ∧ Below w.heap.size w w' := by
  have HC := hide hc
  have HR := hide hall
  have HX := hide hx
  have HM := hide hlim
  clear hc hall hx hlim
  go_enter Try.func20, Try.ntmps20
  go_wp2_with fail
  go_loop [4, 14] (fun t i => ∃ j u : Nat, j ≤ n ∧ i = .int .i64 j ∧ t = .int .i64 u ∧ Tot xs j u) (fun _ i => n - (intOf i).toNat)
  case atStart => exact ⟨0, 0, Nat.zero_le _, rfl, rfl, tot_0 xs⟩
  case round =>
    obtain ⟨j, u, hj, rfl, rfl, hT⟩ := hrel
    have hu := tot_le hT
    by_cases hlt : j < n
    · have hcell := HC.out j hlt
      have hjx : j < xs.length := by rw [HX.out]; exact hlt
      have hTl := fun h => tot_lo hT h hjx
      have hTh := fun h => tot_hi hT h hjx
      have hw := wid_pos (xs.getD j 0)
      have hr := HR.out j hlt
      obtain ⟨x, hxx⟩ : ∃ x, xs.getD j 0 = x := ⟨_, rfl⟩
      rw [hxx] at hcell hr hTl hw
      have HTl := hide hTl
      have HTh := hide hTh
      clear hTl hTh hxx
      by_cases hle : u ≤ 65535
      · go_wp2_with fail
        refine (right_any _ _).mono ?_; rintro e w1 ⟨rfl, rfl⟩
        rw [hr]
        go_wp2_with fail
        refine (width_any _ _).mono ?_; rintro e w1 ⟨rfl, rfl⟩
        go_wp2_with fail
        go_round
        case rel => exact ⟨j + 1, u + wid x, by omega, by go_num, by go_num, HTl.out hle⟩
        case measure => simp [intOf]; omega
      · go_wp2_with fail
        refine (right_any _ _).mono ?_; rintro e w1 ⟨rfl, rfl⟩
        rw [hr]
        go_wp2_with fail
        go_round
        case rel => exact ⟨j + 1, u, by omega, by go_num, rfl, HTh.out (by omega)⟩
        case measure => simp [intOf]; omega
    · have hjn : j = xs.length := by rw [HX.out]; omega
      have hT2 : Tot xs xs.length u := by rw [← hjn]; exact hT
      have hu2 := tot_long hT2 HM.out
      clear hT hT2 hjn
      go_wp2_with fail
      go_ret2
      exact ⟨rfl, Below.refl _ _⟩

set_option maxHeartbeats 400000 in
/-- All signs. -/
theorem join_ok (b off n c : Nat) (xs : List Int) (w : World) (hx : xs.length = n) (hn : n ≤ 140737488355328)
    (hc : ∀ i, i < n → w.cell? ⟨b, off + i, none⟩ = some (.int .i64 (xs.getD i 0))) (hall : ∀ i, i < n → rightB (xs.getD i 0) = true) (hlim : (encAll xs).length ≤ 65535) :
    Calls Try.prog 20 #[.slice (some ⟨b, off, none⟩) n c] w fun e w' => e = .returned (.tuple #[.string (strOfNums (encAll xs)), .int .i64 0]) ∧ Below w.heap.size w w' := by
  have HC := hide hc
  have HR := hide hall
  have HX := hide hx
  have HM := hide hlim
  clear hc hall hx hlim
  go_enter Try.func20, Try.ntmps20
  go_wp2_with fail
  go_loop [4, 14] (fun t i => ∃ j u : Nat, j ≤ n ∧ i = .int .i64 j ∧ t = .int .i64 u ∧ Tot xs j u) (fun _ i => n - (intOf i).toNat)
  case atStart => exact ⟨0, 0, Nat.zero_le _, rfl, rfl, tot_0 xs⟩
  case round =>
    obtain ⟨j, u, hj, rfl, rfl, hT⟩ := hrel
    have hu := tot_le hT
    by_cases hlt : j < n
    · have hcell := HC.out j hlt
      have hjx : j < xs.length := by rw [HX.out]; exact hlt
      have hTl := fun h => tot_lo hT h hjx
      have hTh := fun h => tot_hi hT h hjx
      have hw := wid_pos (xs.getD j 0)
      have hr := HR.out j hlt
      obtain ⟨x, hxx⟩ : ∃ x, xs.getD j 0 = x := ⟨_, rfl⟩
      rw [hxx] at hcell hr hTl hw
      have HTl := hide hTl
      have HTh := hide hTh
      clear hTl hTh hxx
      by_cases hle : u ≤ 65535
      · go_wp2_with fail
        refine (right_any _ _).mono ?_; rintro e w1 ⟨rfl, rfl⟩
        rw [hr]
        go_wp2_with fail
        refine (width_any _ _).mono ?_; rintro e w1 ⟨rfl, rfl⟩
        go_wp2_with fail
        go_round
        case rel => exact ⟨j + 1, u + wid x, by omega, by go_num, by go_num, HTl.out hle⟩
        case measure => simp [intOf]; omega
      · go_wp2_with fail
        refine (right_any _ _).mono ?_; rintro e w1 ⟨rfl, rfl⟩
        rw [hr]
        go_wp2_with fail
        go_round
        case rel => exact ⟨j + 1, u, by omega, by go_num, rfl, HTh.out (by omega)⟩
        case measure => simp [intOf]; omega
    · have hjn : j = xs.length := by rw [HX.out]; omega
      have hT2 : Tot xs xs.length u := by rw [← hjn]; exact hT
      have hu2 := tot_ok hT2 HM.out
      clear hT hT2 hjn
      have hbk : (w.alloc (.cells #[.pointer none, .slice none 0 0] 55)).heap[w.heap.size]? = some (.cells #[.pointer none, .slice none 0 0] 55 (0, 0)) := heap_alloc_new w _
      have hB0 : Below w.heap.size w (w.alloc (.cells #[.pointer none, .slice none 0 0] 55)) := (Below.refl _ _).alloc (Nat.le_refl _) _
      have HG := hide (bld_Grow w.heap.size w.heap.size u _ (Nat.le_refl _) hbk (by simp) (by omega))
      clear hbk
      go_wp2_with fail
      refine HG.out.mono ?_; rintro e w1 ⟨rfl, hA, hB1⟩
      have hB2 := hB0.trans hB1
      clear HG hB0 hB1
      go_wp2_with fail
      go_loopw [34] (fun i wr => ∃ j : Nat, j ≤ n ∧ i = .int .i64 j ∧ Lib.IsBuilder 55 5 w.heap.size w.heap.size (Lib.byteCells (encB (xs.take j))) wr ∧ Below w.heap.size w wr) (fun i _ => n - (intOf i).toNat)
      case atStart => exact ⟨0, Nat.zero_le _, rfl, .inr hA, hB2⟩
      case round =>
        clear hA hB2
        obtain ⟨k, hk, rfl, hI, hB⟩ := hrel
        by_cases hlt2 : k < n
        · have hc1 := HC.out k hlt2
          have hcell := (hB.cell (World.block_lt_of_cell? w _ hc1)).trans hc1
          have hkx : k < xs.length := by rw [HX.out]; exact hlt2
          have hr := HR.out k hlt2
          have HS := hide (encB_snoc hkx)
          have hle : (encAll (xs.take k)).length ≤ 65535 := Nat.le_trans (offs_le xs k) HM.out
          have hsz := hB.size
          obtain ⟨x, hxx⟩ : ∃ x, xs.getD k 0 = x := ⟨_, rfl⟩
          rw [hxx] at hcell hr HS
          clear hc1 hxx
          go_wp2_with fail
          refine (put_yes _ _ hr).mono ?_; rintro e w2 ⟨rfl, hb2⟩
          have hI2 := isBuilder_below hI hb2
          have hB2 := hB.trans (hb2.mono hsz)
          have hsz2 := hB2.size
          clear hI
          go_wp2_with fail
          refine (bld_WriteString w.heap.size w.heap.size _ (enc x) _ hI2 (by rw [encB_length, enc_size]; have := wid_pos x; omega) hsz2).mono ?_
          rintro e w3 ⟨rfl, hA3, hb3⟩
          rw [HS.out] at hA3
          have hB3 := hB2.trans hb3
          clear hI2 hB2 hb3 hb2
          go_wp2_with fail
          go_roundw
          case rel => exact ⟨k + 1, by omega, by go_num, .inr hA3, hB3⟩
          case measure => simp [intOf]; omega
        · have hkn : k = xs.length := by rw [HX.out]; omega
          rw [hkn, List.take_length] at hI
          clear hkn
          have hsz := hB.size
          go_wp2_with fail
          refine (bld_String w.heap.size w.heap.size _ _ hI hsz).mono ?_; rintro e w2 ⟨rfl, hB3⟩
          go_wp2_with fail
          go_ret2
          exact ⟨rfl, hB.trans hB3⟩

end Go.Proofs.Ytcmmkdihknjfnaa
