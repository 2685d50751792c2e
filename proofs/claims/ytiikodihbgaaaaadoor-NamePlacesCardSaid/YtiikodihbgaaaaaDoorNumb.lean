/- A number behind a name: name.numbered, and the document's plain Decimal and numbered: the same bytes. For every text of signs, every number below 10,000; nothing that was there is written. -/
import Derived.Test.YtiikodihbgaaaaaDoorNum
import Derived.Test.YtiikodihbgaaaaaDoorLibC
import Derived.Test.YtiikodihbgaaaaaDoorRefJoin
import Derived.Test.YtiikodihbgaaaaaDoorRight
namespace Go.Proofs.YtiikodihbgaaaaaDoor
open Go.RowKit
set_option linter.unusedVariables false

theorem size_bytes (s : ByteArray) : s.size = (bytesL s).length := (bytesL_length s).symm
theorem bytes_cat (a b : ByteArray) : bytesL (a ++ b) = bytesL a ++ bytesL b := by
  unfold bytesL
  have h : (a ++ b).data.toList = a.data.toList ++ b.data.toList := by simp
  rw [h, List.map_append]
theorem size_cat (a b : ByteArray) : (a ++ b).size = a.size + b.size := by
  rw [size_bytes, bytes_cat, List.length_append, ← size_bytes, ← size_bytes]

/-- strconv.Itoa in bytes. -/
theorem itoa_str (i : Nat) (w : World) (h : i < 100 ∨ (Tab w ∧ i ≤ 9223372036854775807)) :
    Calls Tryd.prog 46 #[.int .i64 i] w fun e w' => ∃ t, e = .returned (.string t) ∧ Hid (bytesL t = digs i) ∧ Below w.heap.size w w' := by
  refine (itoa_any i w h).mono ?_
  rintro e w' ⟨rfl, hb⟩
  exact ⟨_, rfl, Lib.hid rfl, hb⟩

theorem numbered_any (s : ByteArray) (ns : List Int) (i : Nat) (w : World) (hp : Parse (bytesL s) ns []) (hs : s.size ≤ 65535) (hi : i < 10000) (h : i < 100 ∨ Tab w) :
    Calls Tryd.prog 37 #[.string s, .int .i64 i] w fun e w' => ∃ t, e = .returned (.string t) ∧ Hid (bytesL t = numL ns i) ∧ Below w.heap.size w w' := by
  have hb := hp.eq
  rw [List.append_nil] at hb
  have hz : s.size = (encAll ns).length := by rw [size_bytes, hb]
  have HB := Lib.hid hb
  have HBB := Lib.hid hb
  have HZ := Lib.hid hz
  have HR := Lib.hid hp.right
  clear hb hz hp
  have h' : i < 100 ∨ (Tab w ∧ i ≤ 9223372036854775807) := h.imp id (fun t => ⟨t, by omega⟩)
  have HI := Lib.hid h'
  clear h h'
  go_enter Tryd.func37, Tryd.ntmps37
  go_wp2_with fail
  refine (itoa_str i _ HI.out).mono ?_; rintro e w1 ⟨t, rfl, HT, hb1⟩
  have hL : t.size = (digs i).length := by rw [size_bytes, HT.out]
  have hL4 := digs_4 hi
  have hL1 := digs_pos i
  obtain ⟨d, hd⟩ : ∃ d, t.size = d := ⟨_, rfl⟩
  rw [hd] at hL
  rw [← hL] at hL4 hL1
  have HL := Lib.hid hL
  have HD := Lib.hid hd
  clear hL hd
  have hlast : ∀ k : Nat, k ≤ s.size → Hid (k ≤ 40 - d) → Hid (∀ j, j ≤ ns.length → offs ns j ≤ 40 - d → offs ns j ≤ k) → Hid (∃ j, j ≤ ns.length ∧ offs ns j = k) → bytesL (s.extract 0 k ++ t) = numL ns i := by
    intro k hk hk2 hall hex
    obtain ⟨j, hj, rfl⟩ := hex.out
    have hfl := fit_le ns (40 - d) ns.length
    have h1 := hall.out _ hfl (fit_room ns (40 - d) ns.length)
    have h2 := fit_most ns (40 - d) ns.length j hj hk2.out
    have h3 : j = fit ns (40 - d) ns.length := by
      rcases Nat.lt_or_ge j (fit ns (40 - d) ns.length) with e | e
      · have := offs_mono e hfl; omega
      · omega
    rw [bytes_cat, bytesL_extract, HB.out, HT.out]
    unfold numL cutN
    rw [List.drop_zero, Nat.sub_zero, offs_take, ← HL.out, h3]
  have HX := Lib.hid hlast
  clear hlast
  obtain ⟨e0, he0⟩ : ∃ e0, min s.size (40 - d) = e0 := ⟨_, rfl⟩
  have hmin : min (s.size : Int) (40 - (d : Int)) = (e0 : Int) := by omega
  have h1 : e0 ≤ s.size := by omega
  have h2 : e0 ≤ 40 - d := by omega
  have H3 : Hid (∀ j, j ≤ ns.length → offs ns j ≤ 40 - d → offs ns j ≤ e0) := Lib.hid (fun j hj hjm => by have := offs_le ns j; rw [← HZ.out] at this; omega)
  have hD := HD.out
  clear he0 HD HT HI HB HL
  go_wp2_with fail
  go_loop [6] (fun e => ∃ k : Nat, k ≤ e0 ∧ e = .int .i64 k ∧ Hid (∀ j, j ≤ ns.length → offs ns j ≤ 40 - d → offs ns j ≤ k)) (fun e => (intOf e).toNat)
  case atStart => exact ⟨e0, Nat.le_refl _, rfl, H3⟩
  case round =>
    clear hmin
    obtain ⟨k, hk, rfl, HK⟩ := hrel
    have hadd : ∀ a : ByteArray, a.size ≤ 65535 → ((a.size + t.size : Nat) : Int) ≤ 9223372036854775807 := fun a ha => by omega
    by_cases hks : k < s.size
    · have hby := byt_eq s k hks
      have hst := start_iff ns HR.out k (by rw [← HZ.out]; exact hks)
      have hb2 : byt s k = (encAll ns).getD k 0 := by unfold byt; rw [HBB.out]
      rw [← hb2] at hst
      have hlo := byt_lo s k
      have hhi := byt_hi s k
      obtain ⟨b, hb⟩ : ∃ b, byt s k = b := ⟨_, rfl⟩
      rw [hb] at hby hst hlo hhi
      have HST := Lib.hid hst
      clear hst hb hb2
      cases hr : Lib.runeStart b with
      | true =>
        have HF := Lib.hid (HX.out k (by omega) (Lib.hid (by omega)) HK (Lib.hid (HST.out.1 hr)))
        clear HX HK HST H3
        go_wp2_with fail
        refine (runeStart_any _ _ hlo hhi).mono ?_; rintro e w2 ⟨rfl, rfl⟩
        rw [hr]
        go_wp2_with fail
        go_ret
        exact ⟨_, rfl, HF, hb1⟩
      | false =>
        have hk0 : k ≠ 0 := fun e => by
          subst e
          have := HST.out.2 ⟨0, Nat.zero_le _, offs_0 ns⟩
          rw [hr] at this; cases this
        obtain ⟨m, rfl⟩ : ∃ m, k = m + 1 := ⟨k - 1, by omega⟩
        have HM : Hid (∀ j, j ≤ ns.length → offs ns j ≤ 40 - d → offs ns j ≤ m) := Lib.hid (fun j hj hjm => by
          have h := HK.out j hj hjm
          rcases Nat.lt_or_ge (offs ns j) (m + 1) with e | e
          · omega
          · have := HST.out.2 ⟨j, hj, by omega⟩
            rw [hr] at this; cases this)
        clear HX HK HST H3
        go_wp2_with fail
        refine (runeStart_any _ _ hlo hhi).mono ?_; rintro e w2 ⟨rfl, rfl⟩
        rw [hr]
        go_wp2_with fail
        go_round
        case rel => exact ⟨m, by omega, by go_num, HM⟩
        case measure => simp [intOf]
    · obtain rfl : k = s.size := by omega
      have HF := Lib.hid (HX.out s.size (by omega) (Lib.hid (by omega)) HK (Lib.hid ⟨ns.length, Nat.le_refl _, by rw [offs_all]; exact HZ.out.symm⟩))
      clear HX HK H3
      go_wp2_with fail
      go_ret
      exact ⟨_, rfl, Lib.hid (by simpa using HF.out), hb1⟩

/-- scholiumref02.Decimal gives the digits. -/
theorem decimal_any (n : Nat) (w : World) (hn : n < 10000) :
    Calls Tryd.prog 48 #[.int .i64 n] w fun e w' => ∃ t, e = .returned (.string t) ∧ Hid (bytesL t = digs n) ∧ Below w.heap.size w w' := by
  go_enter Tryd.func48, Tryd.ntmps48
  go_wp2_with fail
  go_loopw [0, 3] (fun m s wr => ∃ (k : Nat) (t : ByteArray), k ≤ n ∧ m = .int .i64 k ∧ s = .string t ∧ Hid (digs n = digs k ++ bytesL t) ∧ Below w.heap.size w wr) (fun m _ _ => (intOf m).toNat)
  case atStart => exact ⟨n, ⟨#[]⟩, Nat.le_refl _, rfl, rfl, Lib.hid (List.append_nil _).symm, Below.refl _ _⟩
  case round =>
    obtain ⟨k, t, hk, rfl, rfl, HK, hB⟩ := hrel
    have hsz := hB.size
    have hlt : t.size ≤ 4 := by
      have h := congrArg List.length HK.out
      rw [List.length_append, bytesL_length] at h
      have := digs_4 hn
      omega
    by_cases h10 : 10 ≤ k
    · have hbig := digs_big (i := k) (by omega)
      obtain ⟨m, hm⟩ : ∃ m, k % 10 = m := ⟨_, rfl⟩
      obtain ⟨q, hq⟩ : ∃ q, k / 10 = q := ⟨_, rfl⟩
      rw [hm, hq] at hbig
      have hm10 : m < 10 := by omega
      have hqk : q < k := by omega
      have em : (k : Int) % 10 = (m : Int) := by omega
      have eq : (k : Int) / 10 = (q : Int) := by omega
      have HH := Lib.hid hbig
      clear hbig hm hq
      obtain ⟨x, hx⟩ : ∃ x : Int, x = 48 + (m : Int) := ⟨_, rfl⟩
      have hx0 : 48 ≤ x := by omega
      have hx1 : x ≤ 57 := by omega
      have ex : 48 + (m : Int) = x := hx.symm
      have hc := conv_new wr #[.int .u8 x] 5 (0, 0) [x] 1 1 rfl (by intro i hi; match i, hi with | 0, _ => rfl)
      have hs1 : (strOfNums [x]).size = 1 := strOfNums_size _
      have HX : Hid (bytesL (strOfNums [x]) = [((48 + m : Nat) : Int)]) := Lib.hid (by rw [bytesL_strOfNums _ (by intro y hy; simp at hy; omega)]; rw [hx]; simp)
      clear hx
      go_wp2_with fail
      go_roundw
      case rel =>
        refine ⟨q, _, by omega, by go_num, rfl, Lib.hid ?_, hB.alloc hsz _⟩
        rw [HK.out, HH.out, bytes_cat, HX.out, List.append_assoc]
      case measure => simp [intOf]; omega
    · have hsm := digs_small (i := k) (by omega)
      have HH := Lib.hid hsm
      clear hsm
      obtain ⟨x, hx⟩ : ∃ x : Int, x = 48 + (k : Int) := ⟨_, rfl⟩
      have hx0 : 48 ≤ x := by omega
      have hx1 : x ≤ 57 := by omega
      have ex : 48 + (k : Int) = x := hx.symm
      have hc := conv_new wr #[.int .u8 x] 5 (0, 0) [x] 1 1 rfl (by intro i hi; match i, hi with | 0, _ => rfl)
      have hs1 : (strOfNums [x]).size = 1 := strOfNums_size _
      have HX : Hid (bytesL (strOfNums [x]) = [((48 + k : Nat) : Int)]) := Lib.hid (by rw [bytesL_strOfNums _ (by intro y hy; simp at hy; omega)]; rw [hx]; simp)
      clear hx
      go_wp2_with fail
      go_ret
      refine ⟨_, rfl, Lib.hid ?_, hB.alloc hsz _⟩
      rw [HK.out, HH.out, bytes_cat, HX.out]

theorem slice_take {w : World} {g n : Nat} {xs : List Int} (hc : ∀ i, i < n → w.cell? ⟨g, i, none⟩ = some (.int .i64 (xs.getD i 0))) (hx : xs.length = n) (j : Nat) (hj : j ≤ n) :
    ∀ i, i < j → w.cell? ⟨g, 0 + i, none⟩ = some (.int .i64 ((xs.take j).getD i 0)) := by
  intro i hi
  rw [Nat.zero_add, hc i (by omega)]
  simp [List.getD, hi]

/-- scholiumref01.Join of the first signs of a row that a call made. -/
theorem join_take (g n cap j : Nat) (ns : List Int) (w : World) (hn : ns.length = n) (hj : j ≤ n) (hm : n ≤ 65535) (hr : ∀ x ∈ ns, rightB x = true) (hl : (encAll ns).length ≤ 65535)
    (hc : ∀ i, i < n → w.cell? ⟨g, i, none⟩ = some (.int .i64 (ns.getD i 0))) :
    Calls Tryd.prog 49 #[.slice (some ⟨g, 0, none⟩) j cap] w fun e w' => ∃ t, e = .returned (.tuple #[.string t, .int .i64 0]) ∧ Hid (bytesL t = encAll (ns.take j)) ∧ Hid (t.size = offs ns j) ∧ Below w.heap.size w w' := by
  have hright : ∀ x ∈ ns.take j, rightB x = true := fun x hx => hr x (List.mem_of_mem_take hx)
  have hlen : (ns.take j).length = j := by rw [List.length_take]; omega
  have hoff : (encAll (ns.take j)).length ≤ 65535 := by have := offs_le ns j; unfold offs at this; omega
  refine (refJoin_ok g 0 j cap (ns.take j) w hlen (by omega) (slice_take hc hn j hj) (fun i hi => hright _ (getD_mem (by omega))) hoff).mono ?_
  rintro e w' ⟨rfl, hb⟩
  have hby : bytesL (strOfNums (encAll (ns.take j))) = encAll (ns.take j) := bytesL_strOfNums _ (fun x hx => by
    obtain ⟨m, hm, hx⟩ := encAll_mem hx
    have := rightB_true.1 (hright m hm)
    exact encI_bytes this.1 this.2.1 x hx)
  exact ⟨_, rfl, Lib.hid hby, Lib.hid (by rw [size_bytes, hby]; rfl), hb⟩

def lenOf : Value → Nat
  | .slice _ n _ => n
  | _ => 0

set_option maxHeartbeats 400000 in
theorem refNumbered_any (s : ByteArray) (ns : List Int) (i : Nat) (w : World) (hp : Parse (bytesL s) ns []) (hs : s.size ≤ 65535) (hpos : 0 < ns.length) (hi : i < 10000) :
    Calls Tryd.prog 38 #[.string s, .int .i64 i] w fun e w' => ∃ t, e = .returned (.string t) ∧ Hid (bytesL t = numL ns i) ∧ Below w.heap.size w w' := by
  have hb := hp.eq
  rw [List.append_nil] at hb
  have hz : s.size = (encAll ns).length := by rw [size_bytes, hb]
  have hlen : ns.length ≤ s.size := by rw [hz]; exact length_encAll ns
  have HP := Lib.hid hp
  have HZ := Lib.hid hz
  clear hb hz hp
  go_enter Tryd.func38, Tryd.ntmps38
  go_wp2_with fail
  refine (decimal_any i _ hi).mono ?_; rintro e w1 ⟨t, rfl, HT, hb1⟩
  have hL : t.size = (digs i).length := by rw [size_bytes, HT.out]
  have hL4 := digs_4 hi
  have hL1 := digs_pos i
  obtain ⟨d, hd⟩ : ∃ d, t.size = d := ⟨_, rfl⟩
  rw [hd] at hL
  rw [← hL] at hL4 hL1
  have HL := Lib.hid hL
  have HD := Lib.hid hd
  have hsz1 := hb1.size
  clear hL hd
  go_wp2_with fail
  refine (refAll_ok s ns _ hs HP.out).mono ?_; rintro e w2 ⟨v, rfl, hown, hb2⟩
  have hB2 := hb1.trans (hb2.mono hsz1)
  have hsz2 := hB2.size
  obtain ⟨n, hn⟩ : ∃ n, ns.length = n := ⟨_, rfl⟩
  rw [hn] at hown hpos hlen
  obtain ⟨g, cap, rfl, hlt, hc⟩ := own_cells' hown hn hpos
  have hcap : n ≤ cap := by
    rcases hown.2 with ⟨hv, _⟩ | ⟨g', cap', cur, hv, _, hg, hr⟩
    · cases hv
    · cases hv; first | exact hg | (have := hr; omega)
  clear hown
  have HN := Lib.hid hn
  have hmn : n ≤ 65535 := by omega
  have hel : (encAll ns).length ≤ 65535 := by rw [← HZ.out]; exact hs
  have HE := Lib.hid hel
  have HR := Lib.hid HP.out.right
  have HC := Lib.hid hc
  have HLt := Lib.hid hlt
  clear hn hc hel HP hlt
  go_wp2_with fail
  refine (join_take g n cap n ns _ HN.out (Nat.le_refl _) hmn HR.out HE.out HC.out).mono ?_; rintro e w3 ⟨t3, rfl, HT3, HS3, hb3⟩
  have hD := HD.out
  have hB3 := hB2.trans (hb3.mono hsz2)
  have hsz3 := hB3.size
  have hs23 := hb3.size
  have hc3 : ∀ i, i < n → w3.cell? ⟨g, i, none⟩ = some (.int .i64 (ns.getD i 0)) := fun i hi => (hb3.cell (p := ⟨g, i, none⟩) HLt.out).trans (HC.out i hi)
  have HC3 := Lib.hid hc3
  have H0 : Hid (∀ j', j' ≤ n → offs ns j' ≤ 40 - d → j' ≤ n) := Lib.hid (fun j' h _ => h)
  clear HC hc3 hb3 hb2 hb1 HD hsz1 hsz2 hB2
  go_wp2_with fail
  go_loopw [6, 9] (fun l u wr => ∃ (j : Nat) (t' : ByteArray), j ≤ n ∧ l = .slice (some ⟨g, 0, none⟩) j cap ∧ u = .string t' ∧ Hid (bytesL t' = encAll (ns.take j)) ∧ Hid (t'.size = offs ns j) ∧ Hid (∀ j', j' ≤ n → offs ns j' ≤ 40 - d → j' ≤ j) ∧ Below w3.heap.size w3 wr)
    (fun l _ _ => lenOf l)
  case atStart => exact ⟨n, t3, Nat.le_refl _, rfl, rfl, by have := HT3.out; exact Lib.hid this, HS3, H0, Below.refl _ _⟩
  case round =>
    obtain ⟨j, t', hj, rfl, rfl, HT', HS', HK, hB⟩ := hrel
    have hszr := hB.size
    obtain ⟨q, hq⟩ : ∃ q, t'.size = q := ⟨_, rfl⟩
    have hq2 : q ≤ 65535 := by rw [← hq, HS'.out]; exact Nat.le_trans (offs_le ns j) HE.out
    have HQ : Hid (offs ns j = q) := Lib.hid (by rw [← HS'.out]; exact hq)
    by_cases h40 : 40 < q + d
    · have hj0 : j ≠ 0 := fun e => by
        subst e
        have := HQ.out
        rw [offs_0] at this
        omega
      obtain ⟨m, rfl⟩ : ∃ m, j = m + 1 := ⟨j - 1, by omega⟩
      have HM : Hid (∀ j', j' ≤ n → offs ns j' ≤ 40 - d → j' ≤ m) := Lib.hid (fun j' h1 h2 => by
        have h := HK.out j' h1 h2
        rcases Nat.lt_or_ge j' (m + 1) with e | e
        · omega
        · have e2 : j' = m + 1 := by omega
          rw [e2, HQ.out] at h2
          omega)
      have hcr : ∀ i, i < n → wr.cell? ⟨g, i, none⟩ = some (.int .i64 (ns.getD i 0)) := fun i hi => (hB.cell (p := ⟨g, i, none⟩) (Nat.lt_of_lt_of_le HLt.out hs23)).trans (HC3.out i hi)
      have HCR := Lib.hid hcr
      clear hcr HK HS' HT'
      go_wp2_with fail
      refine (join_take g n cap m ns _ HN.out (by omega) hmn HR.out HE.out HCR.out).mono ?_; rintro e w4 ⟨t4, rfl, HT4, HS4, hb4⟩
      have hB4 := hB.trans (hb4.mono hszr)
      clear hb4 hB
      go_wp2_with fail
      go_roundw
      case rel => exact ⟨m, t4, by omega, rfl, rfl, HT4, HS4, HM, hB4⟩
      case measure => simp [lenOf]
    · have hjf : j = fit ns (40 - d) ns.length := by
        have h1 := fit_le ns (40 - d) ns.length
        have h2 := HK.out _ (by rw [← HN.out]; exact h1) (fit_room ns (40 - d) ns.length)
        have h3 := fit_most ns (40 - d) ns.length j (by rw [HN.out]; exact hj) (by rw [HQ.out]; omega)
        omega
      have HF : Hid (bytesL (t' ++ t) = numL ns i) := Lib.hid (by
        rw [bytes_cat, HT'.out, HT.out]
        unfold numL cutN
        rw [← HL.out, hjf])
      clear hjf HK HT' HS' HQ
      go_wp2_with fail
      go_ret
      exact ⟨_, rfl, HF, hB3.trans (hB.mono hsz3)⟩

end Go.Proofs.YtiikodihbgaaaaaDoor
