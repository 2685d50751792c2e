/- token.All over a text whose tokens are known one by one: all of them, the end behind, in new memory; nothing that was there is written. -/
import Derived.Test.YtcdblhhieihjlaaTokNext
namespace Go.Proofs.Ytcdblhhieihjlaa
open Go.RowKit
set_option linter.unusedVariables false

def NextIs (s : ByteArray) (a : Nat) (k : Int) (u : ByteArray) (m : Nat) : Prop := ∀ w, Calls Try.prog 19 #[.string s, .int .i64 a] w fun e w' => e = .returned (.tuple #[tokV k u a, .int .i64 m]) ∧ Below w.heap.size w w'
def SkipIs (s : ByteArray) (a b : Nat) : Prop := ∀ w, Calls Try.prog 18 #[.string s, .int .i64 a] w fun e w' => e = .returned (.int .i64 b) ∧ w = w'

/-- The first n tokens, as the cells of a row. -/
def cellsT (kd : Nat → Int) (tx : Nat → ByteArray) (ps : Nat → Nat) : Nat → List Value
  | 0 => []
  | n + 1 => cellsT kd tx ps n ++ [.int .i64 (kd n), .string (tx n), .int .i64 (ps n)]
theorem cellsT_length (kd : Nat → Int) (tx : Nat → ByteArray) (ps : Nat → Nat) : ∀ n, (cellsT kd tx ps n).length = n * 3
  | 0 => rfl
  | n + 1 => by rw [cellsT, List.length_append, cellsT_length kd tx ps n]; simp; omega

theorem infoTok : (Try.prog.info? 36).map (fun i => (i.zero, i.size, i.bytes)) = some (some (.agg #[.int .i64 0, .string ⟨#[]⟩, .int .i64 0]), 3, 32) := by kernel_rfl
theorem own_shapeN {w : World} {base : Nat} {e : TypeId} {size : Nat} {v : Value} {n : Nat} {xs : List Value} (h : w.ownsRow base e size v n xs) : ∃ a cap, v = .slice a n cap := by
  rcases h.2 with ⟨rfl, rfl⟩ | ⟨g, cap, cur, rfl, _⟩
  · exact ⟨_, _, rfl⟩
  · exact ⟨_, _, rfl⟩

theorem cells3_at (w : World) (x y z : Value) (t : TypeId) (g : Nat) (hg : g = w.heap.size) : ∀ j u, [x, y, z][j]? = some u → (w.alloc (.cells #[x, y, z] t)).cell? ((⟨g, 0, none⟩ : Addr).add j) = some u := by
  subst hg
  intro j u hu
  rw [Addr.add_lit, Nat.zero_add, World.cell?_alloc_mark]
  simpa using hu
theorem cells3_one (k a : Int) (t : ByteArray) : ∀ u ∈ [Value.int .i64 k, Value.string t, Value.int .i64 a], u.oneCell' = true := by
  intro u hu
  simp at hu
  rcases hu with rfl | rfl | rfl <;> rfl

set_option maxHeartbeats 800000 in
theorem tokAll_ok (s : ByteArray) (ns : List Int) (N : Nat) (kd : Nat → Int) (tx : Nat → ByteArray) (ps sz : Nat → Nat) (w : World) (hs : s.size ≤ 65535) (hp : Parse (bytesL s) ns [])
    (h0 : SkipIs s 0 (ps 0)) (hend : ps N = s.size) (hlt : ∀ k, k < N → ps k < s.size) (hsz : ∀ k, k < N → 0 < sz k ∧ ps k + sz k ≤ ps (k + 1) ∧ ps (k + 1) ≤ s.size)
    (hn : ∀ k, k < N → NextIs s (ps k) (kd k) (tx k) (sz k)) (hk : ∀ k, k < N → SkipIs s (ps k + sz k) (ps (k + 1))) (hN : N ≤ 8192) :
    Calls Try.prog 12 #[.string s] w fun e w' => ∃ v, e = .returned (.tuple #[v, .int .i64 s.size, .int .i64 0]) ∧
      w'.ownsRow w.heap.size 36 3 v (N + 1) (cellsT kd tx ps N ++ [.int .i64 5, .string ⟨#[]⟩, .int .i64 s.size]) ∧ Below w.heap.size w w' := by
  obtain ⟨i0, hi, hz0, hz1, hz2⟩ := info_parts infoTok
  have HP := Lib.hid hp
  have H0 := Lib.hid h0
  have HE := Lib.hid hend
  have HL := Lib.hid hlt
  have HS := Lib.hid hsz
  have HN := Lib.hid hn
  have HK := Lib.hid hk
  obtain ⟨p0, hp0⟩ : ∃ p, ps 0 = p := ⟨_, rfl⟩
  have HP0 := Lib.hid hp0
  rw [hp0] at H0
  clear hp h0 hend hlt hsz hn hk hp0
  go_enter Try.func12, Try.ntmps12
  go_wp2_with fail
  refine (all_ok s ns _ hs HP.out).mono ?_; rintro e w1 ⟨v1, rfl, -, hb1⟩
  have hsz1 := hb1.size
  go_wp2_with fail
  refine (H0.out _).mono ?_; rintro e w2 ⟨rfl, rfl⟩
  go_wp2_with fail
  go_loopw [8, 9] (fun v a wr => ∃ k : Nat, k ≤ N ∧ a = .int .i64 (ps k) ∧ wr.ownsRow w.heap.size 36 3 v k (cellsT kd tx ps k) ∧ Below w.heap.size w wr)
    (fun _ a _ => s.size - (intOf a).toNat)
  case atStart => exact ⟨0, Nat.zero_le _, by rw [HP0.out], World.ownsRow_nil _ _ _ _, hb1⟩
  case round =>
    obtain ⟨k, hk, rfl, hown, hB⟩ := hrel
    have hsize := hB.size
    obtain ⟨a1, c1, rfl⟩ := own_shapeN hown
    by_cases hkn : k < N
    · have h1 := HL.out k hkn
      obtain ⟨h2, h3, h4⟩ := HS.out k hkn
      have HN1 := Lib.hid (HN.out k hkn)
      have HK1 := Lib.hid (HK.out k hkn)
      have hcs : cellsT kd tx ps (k + 1) = cellsT kd tx ps k ++ [.int .i64 (kd k), .string (tx k), .int .i64 (ps k)] := rfl
      have HCS := Lib.hid hcs
      have hd : ((k : Int) == 8192) = false := by simp; omega
      obtain ⟨q, hq⟩ : ∃ q, ps k = q := ⟨_, rfl⟩
      obtain ⟨q2, hq2⟩ : ∃ q2, ps (k + 1) = q2 := ⟨_, rfl⟩
      obtain ⟨m, hm⟩ : ∃ m, sz k = m := ⟨_, rfl⟩
      obtain ⟨u, hu⟩ : ∃ u, tx k = u := ⟨_, rfl⟩
      obtain ⟨d, hdk⟩ : ∃ d, kd k = d := ⟨_, rfl⟩
      have tm : ((m : Int) == 0) = false := by simp; omega
      rw [hq] at h1 h3 HN1 HK1 HCS ⊢
      rw [hq2] at h3 h4 HK1
      rw [hm] at h2 h3 HN1 HK1
      rw [hu, hdk] at HN1 HCS
      have HQ2 := Lib.hid hq2
      have HO := Lib.hid hown
      clear hcs hq hq2 hm hu hdk HL HS HN HK hown
      go_wp2_with fail
      refine (HN1.out _).mono ?_; rintro e w2 ⟨rfl, hb2⟩
      rw [tokV]
      have hown2 := own_below HO.out hb2
      have hB2 := hB.trans (hb2.mono hsize)
      have hsz2 := hB2.size
      clear HO
      go_wp2_with (at_builtin; refine wpList_append_own _ rfl _ _ 31 rfl w.heap.size 36 i0 (.agg #[.int .i64 0, .string ⟨#[]⟩, .int .i64 0]) 3 32 Try.underlying31 hi hz0 hz1 hz2 rfl (by decide) _ _ _ rfl ((hown2.alloc _).alloc _) ⟨w2.heap.size + 1, 0, none⟩ 1 1 [.int .i64 d, .string u, .int .i64 q] rfl rfl ?c1 ?c2 ?c3 ?c4 ?c5 ?_)
      case c1 => exact cells3_at _ _ _ _ _ _ (by simp)
      case c2 => exact cells3_one _ _ _
      case c3 => unfold maxLen; omega
      case c4 => omega
      case c5 => simp; omega
      intro v2 w3 hown3 hg3 _
      have hB3 := below_append ((hB2.alloc hsz2 _).alloc (by simp; omega) _) ((hown2.alloc _).alloc _) hg3 (by simp; omega)
      have hB3' := Lib.hid hB3
      have HO3 := Lib.hid hown3
      clear hg3 hown2 hown3 hB3
      go_wp2_with fail
      refine (HK1.out _).mono ?_; rintro e w4 ⟨rfl, rfl⟩
      go_wp2_with fail
      go_roundw
      case rel => exact ⟨k + 1, by omega, by rw [HQ2.out], by rw [HCS.out]; exact HO3.out, hB3'.out⟩
      case measure => simp [intOf]; omega
    · obtain rfl : k = N := by omega
      rw [HE.out]
      have hd : decide ((s.size : Int) < (s.size : Int)) = false := decide_eq_false (by omega)
      clear HL HS HN HK
      go_wp2_with (at_builtin; refine wpList_append_own _ rfl _ _ 31 rfl w.heap.size 36 i0 (.agg #[.int .i64 0, .string ⟨#[]⟩, .int .i64 0]) 3 32 Try.underlying31 hi hz0 hz1 hz2 rfl (by decide) _ _ _ rfl (hown.alloc _) ⟨wr.heap.size, 0, none⟩ 1 1 [.int .i64 5, .string ⟨#[]⟩, .int .i64 s.size] rfl rfl ?c1 ?c2 ?c3 ?c4 ?c5 ?_)
      case c1 => exact cells3_at _ _ _ _ _ _ (by simp)
      case c2 => exact cells3_one _ _ _
      case c3 => unfold maxLen; omega
      case c4 => omega
      case c5 => simp; omega
      intro v2 w3 hown3 hg3 _
      have hB3 := below_append (hB.alloc hsize _) (hown.alloc _) hg3 (by simp; omega)
      clear hg3 hown
      go_wp2_with fail
      go_ret3
      exact ⟨_, rfl, hown3, hB3⟩

end Go.Proofs.Ytcdblhhieihjlaa
