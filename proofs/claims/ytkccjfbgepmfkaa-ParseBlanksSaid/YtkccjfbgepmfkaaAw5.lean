/- The law of parse is awake. -/
import Derived.Test.YtkccjfbgepmfkaaAw5F
import Derived.Test.YtkccjfbgepmfkaaC9
namespace Go.Proofs.Ytkccjfbgepmfkaa
open Go.RowKit
set_option linter.unusedVariables false
set_option maxRecDepth 100000

set_option maxHeartbeats 4000000 in
theorem awake5_any (w : World) : Calls Try.prog 5 #[] w fun e w' => e = .returned (.bool true) ∧ Below w.heap.size w w' := by
  obtain ⟨d0, d1, r0, r1, p, z, hz, h2, h3, h4, h5, hc⟩ := aw_says
  have HC := Lib.hid hc
  clear hc
  go_enter Try.func5, Try.ntmps5
  go_wp2_with fail
  refine (HC.out _).mono ?_; rintro e w1 ⟨hb1, hok, -⟩
  obtain ⟨A, c, rfl, hl, hcm, hd⟩ := hok hz
  obtain ⟨b, o, P, hA, -, hb, hc0, hD0⟩ := hd 0 (by simp)
  subst hA
  obtain ⟨b2, o2, Q, hA2, -, -, hc1, hD1⟩ := hd 1 (by simp)
  injection hA2 with hA2
  injection hA2 with e1 e2
  subst e1; subst e2
  have k0 : w1.cell? ⟨b, o + 9, none⟩ = some (.slice P.B 2 P.b) := by
    have := hc0 9 (by decide)
    rw [← h2]; exact this
  have k1 : w1.cell? ⟨b, o + 11 + 10, none⟩ = some (.slice Q.D 2 Q.d) := by
    have := hc1 10 (by decide)
    have e : (2 : Nat) = d1.ro.length := by rw [h3]; rfl
    rw [e]; exact this
  have hro := hD1.ro
  have hq1 := hD1.ld
  have hq2 := hD1.md
  change RowsAt w1 _ _ Q.D d1.ro at hro
  change d1.ro.length ≤ Q.d at hq1
  rw [h3] at hro hq1
  obtain ⟨b3, o3, A', c', F, C, hD, -, hb3, hr, hrow⟩ := hro 1 (by simp)
  have k2 : w1.cell? ⟨b3, o3 + 8 + 1, none⟩ = some (.slice A' 1 c') := by
    have := hr.c1
    change w1.cell? ⟨b3, o3 + 8 + 1, none⟩ = some (.slice A' r1.ps.length c') at this
    rw [h4] at this; exact this
  have hp := hrow.hp
  have hq3 := hrow.hl
  have hq4 := hrow.hc
  change NodesAt w1 _ _ A' r1.ps at hp
  change r1.ps.length ≤ c' at hq3
  rw [h4] at hp hq3
  obtain ⟨b4, o4, F', C', hA', -, hb4, hr4, -⟩ := hp 0 (by simp)
  have k3 : w1.cell? ⟨b4, o4, none⟩ = some (.int .i64 8) := by
    have := hr4.c0
    rw [← h5]; exact this
  rw [hD] at k1
  rw [hA'] at k2
  simp at hq1 hq3 hl
  unfold maxLen at hcm hq2 hq4
  clear hc0 hc1 hD0 hD1 hd hok hro hrow hp hr hr4 hD hA' HC h2 h3 h4 h5 hz
  go_wp2_with fail
  go_ret
  first
    | exact ⟨rfl, hb1⟩
    | exact ⟨rfl, hb1.trans ((Below.refl _ _).drew)⟩

end Go.Proofs.Ytkccjfbgepmfkaa
