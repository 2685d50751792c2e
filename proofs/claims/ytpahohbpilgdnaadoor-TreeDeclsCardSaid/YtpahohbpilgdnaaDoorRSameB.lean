/- scholiumref04.sameBinds. -/
import Derived.Test.YtpahohbpilgdnaaDoorDecV
import Derived.Deep.RegionHeld3
namespace Go.Proofs.YtpahohbpilgdnaaDoor
open Go.RowKit
set_option linter.unusedVariables false
set_option maxRecDepth 100000

set_option maxHeartbeats 4000000 in
theorem rSameBinds_any (l l' : List BT) (A A' : Option Addr) (cap cap' lo hi lo' hi' : Nat) (w : World) (hl : l.length ≤ maxLen) (hl' : l'.length ≤ maxLen) (hn : BindsAt w lo hi A l) (hn' : BindsAt w lo' hi' A' l') (hhi : hi ≤ w.heap.size) (hhi' : hi' ≤ w.heap.size) :
    Calls Tryd.prog 56 #[.slice A l.length cap, .slice A' l'.length cap'] w fun e w' => e = .returned (.bool (pairsX sameBd l l')) ∧ Below w.heap.size w w' := by
  have HN := Lib.hid hn
  have HN' := Lib.hid hn'
  have HS := Lib.hid (fun (t u : RT) lo hi lo' hi' F F' C C' W h1 h2 h3 h4 => rSame_any t u lo hi lo' hi' F F' C C' W h1 h2 h3 h4)
  unfold maxLen at hl hl'
  clear hn hn'
  by_cases hlen : l.length = l'.length
  case neg =>
    rw [pairsX_len hlen]
    have t0 : ((l.length : Int) != (l'.length : Int)) = true := by simp; omega
    clear hlen HN HN' HS
    go_enter Tryd.func56, Tryd.ntmps56
    go_wp2_with fail
    go_ret
    exact ⟨rfl, Below.refl _ _⟩
  rw [pairsX_eq hlen]
  have HLEN := Lib.hid hlen
  have t0 : ((l.length : Int) != (l'.length : Int)) = false := by simp; omega
  obtain ⟨z, hz⟩ : ∃ z, allB (pairAtX sameBd l l') l.length = z := ⟨_, rfl⟩
  rw [hz]
  have HZ := Lib.hid hz
  clear hlen hz
  go_enter Tryd.func56, Tryd.ntmps56
  go_wp2_with fail
  go_loopw [5] (fun iv wr => ∃ i : Nat, i ≤ l.length ∧ iv = .int .i64 i ∧ Below w.heap.size w wr ∧ Hid (allB (pairAtX sameBd l l') i = true)) (fun iv _ => l.length - (intOf iv).toNat)
  case atStart => exact ⟨0, Nat.zero_le _, rfl, Below.refl _ _, Lib.hid rfl⟩
  case round =>
    obtain ⟨i, hi1, rfl, hB, HQ⟩ := hrel
    have hz := hB.size
    by_cases hil : i < l.length
    · have hil' : i < l'.length := by have := HLEN.out; omega
      obtain ⟨b, o, F, C, hA, hb1, hb2, hx, hbind⟩ := (HN.out i hil).kept hB hhi
      obtain ⟨x0, x1, x2, x3, x4, x5, x6⟩ := hx
      obtain ⟨b', o', F', C', hA', hb1', hb2', hx', hbind'⟩ := (HN'.out i hil').kept hB hhi'
      obtain ⟨y0, y1, y2, y3, y4, y5, y6⟩ := hx'
      subst hA
      subst hA'
      have hlb : b < wr.heap.size := by omega
      have hlb' : b' < wr.heap.size := by omega
      have hnode := hbind.hn
      have hnode' := hbind'.hn
      have hno : Hid (sameBd l[i] l'[i] = false → z = false) := Lib.hid (fun h => by rw [← HZ.out]; exact allB_no hil (by rw [pairAtX_of sameBd hil hil']; exact h))
      have hyes : Hid (sameBd l[i] l'[i] = true → allB (pairAtX sameBd l l') (i + 1) = true) := Lib.hid (fun h => by rw [allB, HQ.out, pairAtX_of sameBd hil hil', h]; rfl)
      obtain ⟨x, hxx⟩ : ∃ x, l[i] = x := ⟨_, rfl⟩
      obtain ⟨y, hyy⟩ : ∃ y, l'[i] = y := ⟨_, rfl⟩
      rw [hxx] at x0 x1 x2 x3 x4 x5 x6 hnode hno hyes
      rw [hyy] at y0 y1 y2 y3 y4 y5 y6 hnode' hno hyes
      have HR := Lib.hid (HS.out x.t y.t lo hi lo' hi' F F' C C')
      unfold sameBd at hno hyes
      have hi0' : (i : Int) < (l.length : Int) := by omega
      have hi0'' : (i : Int) < (l'.length : Int) := by omega
      have hi00 : (0 : Int) ≤ (i : Int) := by omega
      have HB := Lib.hid hB
      clear hbind hbind' hxx hyy HN HN' HS HZ hB
      by_cases hss : x.s = y.s
      · rw [decide_eq_true hss, Bool.true_and] at hno hyes
        have t1 := eq_list hss
        have t1' : (x.s.toList != y.s.toList) = false := by unfold bne; rw [t1]; rfl
        obtain ⟨v, hv⟩ : ∃ v, sameB x.t y.t = v := ⟨_, rfl⟩
        rw [hv] at HR hno hyes
        clear hv hss
        unfold nodeV at HR
        go_wp2_with fail
        go_region_held3 (fun w' => w'.cell? ⟨b, o + i * 7, none⟩ = some (.string x.s) ∧ w'.cell? ⟨b, o + i * 7 + 2, none⟩ = some (.int .i64 x.t.k) ∧ w'.cell? ⟨b, o + i * 7 + 3, none⟩ = some (.int .i64 x.t.a) ∧ w'.cell? ⟨b, o + i * 7 + 4, none⟩ = some (.string x.t.s) ∧ w'.cell? ⟨b, o + i * 7 + 5, none⟩ = some (.int .i64 x.t.n) ∧ w'.cell? ⟨b, o + i * 7 + 6, none⟩ = some (.slice F x.t.l.length C) ∧
              w'.cell? ⟨b', o' + i * 7, none⟩ = some (.string y.s) ∧ w'.cell? ⟨b', o' + i * 7 + 2, none⟩ = some (.int .i64 y.t.k) ∧ w'.cell? ⟨b', o' + i * 7 + 3, none⟩ = some (.int .i64 y.t.a) ∧ w'.cell? ⟨b', o' + i * 7 + 4, none⟩ = some (.string y.t.s) ∧ w'.cell? ⟨b', o' + i * 7 + 5, none⟩ = some (.int .i64 y.t.n) ∧ w'.cell? ⟨b', o' + i * 7 + 6, none⟩ = some (.slice F' y.t.l.length C'))
            (first | go_keep | (refine ⟨?_, ?_, ?_, ?_, ?_, ?_, ?_, ?_, ?_, ?_, ?_, ?_⟩ <;> ((rw [hb3.cell (by show _ < _; simp; omega)]; assumption))))
            (first | (go_at_call 20; refine (HR.out _ (hnode.kept ((Below.refl _ _).drew) (by omega)) (hnode'.kept ((Below.refl _ _).drew) (by omega)) (by simp; omega) (by simp; omega)).mono ?_; rintro e w3 ⟨rfl, hb3⟩))
        have HB3 := Lib.hid (HB.out.drew.trans (hb3.mono hz))
        clear hb3
        cases v with
        | true =>
          have hzt := Lib.hid (hyes.out rfl)
          clear hno hyes
          go_wp2_with fail
          go_roundw
          case rel => exact ⟨i + 1, by omega, rfl, HB3.out, hzt⟩
          case measure => simp [intOf]; omega
        | false =>
          have hzf := hno.out rfl
          clear hno hyes
          go_wp2_with fail
          go_ret
          exact ⟨by subst hzf; rfl, HB3.out⟩
      · rw [decide_eq_false hss, Bool.false_and] at hno
        have t1 := ne_list hss
        have t1' : (x.s.toList != y.s.toList) = true := by unfold bne; rw [t1]; rfl
        have hzf := hno.out rfl
        clear hno hyes hss HR
        go_wp2_with fail
        go_quiet (fail)
        have HB3 := Lib.hid (below_drawn HB.out nq)
        go_wp2_with fail
        go_ret
        exact ⟨by subst hzf; rfl, HB3.out⟩
    · obtain rfl : i = l.length := by omega
      have hzt : z = true := by rw [← HZ.out]; exact HQ.out
      clear HN HN' HS HZ
      go_wp2_with fail
      go_ret
      exact ⟨by subst hzt; rfl, hB⟩

end Go.Proofs.YtpahohbpilgdnaaDoor
