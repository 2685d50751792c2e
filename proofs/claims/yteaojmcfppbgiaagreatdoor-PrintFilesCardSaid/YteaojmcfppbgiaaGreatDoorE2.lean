/- The document's texts of expressions and patterns: scholiumref06.Expr, inner, Pattern, Number. -/
import Derived.Test.YteaojmcfppbgiaaGreatDoorD3
import Derived.Test.YteaojmcfppbgiaaGreatDoorA4
import Derived.Deep.RegionHeld3
import Derived.LoopTactic
import Derived.LoopN
namespace Go.Proofs.YteaojmcfppbgiaaGreatDoor
open Go.RowKit
set_option linter.unusedVariables false
set_option maxRecDepth 100000

theorem ba_cat (X Y : Tx) : (⟨X.toArray⟩ : ByteArray) ++ ⟨Y.toArray⟩ = ⟨(X ++ Y).toArray⟩ := by
  apply ByteArray.ext
  simp
theorem ba_tx (s : ByteArray) : (⟨(tx s).toArray⟩ : ByteArray) = s := by
  apply ByteArray.ext
  simp [tx]
def baX (X : Tx) : ByteArray := ⟨X.toArray⟩
theorem baX_size (X : Tx) : (baX X).size = X.length := by simp [baX, ByteArray.size]
theorem baX_cat (X Y : Tx) : baX X ++ baX Y = baX (X ++ Y) := ba_cat X Y
theorem baX_tx (s : ByteArray) : baX (tx s) = s := ba_tx s
theorem baX_of {t : ByteArray} {l : List UInt8} (h : bytesL t = l.map fun b => (b.toNat : Int)) : t = baX l := by
  refine bytesL_inj (h.trans ?_)
  unfold bytesL baX
  simp
def StrIs (R : ByteArray) (w : World) (e : Ending) (w' : World) : Prop := e = .returned (.string R) ∧ Below w.heap.size w w'
def RefIs (t : RT) : Prop := ∀ (lv lo hi : Nat) (A : Option Addr) (c : Nat) (w : World), lv ≤ 2 → IsNode w lo hi t A c → hi ≤ w.heap.size → goodB t false = true → t.size ≤ 8192 →
    Calls Tryz.prog 70 #[nodeV t A c, .int .i64 lv] w (StrIs (baX (exprX t lv)) w)
def InnerIs (t : RT) : Prop := ∀ (lo hi : Nat) (A : Option Addr) (c : Nat) (w : World), IsNode w lo hi t A c → hi ≤ w.heap.size → goodB t false = true → t.size ≤ 8192 →
    Calls Tryz.prog 107 #[nodeV t A c] w (StrIs (baX (innerX t.k t.s t.n (exprXL t.l))) w)

set_option maxHeartbeats 1000000 in
theorem refNumber_any (n : Nat) (w : World) (h : n ≤ 9223372036854775807) : Calls Tryz.prog 152 #[.int .i64 n] w (StrIs (baX (Lib.decDigits n)) w) := by
  have H := Lib.hid (decimal_all n w h)
  obtain ⟨R, hR⟩ : ∃ R, baX (Lib.decDigits n) = R := ⟨_, rfl⟩
  have HR : Hid (∀ t, bytesL t = digs n → t = R) := Lib.hid (fun t ht => by rw [← hR]; exact baX_of ht)
  rw [hR]
  clear hR h
  go_enter Tryz.func152, Tryz.ntmps152
  go_wp2_with fail
  refine H.out.mono ?_; rintro e w1 ⟨t, rfl, ht, hb⟩
  obtain rfl := HR.out t ht.out
  go_wp2_with fail
  go_ret
  exact ⟨rfl, hb⟩

set_option maxHeartbeats 4000000 in
/-- Expr out of inner. -/
theorem ref_step {K : Nat} {L : Int} {a : Int} {s : ByteArray} {n : Int} {l : List RT} (hi0 : InnerIs (.node K a s n l)) (hL : L = lowest K) (hK : 1 ≤ K) (hK5 : K ≤ 5) (hl9 : L = if K = 1 ∨ K = 2 then 9 else if K = 5 then 2 else 1) : RefIs (.node K a s n l) := by
  intro lv lo hi A c w hlv h hhi hgd hz
  have hlen := exprX_len _ hgd lv
  have hin := fun V (hV : Below w.heap.size w V) => hi0 lo hi A c V (h.kept hV hhi) (Nat.le_trans hhi hV.size) hgd hz
  have e0 : innerX (RT.node (↑K) a s n l).k (RT.node (↑K) a s n l).s (RT.node (↑K) a s n l).n (exprXL (RT.node (↑K) a s n l).l) = innerX K s n (exprXL l) := rfl
  rw [e0] at hin
  obtain ⟨R0, hR0⟩ : ∃ R, baX (innerX K s n (exprXL l)) = R := ⟨_, rfl⟩
  rw [hR0] at hin
  unfold StrIs nodeV at hin
  have hsz : R0.size ≤ 500000 := by
    have h1 := exprX_len _ hgd 0
    have h2 : ¬ lowest (K : Int) ≤ 0 := by unfold lowest; split; · omega
                                           · split <;> omega
    rw [exprX_bare h2] at h1
    rw [← hR0, baX_size]
    omega
  by_cases hlo : lowest (K : Int) ≤ lv
  · have EQ : Hid (baX (exprX (.node K a s n l) lv) = baX [40] ++ R0 ++ baX [41]) := Lib.hid (by rw [exprX_node, if_pos hlo, ← hR0, baX_cat, baX_cat, List.append_assoc])
    obtain ⟨R, hR⟩ : ∃ R, baX (exprX (.node K a s n l) lv) = R := ⟨_, rfl⟩
    rw [hR] at EQ ⊢
    have HIN := Lib.hid hin
    unfold StrIs
    show Calls Tryz.prog 70 #[.agg #[.int .i64 K, .int .i64 a, .string s, .int .i64 n, .slice A l.length c], .int .i64 lv] w _
    rcases (show K = 1 ∨ K = 2 ∨ K = 3 ∨ K = 4 ∨ K = 5 by omega) with rfl | rfl | rfl | rfl | rfl
    · simp [lowest] at hlo; omega
    · simp [lowest] at hlo; omega
    all_goals
      rcases (show lv = 0 ∨ lv = 1 ∨ lv = 2 by omega) with rfl | rfl | rfl
      all_goals first | (exfalso; simp [lowest] at hlo; done) | skip
      all_goals
        clear hi0 hL hl9 h hhi hgd hz hlen hin e0 hlo hR hR0
        go_enter Tryz.func70, Tryz.ntmps70
        go_wp2_with fail
        refine (HIN.out _ (((Below.refl _ _).alloc (Nat.le_refl _) _).alloc (by simp) _)).mono ?_; rintro e w1 ⟨rfl, hb⟩
        go_wp2_with fail
        go_ret
        exact ⟨congrArg (fun z => Ending.returned (Value.string z)) EQ.out.symm, (((Below.refl _ _).alloc (Nat.le_refl _) _).alloc (by simp) _).trans (hb.mono (by simp; omega))⟩
  · have EQ : Hid (baX (exprX (.node K a s n l) lv) = R0) := Lib.hid (by rw [exprX_bare hlo, hR0])
    obtain ⟨R, hR⟩ : ∃ R, baX (exprX (.node K a s n l) lv) = R := ⟨_, rfl⟩
    rw [hR] at EQ ⊢
    have HIN := Lib.hid hin
    unfold StrIs
    show Calls Tryz.prog 70 #[.agg #[.int .i64 K, .int .i64 a, .string s, .int .i64 n, .slice A l.length c], .int .i64 lv] w _
    rcases (show K = 1 ∨ K = 2 ∨ K = 3 ∨ K = 4 ∨ K = 5 by omega) with rfl | rfl | rfl | rfl | rfl
    all_goals
      rcases (show lv = 0 ∨ lv = 1 ∨ lv = 2 by omega) with rfl | rfl | rfl
      all_goals first | (exfalso; simp [lowest] at hlo; done) | skip
      all_goals
        clear hi0 hL hl9 h hhi hgd hz hlen hin e0 hlo hR hR0
        go_enter Tryz.func70, Tryz.ntmps70
        go_wp2_with fail
        refine (HIN.out _ (((Below.refl _ _).alloc (Nat.le_refl _) _).alloc (by simp) _)).mono ?_; rintro e w1 ⟨rfl, hb⟩
        go_wp2_with fail
        go_ret
        exact ⟨congrArg (fun z => Ending.returned (Value.string z)) EQ.out.symm, (((Below.refl _ _).alloc (Nat.le_refl _) _).alloc (by simp) _).trans (hb.mono (by simp; omega))⟩

set_option maxHeartbeats 2000000 in
theorem inner_name {a : Int} {s : ByteArray} {n : Int}  : InnerIs (.node 1 a s n []) := by
  intro lo hi A c w h hhi hgd hz
  have e0 : innerX (RT.node 1 a s n []).k (RT.node 1 a s n []).s (RT.node 1 a s n []).n (exprXL (RT.node 1 a s n []).l) = tx s := by unfold innerX; rfl
  rw [e0]
  have hE : baX (tx s) = s := baX_tx s
  obtain ⟨R, hR⟩ : ∃ R, baX (tx s) = R := ⟨_, rfl⟩
  rw [hR] at hE ⊢
  have EQ := Lib.hid hE
  unfold StrIs
  clear h hhi hgd hz e0 hR hE
  skip
  show Calls Tryz.prog 107 #[.agg #[.int .i64 1, .int .i64 a, .string s, .int .i64 n, .slice A 0 c]] w _
  go_enter Tryz.func107, Tryz.ntmps107
  go_wp2_with fail
  go_ret
  exact ⟨congrArg (fun z => Ending.returned (Value.string z)) EQ.out.symm, ((Below.refl w.heap.size w).alloc (Nat.le_refl _) _)⟩

set_option maxHeartbeats 2000000 in
theorem inner_set0 {a : Int} {s : ByteArray} {n : Int} (hn : n = 0) : InnerIs (.node 2 a s n []) := by
  intro lo hi A c w h hhi hgd hz
  have e0 : innerX (RT.node 2 a s n []).k (RT.node 2 a s n []).s (RT.node 2 a s n []).n (exprXL (RT.node 2 a s n []).l) = ([83, 101, 116] : Tx) := by subst hn; rfl
  rw [e0]
  have hE : baX (([83, 101, 116] : Tx)) = ⟨#[83, 101, 116]⟩ := rfl
  obtain ⟨R, hR⟩ : ∃ R, baX (([83, 101, 116] : Tx)) = R := ⟨_, rfl⟩
  rw [hR] at hE ⊢
  have EQ := Lib.hid hE
  unfold StrIs
  clear h hhi hgd hz e0 hR hE
  subst hn
  show Calls Tryz.prog 107 #[.agg #[.int .i64 2, .int .i64 a, .string s, .int .i64 0, .slice A 0 c]] w _
  go_enter Tryz.func107, Tryz.ntmps107
  go_wp2_with fail
  go_ret
  exact ⟨congrArg (fun z => Ending.returned (Value.string z)) EQ.out.symm, ((Below.refl w.heap.size w).alloc (Nat.le_refl _) _)⟩

set_option maxHeartbeats 2000000 in
theorem inner_set {a : Int} {s : ByteArray} {n : Int} (hn : n ≠ 0) (h0 : 0 ≤ n) (h7 : n ≤ 7) : InnerIs (.node 2 a s n []) := by
  intro lo hi A c w h hhi hgd hz
  have e0 : innerX (RT.node 2 a s n []).k (RT.node 2 a s n []).s (RT.node 2 a s n []).n (exprXL (RT.node 2 a s n []).l) = [83, 101, 116] ++ ([32] ++ Lib.decDigits n.toNat) := by show setX n = _; unfold setX; rw [if_neg hn]
  rw [e0]
  have hE : baX ([83, 101, 116] ++ ([32] ++ Lib.decDigits n.toNat)) = ⟨#[83, 101, 116, 32]⟩ ++ baX (Lib.decDigits n.toNat) := by rw [← List.append_assoc, ← baX_cat]; rfl
  obtain ⟨R, hR⟩ : ∃ R, baX ([83, 101, 116] ++ ([32] ++ Lib.decDigits n.toNat)) = R := ⟨_, rfl⟩
  rw [hR] at hE ⊢
  have EQ := Lib.hid hE
  unfold StrIs
  clear h hhi hgd hz e0 hR hE
  obtain ⟨m, rfl⟩ : ∃ m : Nat, n = m := ⟨n.toNat, by omega⟩
  have HN := Lib.hid (fun V => refNumber_any m V (by omega))
  have hds := digs_lt 0 m (by omega)
  rw [digs_length, ← Lib.decDigits_length] at hds
  have hd : (baX (Lib.decDigits m)).size ≤ 1 := by rw [baX_size]; exact hds
  rw [show (m : Int).toNat = m by simp] at EQ
  obtain ⟨D, hD⟩ : ∃ D, baX (Lib.decDigits m) = D := ⟨_, rfl⟩
  rw [hD] at HN EQ hd
  unfold StrIs at HN
  have t0 : ((m : Int) == 0) = false := by simpa using hn
  clear hD hds hn h0 h7
  show Calls Tryz.prog 107 #[.agg #[.int .i64 2, .int .i64 a, .string s, .int .i64 m, .slice A 0 c]] w _
  go_enter Tryz.func107, Tryz.ntmps107
  go_wp2_with fail
  refine (HN.out _).mono ?_; rintro e w1 ⟨rfl, hb⟩
  go_wp2_with fail
  go_ret
  exact ⟨congrArg (fun z => Ending.returned (Value.string z)) EQ.out.symm, ((Below.refl w.heap.size w).alloc (Nat.le_refl _) _).trans (hb.mono (by simp))⟩

set_option maxHeartbeats 8000000 in
theorem inner_app {a : Int} {s : ByteArray} {n : Int} {t u : RT} (ht : RefIs t) (hu : RefIs u)  : InnerIs (.node 5 a s n [t, u]) := by
  intro lo hi A c w h hhi hgd hz
  have gt : goodB t false = true ∧ goodB u false = true := by
    rcases good_cases hgd with ⟨h, _⟩ | ⟨h, _⟩ | ⟨_, _, t', u', h, g1, g2⟩ | ⟨_, t', u', h, g1, g2⟩
    · omega
    · omega
    · injection h with h1 h2; injection h2 with h2 _; subst h1 h2; exact ⟨g1, g2⟩
    · injection h with h1 h2; injection h2 with h2 _; subst h1 h2; exact ⟨g1, g2⟩
  have hzz : t.size + u.size + 1 ≤ 8192 := by rw [size_node, sizeL_cons, sizeL_cons, sizeL_nil] at hz; omega
  have e1 : ∀ lv, subT (exprXL [t, u]) 0 lv = exprX t lv := fun lv => exprXL_at [t, u] 0 (by simp) lv
  have e2 : ∀ lv, subT (exprXL [t, u]) 1 lv = exprX u lv := fun lv => exprXL_at [t, u] 1 (by simp) lv
  have e0 : innerX (RT.node 5 a s n [t, u]).k (RT.node 5 a s n [t, u]).s (RT.node 5 a s n [t, u]).n (exprXL (RT.node 5 a s n [t, u]).l) = exprX t 1 ++ ([32] ++ exprX u 2) := by
    show innerX 5 s n (exprXL [t, u]) = _
    unfold innerX; rw [if_neg (by decide), if_neg (by decide), if_pos rfl, e1, e2]
  rw [e0]
  obtain ⟨bs, o, F0, C0, F1, C1, rfl, hbs, x0, n0, x1, n1⟩ := h.two
  have hbsl : bs < w.heap.size := by omega
  obtain ⟨W, hW⟩ : ∃ W, w.alloc (.cells #[.int .i64 5, .int .i64 a, .string s, .int .i64 n, .slice (some ⟨bs, o, none⟩) 2 c] 27) = W := ⟨_, rfl⟩
  have hBW : Below w.heap.size w W := by rw [← hW]; exact (Below.refl _ _).alloc (Nat.le_refl _) _
  have hWz : W.heap.size = w.heap.size + 1 := by rw [← hW]; simp
  have BW : Bk W w.heap.size 27 #[.int .i64 5, .int .i64 a, .string s, .int .i64 n, .slice (some ⟨bs, o, none⟩) 2 c] := by rw [← hW]; exact Bk.new _ _ _
  have ht0 : ∀ V, Below W.heap.size W V → Calls Tryz.prog 70 #[.agg #[.int .i64 t.k, .int .i64 t.a, .string t.s, .int .i64 t.n, .slice F0 t.l.length C0], .int .i64 1] V (StrIs (baX (exprX t 1)) V) := fun V hV => ht 1 lo hi F0 C0 V (by decide) (n0.kept (hBW.trans (hV.mono hBW.size)) hhi) (by have := hV.size; omega) gt.1 (by omega)
  have hu0 : ∀ V, Below W.heap.size W V → Calls Tryz.prog 70 #[.agg #[.int .i64 u.k, .int .i64 u.a, .string u.s, .int .i64 u.n, .slice F1 u.l.length C1], .int .i64 2] V (StrIs (baX (exprX u 2)) V) := fun V hV => hu 2 lo hi F1 C1 V (by decide) (n1.kept (hBW.trans (hV.mono hBW.size)) hhi) (by have := hV.size; omega) gt.2 (by omega)
  have z0 : (baX (exprX t 1)).size ≤ 500000 := by have := exprX_len t gt.1 1; rw [baX_size]; omega
  have z1 : (baX (exprX u 2)).size ≤ 500000 := by have := exprX_len u gt.2 2; rw [baX_size]; omega
  have zs : s.size ≤ 40 ∨ 5 = (5 : Nat) := by
    rcases good_cases hgd with ⟨h, _⟩ | ⟨h, _⟩ | ⟨_, hn, _⟩ | ⟨h, _⟩
    · omega
    · omega
    · exact .inl (low_40 hn)
    · first | exact .inr rfl | omega
  have hE : baX (exprX t 1 ++ ([32] ++ exprX u 2)) = baX (exprX t 1) ++ ⟨#[32]⟩ ++ baX (exprX u 2) := by
    rw [← List.append_assoc, ← baX_cat, ← baX_cat]; rfl
  obtain ⟨R0, hR0⟩ : ∃ R, baX (exprX t 1) = R := ⟨_, rfl⟩
  obtain ⟨R1, hR1⟩ : ∃ R, baX (exprX u 2) = R := ⟨_, rfl⟩
  obtain ⟨R, hR⟩ : ∃ R, baX (exprX t 1 ++ ([32] ++ exprX u 2)) = R := ⟨_, rfl⟩
  rw [hR0] at ht0 z0 hE
  rw [hR1] at hu0 z1 hE
  rw [hR] at hE ⊢
  unfold StrIs at ht0 hu0 ⊢
  have EQ := Lib.hid hE
  have HT := Lib.hid ht0
  have HU := Lib.hid hu0
  have KEEP := Lib.hid (fun V (hV : Below W.heap.size W V) => And.intro (BW.below hV (by omega)).w5 (And.intro (x0.kept (hBW.trans (hV.mono hBW.size)) (by omega)).all (x1.kept (hBW.trans (hV.mono hBW.size)) (by omega)).all))
  have HBW := Lib.hid hBW
  obtain ⟨⟨k0, k1, k2, k3, k4⟩, ⟨m0, m1, m2, m3, m4⟩, q0, q1, q2, q3, q4⟩ := KEEP.out W (Below.refl _ _)
  have hbk := Lib.hid ((Below.refl W.heap.size W).drew)
  have HW := Lib.hid hW
  
  have hlit0 : (⟨#[32]⟩ : ByteArray).size = 1 := rfl
  have hadd0 : ∀ V : World, (Op.stringOp .add R0 ⟨#[32]⟩).run Tryz.prog V = .ok (.string (R0 ++ ⟨#[32]⟩)) V := fun V => run_string_add_sum V _ _ (by (repeat rw [ByteArray.size_append]); omega)
  have hadd1 : ∀ V : World, (Op.stringOp .add (R0 ++ ⟨#[32]⟩) R1).run Tryz.prog V = .ok (.string ((R0 ++ ⟨#[32]⟩) ++ R1)) V := fun V => run_string_add_sum V _ _ (by (repeat rw [ByteArray.size_append]); omega)
  clear hlit0
  clear ht hu h hhi hgd hz gt hzz e1 e2 e0 x0 n0 x1 n1 hBW BW ht0 hu0 hE hR0 hR1 hR hW
  show Calls Tryz.prog 107 #[.agg #[.int .i64 5, .int .i64 a, .string s, .int .i64 n, .slice (some ⟨bs, o, none⟩) 2 c]] w _
  go_enter Tryz.func107, Tryz.ntmps107
  go_wp2_with fail
  rw [HW.out]
  go_region_held3 (fun w' => Below W.heap.size W w' ∧ (w'.cell? ⟨w.heap.size, 0, none⟩ = some (.int .i64 5) ∧ w'.cell? ⟨w.heap.size, 1, none⟩ = some (.int .i64 a) ∧ w'.cell? ⟨w.heap.size, 2, none⟩ = some (.string s) ∧ w'.cell? ⟨w.heap.size, 3, none⟩ = some (.int .i64 n) ∧ w'.cell? ⟨w.heap.size, 4, none⟩ = some (.slice (some ⟨bs, o, none⟩) 2 c)) ∧ (w'.cell? ⟨bs, o, none⟩ = some (.int .i64 t.k) ∧ w'.cell? ⟨bs, o + 1, none⟩ = some (.int .i64 t.a) ∧ w'.cell? ⟨bs, o + 2, none⟩ = some (.string t.s) ∧ w'.cell? ⟨bs, o + 3, none⟩ = some (.int .i64 t.n) ∧ w'.cell? ⟨bs, o + 4, none⟩ = some (.slice F0 t.l.length C0)) ∧ (w'.cell? ⟨bs, o + 5, none⟩ = some (.int .i64 u.k) ∧ w'.cell? ⟨bs, o + 5 + 1, none⟩ = some (.int .i64 u.a) ∧ w'.cell? ⟨bs, o + 5 + 2, none⟩ = some (.string u.s) ∧ w'.cell? ⟨bs, o + 5 + 3, none⟩ = some (.int .i64 u.n) ∧ w'.cell? ⟨bs, o + 5 + 4, none⟩ = some (.slice F1 u.l.length C1)))
    (first | exact ⟨hbk.out, KEEP.out _ hbk.out⟩)
    (first
      | (go_at_call 70; with_reducible refine (HT.out _ hbk.out).mono ?_; rintro e w3 ⟨rfl, hb3⟩; have hbk := Lib.hid (hbk.out.trans (hb3.mono hbk.out.size)); clear hb3)
      | (go_at_call 70; with_reducible refine (HU.out _ hbk.out).mono ?_; rintro e w3 ⟨rfl, hb3⟩; have hbk := Lib.hid (hbk.out.trans (hb3.mono hbk.out.size)); clear hb3))
  all_goals
    obtain ⟨⟨k0, k1, k2, k3, k4⟩, -⟩ := KEEP.out _ hbk.out
    have hbz := hbk.out.size
    
    go_wp2_with fail
    go_ret
    exact ⟨congrArg (fun z => Ending.returned (Value.string z)) EQ.out.symm, HBW.out.trans (hbk.out.mono HBW.out.size)⟩

set_option maxHeartbeats 8000000 in
theorem inner_arrow {a : Int} {s : ByteArray} {n : Int} {t u : RT} (ht : RefIs t) (hu : RefIs u) (hlow : lowB s = true) : InnerIs (.node 3 a s n [t, u]) := by
  intro lo hi A c w h hhi hgd hz
  have gt : goodB t false = true ∧ goodB u false = true := by
    rcases good_cases hgd with ⟨h, _⟩ | ⟨h, _⟩ | ⟨_, _, t', u', h, g1, g2⟩ | ⟨_, t', u', h, g1, g2⟩
    · omega
    · omega
    · injection h with h1 h2; injection h2 with h2 _; subst h1 h2; exact ⟨g1, g2⟩
    · injection h with h1 h2; injection h2 with h2 _; subst h1 h2; exact ⟨g1, g2⟩
  have hzz : t.size + u.size + 1 ≤ 8192 := by rw [size_node, sizeL_cons, sizeL_cons, sizeL_nil] at hz; omega
  have e1 : ∀ lv, subT (exprXL [t, u]) 0 lv = exprX t lv := fun lv => exprXL_at [t, u] 0 (by simp) lv
  have e2 : ∀ lv, subT (exprXL [t, u]) 1 lv = exprX u lv := fun lv => exprXL_at [t, u] 1 (by simp) lv
  have e0 : innerX (RT.node 3 a s n [t, u]).k (RT.node 3 a s n [t, u]).s (RT.node 3 a s n [t, u]).n (exprXL (RT.node 3 a s n [t, u]).l) = exprX t 1 ++ ([32, 45, 62, 32] ++ exprX u 0) := by
    show innerX 3 s n (exprXL [t, u]) = _
    unfold innerX; rw [if_neg (by decide), if_neg (by decide), if_neg (by decide), if_pos ⟨rfl, hlow⟩, e1, e2]
  rw [e0]
  obtain ⟨bs, o, F0, C0, F1, C1, rfl, hbs, x0, n0, x1, n1⟩ := h.two
  have hbsl : bs < w.heap.size := by omega
  obtain ⟨W, hW⟩ : ∃ W, w.alloc (.cells #[.int .i64 3, .int .i64 a, .string s, .int .i64 n, .slice (some ⟨bs, o, none⟩) 2 c] 27) = W := ⟨_, rfl⟩
  have hBW : Below w.heap.size w W := by rw [← hW]; exact (Below.refl _ _).alloc (Nat.le_refl _) _
  have hWz : W.heap.size = w.heap.size + 1 := by rw [← hW]; simp
  have BW : Bk W w.heap.size 27 #[.int .i64 3, .int .i64 a, .string s, .int .i64 n, .slice (some ⟨bs, o, none⟩) 2 c] := by rw [← hW]; exact Bk.new _ _ _
  have ht0 : ∀ V, Below W.heap.size W V → Calls Tryz.prog 70 #[.agg #[.int .i64 t.k, .int .i64 t.a, .string t.s, .int .i64 t.n, .slice F0 t.l.length C0], .int .i64 1] V (StrIs (baX (exprX t 1)) V) := fun V hV => ht 1 lo hi F0 C0 V (by decide) (n0.kept (hBW.trans (hV.mono hBW.size)) hhi) (by have := hV.size; omega) gt.1 (by omega)
  have hu0 : ∀ V, Below W.heap.size W V → Calls Tryz.prog 70 #[.agg #[.int .i64 u.k, .int .i64 u.a, .string u.s, .int .i64 u.n, .slice F1 u.l.length C1], .int .i64 0] V (StrIs (baX (exprX u 0)) V) := fun V hV => hu 0 lo hi F1 C1 V (by decide) (n1.kept (hBW.trans (hV.mono hBW.size)) hhi) (by have := hV.size; omega) gt.2 (by omega)
  have z0 : (baX (exprX t 1)).size ≤ 500000 := by have := exprX_len t gt.1 1; rw [baX_size]; omega
  have z1 : (baX (exprX u 0)).size ≤ 500000 := by have := exprX_len u gt.2 0; rw [baX_size]; omega
  have zs : s.size ≤ 40 ∨ 3 = (5 : Nat) := by
    rcases good_cases hgd with ⟨h, _⟩ | ⟨h, _⟩ | ⟨_, hn, _⟩ | ⟨h, _⟩
    · omega
    · omega
    · exact .inl (low_40 hn)
    · first | exact .inr rfl | omega
  have hE : baX (exprX t 1 ++ ([32, 45, 62, 32] ++ exprX u 0)) = baX (exprX t 1) ++ ⟨#[32, 45, 62, 32]⟩ ++ baX (exprX u 0) := by
    rw [← List.append_assoc, ← baX_cat, ← baX_cat]; rfl
  obtain ⟨R0, hR0⟩ : ∃ R, baX (exprX t 1) = R := ⟨_, rfl⟩
  obtain ⟨R1, hR1⟩ : ∃ R, baX (exprX u 0) = R := ⟨_, rfl⟩
  obtain ⟨R, hR⟩ : ∃ R, baX (exprX t 1 ++ ([32, 45, 62, 32] ++ exprX u 0)) = R := ⟨_, rfl⟩
  rw [hR0] at ht0 z0 hE
  rw [hR1] at hu0 z1 hE
  rw [hR] at hE ⊢
  unfold StrIs at ht0 hu0 ⊢
  have EQ := Lib.hid hE
  have HT := Lib.hid ht0
  have HU := Lib.hid hu0
  have KEEP := Lib.hid (fun V (hV : Below W.heap.size W V) => And.intro (BW.below hV (by omega)).w5 (And.intro (x0.kept (hBW.trans (hV.mono hBW.size)) (by omega)).all (x1.kept (hBW.trans (hV.mono hBW.size)) (by omega)).all))
  have HBW := Lib.hid hBW
  obtain ⟨⟨k0, k1, k2, k3, k4⟩, ⟨m0, m1, m2, m3, m4⟩, q0, q1, q2, q3, q4⟩ := KEEP.out W (Below.refl _ _)
  have hbk := Lib.hid ((Below.refl W.heap.size W).drew)
  have HW := Lib.hid hW
  unfold lowB at hlow
  have hlit0 : (⟨#[32, 45, 62, 32]⟩ : ByteArray).size = 4 := rfl
  have hadd0 : ∀ V : World, (Op.stringOp .add R0 ⟨#[32, 45, 62, 32]⟩).run Tryz.prog V = .ok (.string (R0 ++ ⟨#[32, 45, 62, 32]⟩)) V := fun V => run_string_add_sum V _ _ (by (repeat rw [ByteArray.size_append]); omega)
  have hadd1 : ∀ V : World, (Op.stringOp .add (R0 ++ ⟨#[32, 45, 62, 32]⟩) R1).run Tryz.prog V = .ok (.string ((R0 ++ ⟨#[32, 45, 62, 32]⟩) ++ R1)) V := fun V => run_string_add_sum V _ _ (by (repeat rw [ByteArray.size_append]); omega)
  clear hlit0
  clear ht hu h hhi hgd hz gt hzz e1 e2 e0 x0 n0 x1 n1 hBW BW ht0 hu0 hE hR0 hR1 hR hW
  show Calls Tryz.prog 107 #[.agg #[.int .i64 3, .int .i64 a, .string s, .int .i64 n, .slice (some ⟨bs, o, none⟩) 2 c]] w _
  go_enter Tryz.func107, Tryz.ntmps107
  go_wp2_with fail
  rw [HW.out]
  go_region_held3 (fun w' => Below W.heap.size W w' ∧ (w'.cell? ⟨w.heap.size, 0, none⟩ = some (.int .i64 3) ∧ w'.cell? ⟨w.heap.size, 1, none⟩ = some (.int .i64 a) ∧ w'.cell? ⟨w.heap.size, 2, none⟩ = some (.string s) ∧ w'.cell? ⟨w.heap.size, 3, none⟩ = some (.int .i64 n) ∧ w'.cell? ⟨w.heap.size, 4, none⟩ = some (.slice (some ⟨bs, o, none⟩) 2 c)) ∧ (w'.cell? ⟨bs, o, none⟩ = some (.int .i64 t.k) ∧ w'.cell? ⟨bs, o + 1, none⟩ = some (.int .i64 t.a) ∧ w'.cell? ⟨bs, o + 2, none⟩ = some (.string t.s) ∧ w'.cell? ⟨bs, o + 3, none⟩ = some (.int .i64 t.n) ∧ w'.cell? ⟨bs, o + 4, none⟩ = some (.slice F0 t.l.length C0)) ∧ (w'.cell? ⟨bs, o + 5, none⟩ = some (.int .i64 u.k) ∧ w'.cell? ⟨bs, o + 5 + 1, none⟩ = some (.int .i64 u.a) ∧ w'.cell? ⟨bs, o + 5 + 2, none⟩ = some (.string u.s) ∧ w'.cell? ⟨bs, o + 5 + 3, none⟩ = some (.int .i64 u.n) ∧ w'.cell? ⟨bs, o + 5 + 4, none⟩ = some (.slice F1 u.l.length C1)))
    (first | exact ⟨hbk.out, KEEP.out _ hbk.out⟩)
    (first
      | (go_at_call 70; with_reducible refine (HT.out _ hbk.out).mono ?_; rintro e w3 ⟨rfl, hb3⟩; have hbk := Lib.hid (hbk.out.trans (hb3.mono hbk.out.size)); clear hb3)
      | (go_at_call 70; with_reducible refine (HU.out _ hbk.out).mono ?_; rintro e w3 ⟨rfl, hb3⟩; have hbk := Lib.hid (hbk.out.trans (hb3.mono hbk.out.size)); clear hb3))
  all_goals
    obtain ⟨⟨k0, k1, k2, k3, k4⟩, -⟩ := KEEP.out _ hbk.out
    have hbz := hbk.out.size
    
    go_wp2_with fail
    go_ret
    exact ⟨congrArg (fun z => Ending.returned (Value.string z)) EQ.out.symm, HBW.out.trans (hbk.out.mono HBW.out.size)⟩

set_option maxHeartbeats 8000000 in
theorem inner_pi {a : Int} {s : ByteArray} {n : Int} {t u : RT} (ht : RefIs t) (hu : RefIs u) (hlow : lowB s = false) : InnerIs (.node 3 a s n [t, u]) := by
  intro lo hi A c w h hhi hgd hz
  have gt : goodB t false = true ∧ goodB u false = true := by
    rcases good_cases hgd with ⟨h, _⟩ | ⟨h, _⟩ | ⟨_, _, t', u', h, g1, g2⟩ | ⟨_, t', u', h, g1, g2⟩
    · omega
    · omega
    · injection h with h1 h2; injection h2 with h2 _; subst h1 h2; exact ⟨g1, g2⟩
    · injection h with h1 h2; injection h2 with h2 _; subst h1 h2; exact ⟨g1, g2⟩
  have hzz : t.size + u.size + 1 ≤ 8192 := by rw [size_node, sizeL_cons, sizeL_cons, sizeL_nil] at hz; omega
  have e1 : ∀ lv, subT (exprXL [t, u]) 0 lv = exprX t lv := fun lv => exprXL_at [t, u] 0 (by simp) lv
  have e2 : ∀ lv, subT (exprXL [t, u]) 1 lv = exprX u lv := fun lv => exprXL_at [t, u] 1 (by simp) lv
  have e0 : innerX (RT.node 3 a s n [t, u]).k (RT.node 3 a s n [t, u]).s (RT.node 3 a s n [t, u]).n (exprXL (RT.node 3 a s n [t, u]).l) = bindX (tx s) (exprX t 0) ++ ([32, 45, 62, 32] ++ exprX u 0) := by
    show innerX 3 s n (exprXL [t, u]) = _
    unfold innerX; rw [if_neg (by decide), if_neg (by decide), if_neg (by decide), if_neg (fun h => by rw [hlow] at h; cases h.2), if_neg (by decide), e1, e2]
  rw [e0]
  obtain ⟨bs, o, F0, C0, F1, C1, rfl, hbs, x0, n0, x1, n1⟩ := h.two
  have hbsl : bs < w.heap.size := by omega
  obtain ⟨W, hW⟩ : ∃ W, w.alloc (.cells #[.int .i64 3, .int .i64 a, .string s, .int .i64 n, .slice (some ⟨bs, o, none⟩) 2 c] 27) = W := ⟨_, rfl⟩
  have hBW : Below w.heap.size w W := by rw [← hW]; exact (Below.refl _ _).alloc (Nat.le_refl _) _
  have hWz : W.heap.size = w.heap.size + 1 := by rw [← hW]; simp
  have BW : Bk W w.heap.size 27 #[.int .i64 3, .int .i64 a, .string s, .int .i64 n, .slice (some ⟨bs, o, none⟩) 2 c] := by rw [← hW]; exact Bk.new _ _ _
  have ht0 : ∀ V, Below W.heap.size W V → Calls Tryz.prog 70 #[.agg #[.int .i64 t.k, .int .i64 t.a, .string t.s, .int .i64 t.n, .slice F0 t.l.length C0], .int .i64 0] V (StrIs (baX (exprX t 0)) V) := fun V hV => ht 0 lo hi F0 C0 V (by decide) (n0.kept (hBW.trans (hV.mono hBW.size)) hhi) (by have := hV.size; omega) gt.1 (by omega)
  have hu0 : ∀ V, Below W.heap.size W V → Calls Tryz.prog 70 #[.agg #[.int .i64 u.k, .int .i64 u.a, .string u.s, .int .i64 u.n, .slice F1 u.l.length C1], .int .i64 0] V (StrIs (baX (exprX u 0)) V) := fun V hV => hu 0 lo hi F1 C1 V (by decide) (n1.kept (hBW.trans (hV.mono hBW.size)) hhi) (by have := hV.size; omega) gt.2 (by omega)
  have z0 : (baX (exprX t 0)).size ≤ 500000 := by have := exprX_len t gt.1 0; rw [baX_size]; omega
  have z1 : (baX (exprX u 0)).size ≤ 500000 := by have := exprX_len u gt.2 0; rw [baX_size]; omega
  have zs : s.size ≤ 40 ∨ 3 = (5 : Nat) := by
    rcases good_cases hgd with ⟨h, _⟩ | ⟨h, _⟩ | ⟨_, hn, _⟩ | ⟨h, _⟩
    · omega
    · omega
    · exact .inl (low_40 hn)
    · first | exact .inr rfl | omega
  have hE : baX (bindX (tx s) (exprX t 0) ++ ([32, 45, 62, 32] ++ exprX u 0)) = ⟨#[40]⟩ ++ s ++ ⟨#[32, 58, 32]⟩ ++ baX (exprX t 0) ++ ⟨#[41, 32, 45, 62, 32]⟩ ++ baX (exprX u 0) := by
    have e3 : bindX (tx s) (exprX t 0) ++ ([32, 45, 62, 32] ++ exprX u 0) = ((((([40] ++ tx s) ++ [32, 58, 32]) ++ exprX t 0) ++ [41, 32, 45, 62, 32]) ++ exprX u 0) := by
      unfold bindX typedX; simp only [List.append_assoc, List.cons_append, List.nil_append]
    rw [e3]
    simp only [← baX_cat, baX_tx]
    rfl
  obtain ⟨R0, hR0⟩ : ∃ R, baX (exprX t 0) = R := ⟨_, rfl⟩
  obtain ⟨R1, hR1⟩ : ∃ R, baX (exprX u 0) = R := ⟨_, rfl⟩
  obtain ⟨R, hR⟩ : ∃ R, baX (bindX (tx s) (exprX t 0) ++ ([32, 45, 62, 32] ++ exprX u 0)) = R := ⟨_, rfl⟩
  rw [hR0] at ht0 z0 hE
  rw [hR1] at hu0 z1 hE
  rw [hR] at hE ⊢
  unfold StrIs at ht0 hu0 ⊢
  have EQ := Lib.hid hE
  have HT := Lib.hid ht0
  have HU := Lib.hid hu0
  have KEEP := Lib.hid (fun V (hV : Below W.heap.size W V) => And.intro (BW.below hV (by omega)).w5 (And.intro (x0.kept (hBW.trans (hV.mono hBW.size)) (by omega)).all (x1.kept (hBW.trans (hV.mono hBW.size)) (by omega)).all))
  have HBW := Lib.hid hBW
  obtain ⟨⟨k0, k1, k2, k3, k4⟩, ⟨m0, m1, m2, m3, m4⟩, q0, q1, q2, q3, q4⟩ := KEEP.out W (Below.refl _ _)
  have hbk := Lib.hid ((Below.refl W.heap.size W).drew)
  have HW := Lib.hid hW
  unfold lowB at hlow
  have zs1 : s.size ≤ 40 := zs.elim id (fun h => absurd h (by decide))
  have hlit0 : (⟨#[40]⟩ : ByteArray).size = 1 := rfl
  have hlit1 : (⟨#[32, 58, 32]⟩ : ByteArray).size = 3 := rfl
  have hlit2 : (⟨#[41, 32, 45, 62, 32]⟩ : ByteArray).size = 5 := rfl
  have hadd0 : ∀ V : World, (Op.stringOp .add ⟨#[40]⟩ s).run Tryz.prog V = .ok (.string (⟨#[40]⟩ ++ s)) V := fun V => run_string_add_sum V _ _ (by (repeat rw [ByteArray.size_append]); omega)
  have hadd1 : ∀ V : World, (Op.stringOp .add (⟨#[40]⟩ ++ s) ⟨#[32, 58, 32]⟩).run Tryz.prog V = .ok (.string ((⟨#[40]⟩ ++ s) ++ ⟨#[32, 58, 32]⟩)) V := fun V => run_string_add_sum V _ _ (by (repeat rw [ByteArray.size_append]); omega)
  have hadd2 : ∀ V : World, (Op.stringOp .add ((⟨#[40]⟩ ++ s) ++ ⟨#[32, 58, 32]⟩) R0).run Tryz.prog V = .ok (.string (((⟨#[40]⟩ ++ s) ++ ⟨#[32, 58, 32]⟩) ++ R0)) V := fun V => run_string_add_sum V _ _ (by (repeat rw [ByteArray.size_append]); omega)
  have hadd3 : ∀ V : World, (Op.stringOp .add (((⟨#[40]⟩ ++ s) ++ ⟨#[32, 58, 32]⟩) ++ R0) ⟨#[41, 32, 45, 62, 32]⟩).run Tryz.prog V = .ok (.string ((((⟨#[40]⟩ ++ s) ++ ⟨#[32, 58, 32]⟩) ++ R0) ++ ⟨#[41, 32, 45, 62, 32]⟩)) V := fun V => run_string_add_sum V _ _ (by (repeat rw [ByteArray.size_append]); omega)
  have hadd4 : ∀ V : World, (Op.stringOp .add ((((⟨#[40]⟩ ++ s) ++ ⟨#[32, 58, 32]⟩) ++ R0) ++ ⟨#[41, 32, 45, 62, 32]⟩) R1).run Tryz.prog V = .ok (.string (((((⟨#[40]⟩ ++ s) ++ ⟨#[32, 58, 32]⟩) ++ R0) ++ ⟨#[41, 32, 45, 62, 32]⟩) ++ R1)) V := fun V => run_string_add_sum V _ _ (by (repeat rw [ByteArray.size_append]); omega)
  clear hlit0 hlit1 hlit2
  clear ht hu h hhi hgd hz gt hzz e1 e2 e0 x0 n0 x1 n1 hBW BW ht0 hu0 hE hR0 hR1 hR hW
  show Calls Tryz.prog 107 #[.agg #[.int .i64 3, .int .i64 a, .string s, .int .i64 n, .slice (some ⟨bs, o, none⟩) 2 c]] w _
  go_enter Tryz.func107, Tryz.ntmps107
  go_wp2_with fail
  rw [HW.out]
  go_region_held3 (fun w' => Below W.heap.size W w' ∧ (w'.cell? ⟨w.heap.size, 0, none⟩ = some (.int .i64 3) ∧ w'.cell? ⟨w.heap.size, 1, none⟩ = some (.int .i64 a) ∧ w'.cell? ⟨w.heap.size, 2, none⟩ = some (.string s) ∧ w'.cell? ⟨w.heap.size, 3, none⟩ = some (.int .i64 n) ∧ w'.cell? ⟨w.heap.size, 4, none⟩ = some (.slice (some ⟨bs, o, none⟩) 2 c)) ∧ (w'.cell? ⟨bs, o, none⟩ = some (.int .i64 t.k) ∧ w'.cell? ⟨bs, o + 1, none⟩ = some (.int .i64 t.a) ∧ w'.cell? ⟨bs, o + 2, none⟩ = some (.string t.s) ∧ w'.cell? ⟨bs, o + 3, none⟩ = some (.int .i64 t.n) ∧ w'.cell? ⟨bs, o + 4, none⟩ = some (.slice F0 t.l.length C0)) ∧ (w'.cell? ⟨bs, o + 5, none⟩ = some (.int .i64 u.k) ∧ w'.cell? ⟨bs, o + 5 + 1, none⟩ = some (.int .i64 u.a) ∧ w'.cell? ⟨bs, o + 5 + 2, none⟩ = some (.string u.s) ∧ w'.cell? ⟨bs, o + 5 + 3, none⟩ = some (.int .i64 u.n) ∧ w'.cell? ⟨bs, o + 5 + 4, none⟩ = some (.slice F1 u.l.length C1)))
    (first | exact ⟨hbk.out, KEEP.out _ hbk.out⟩)
    (first
      | (go_at_call 70; with_reducible refine (HT.out _ hbk.out).mono ?_; rintro e w3 ⟨rfl, hb3⟩; have hbk := Lib.hid (hbk.out.trans (hb3.mono hbk.out.size)); clear hb3)
      | (go_at_call 70; with_reducible refine (HU.out _ hbk.out).mono ?_; rintro e w3 ⟨rfl, hb3⟩; have hbk := Lib.hid (hbk.out.trans (hb3.mono hbk.out.size)); clear hb3))
  all_goals
    obtain ⟨⟨k0, k1, k2, k3, k4⟩, -⟩ := KEEP.out _ hbk.out
    have hbz := hbk.out.size
    
    go_wp2_with fail
    go_ret
    exact ⟨congrArg (fun z => Ending.returned (Value.string z)) EQ.out.symm, HBW.out.trans (hbk.out.mono HBW.out.size)⟩

set_option maxHeartbeats 8000000 in
theorem inner_lam {a : Int} {s : ByteArray} {n : Int} {t u : RT} (ht : RefIs t) (hu : RefIs u)  : InnerIs (.node 4 a s n [t, u]) := by
  intro lo hi A c w h hhi hgd hz
  have gt : goodB t false = true ∧ goodB u false = true := by
    rcases good_cases hgd with ⟨h, _⟩ | ⟨h, _⟩ | ⟨_, _, t', u', h, g1, g2⟩ | ⟨_, t', u', h, g1, g2⟩
    · omega
    · omega
    · injection h with h1 h2; injection h2 with h2 _; subst h1 h2; exact ⟨g1, g2⟩
    · injection h with h1 h2; injection h2 with h2 _; subst h1 h2; exact ⟨g1, g2⟩
  have hzz : t.size + u.size + 1 ≤ 8192 := by rw [size_node, sizeL_cons, sizeL_cons, sizeL_nil] at hz; omega
  have e1 : ∀ lv, subT (exprXL [t, u]) 0 lv = exprX t lv := fun lv => exprXL_at [t, u] 0 (by simp) lv
  have e2 : ∀ lv, subT (exprXL [t, u]) 1 lv = exprX u lv := fun lv => exprXL_at [t, u] 1 (by simp) lv
  have e0 : innerX (RT.node 4 a s n [t, u]).k (RT.node 4 a s n [t, u]).s (RT.node 4 a s n [t, u]).n (exprXL (RT.node 4 a s n [t, u]).l) = [92, 32] ++ (bindX (tx s) (exprX t 0) ++ ([32, 45, 62, 32] ++ exprX u 0)) := by
    show innerX 4 s n (exprXL [t, u]) = _
    unfold innerX; rw [if_neg (by decide), if_neg (by decide), if_neg (by decide), if_neg (fun h => absurd h.1 (by decide)), if_pos rfl, e1, e2]
  rw [e0]
  obtain ⟨bs, o, F0, C0, F1, C1, rfl, hbs, x0, n0, x1, n1⟩ := h.two
  have hbsl : bs < w.heap.size := by omega
  obtain ⟨W, hW⟩ : ∃ W, w.alloc (.cells #[.int .i64 4, .int .i64 a, .string s, .int .i64 n, .slice (some ⟨bs, o, none⟩) 2 c] 27) = W := ⟨_, rfl⟩
  have hBW : Below w.heap.size w W := by rw [← hW]; exact (Below.refl _ _).alloc (Nat.le_refl _) _
  have hWz : W.heap.size = w.heap.size + 1 := by rw [← hW]; simp
  have BW : Bk W w.heap.size 27 #[.int .i64 4, .int .i64 a, .string s, .int .i64 n, .slice (some ⟨bs, o, none⟩) 2 c] := by rw [← hW]; exact Bk.new _ _ _
  have ht0 : ∀ V, Below W.heap.size W V → Calls Tryz.prog 70 #[.agg #[.int .i64 t.k, .int .i64 t.a, .string t.s, .int .i64 t.n, .slice F0 t.l.length C0], .int .i64 0] V (StrIs (baX (exprX t 0)) V) := fun V hV => ht 0 lo hi F0 C0 V (by decide) (n0.kept (hBW.trans (hV.mono hBW.size)) hhi) (by have := hV.size; omega) gt.1 (by omega)
  have hu0 : ∀ V, Below W.heap.size W V → Calls Tryz.prog 70 #[.agg #[.int .i64 u.k, .int .i64 u.a, .string u.s, .int .i64 u.n, .slice F1 u.l.length C1], .int .i64 0] V (StrIs (baX (exprX u 0)) V) := fun V hV => hu 0 lo hi F1 C1 V (by decide) (n1.kept (hBW.trans (hV.mono hBW.size)) hhi) (by have := hV.size; omega) gt.2 (by omega)
  have z0 : (baX (exprX t 0)).size ≤ 500000 := by have := exprX_len t gt.1 0; rw [baX_size]; omega
  have z1 : (baX (exprX u 0)).size ≤ 500000 := by have := exprX_len u gt.2 0; rw [baX_size]; omega
  have zs : s.size ≤ 40 ∨ 4 = (5 : Nat) := by
    rcases good_cases hgd with ⟨h, _⟩ | ⟨h, _⟩ | ⟨_, hn, _⟩ | ⟨h, _⟩
    · omega
    · omega
    · exact .inl (low_40 hn)
    · first | exact .inr rfl | omega
  have hE : baX ([92, 32] ++ (bindX (tx s) (exprX t 0) ++ ([32, 45, 62, 32] ++ exprX u 0))) = ⟨#[92, 32]⟩ ++ (⟨#[40]⟩ ++ s ++ ⟨#[32, 58, 32]⟩ ++ baX (exprX t 0) ++ ⟨#[41, 32, 45, 62, 32]⟩ ++ baX (exprX u 0)) := by
    have e3 : [92, 32] ++ (bindX (tx s) (exprX t 0) ++ ([32, 45, 62, 32] ++ exprX u 0)) = [92, 32] ++ ((((([40] ++ tx s) ++ [32, 58, 32]) ++ exprX t 0) ++ [41, 32, 45, 62, 32]) ++ exprX u 0) := by
      unfold bindX typedX; simp only [List.append_assoc, List.cons_append, List.nil_append]
    rw [e3]
    simp only [← baX_cat, baX_tx]
    rfl
  obtain ⟨R0, hR0⟩ : ∃ R, baX (exprX t 0) = R := ⟨_, rfl⟩
  obtain ⟨R1, hR1⟩ : ∃ R, baX (exprX u 0) = R := ⟨_, rfl⟩
  obtain ⟨R, hR⟩ : ∃ R, baX ([92, 32] ++ (bindX (tx s) (exprX t 0) ++ ([32, 45, 62, 32] ++ exprX u 0))) = R := ⟨_, rfl⟩
  rw [hR0] at ht0 z0 hE
  rw [hR1] at hu0 z1 hE
  rw [hR] at hE ⊢
  unfold StrIs at ht0 hu0 ⊢
  have EQ := Lib.hid hE
  have HT := Lib.hid ht0
  have HU := Lib.hid hu0
  have KEEP := Lib.hid (fun V (hV : Below W.heap.size W V) => And.intro (BW.below hV (by omega)).w5 (And.intro (x0.kept (hBW.trans (hV.mono hBW.size)) (by omega)).all (x1.kept (hBW.trans (hV.mono hBW.size)) (by omega)).all))
  have HBW := Lib.hid hBW
  obtain ⟨⟨k0, k1, k2, k3, k4⟩, ⟨m0, m1, m2, m3, m4⟩, q0, q1, q2, q3, q4⟩ := KEEP.out W (Below.refl _ _)
  have hbk := Lib.hid ((Below.refl W.heap.size W).drew)
  have HW := Lib.hid hW
  have zs1 : s.size ≤ 40 := zs.elim id (fun h => absurd h (by decide))
  have hlit0 : (⟨#[40]⟩ : ByteArray).size = 1 := rfl
  have hlit1 : (⟨#[32, 58, 32]⟩ : ByteArray).size = 3 := rfl
  have hlit2 : (⟨#[41, 32, 45, 62, 32]⟩ : ByteArray).size = 5 := rfl
  have hlit3 : (⟨#[92, 32]⟩ : ByteArray).size = 2 := rfl
  have hadd0 : ∀ V : World, (Op.stringOp .add ⟨#[40]⟩ s).run Tryz.prog V = .ok (.string (⟨#[40]⟩ ++ s)) V := fun V => run_string_add_sum V _ _ (by (repeat rw [ByteArray.size_append]); omega)
  have hadd1 : ∀ V : World, (Op.stringOp .add (⟨#[40]⟩ ++ s) ⟨#[32, 58, 32]⟩).run Tryz.prog V = .ok (.string ((⟨#[40]⟩ ++ s) ++ ⟨#[32, 58, 32]⟩)) V := fun V => run_string_add_sum V _ _ (by (repeat rw [ByteArray.size_append]); omega)
  have hadd2 : ∀ V : World, (Op.stringOp .add ((⟨#[40]⟩ ++ s) ++ ⟨#[32, 58, 32]⟩) R0).run Tryz.prog V = .ok (.string (((⟨#[40]⟩ ++ s) ++ ⟨#[32, 58, 32]⟩) ++ R0)) V := fun V => run_string_add_sum V _ _ (by (repeat rw [ByteArray.size_append]); omega)
  have hadd3 : ∀ V : World, (Op.stringOp .add (((⟨#[40]⟩ ++ s) ++ ⟨#[32, 58, 32]⟩) ++ R0) ⟨#[41, 32, 45, 62, 32]⟩).run Tryz.prog V = .ok (.string ((((⟨#[40]⟩ ++ s) ++ ⟨#[32, 58, 32]⟩) ++ R0) ++ ⟨#[41, 32, 45, 62, 32]⟩)) V := fun V => run_string_add_sum V _ _ (by (repeat rw [ByteArray.size_append]); omega)
  have hadd4 : ∀ V : World, (Op.stringOp .add ((((⟨#[40]⟩ ++ s) ++ ⟨#[32, 58, 32]⟩) ++ R0) ++ ⟨#[41, 32, 45, 62, 32]⟩) R1).run Tryz.prog V = .ok (.string (((((⟨#[40]⟩ ++ s) ++ ⟨#[32, 58, 32]⟩) ++ R0) ++ ⟨#[41, 32, 45, 62, 32]⟩) ++ R1)) V := fun V => run_string_add_sum V _ _ (by (repeat rw [ByteArray.size_append]); omega)
  have hadd5 : ∀ V : World, (Op.stringOp .add ⟨#[92, 32]⟩ (((((⟨#[40]⟩ ++ s) ++ ⟨#[32, 58, 32]⟩) ++ R0) ++ ⟨#[41, 32, 45, 62, 32]⟩) ++ R1)).run Tryz.prog V = .ok (.string (⟨#[92, 32]⟩ ++ (((((⟨#[40]⟩ ++ s) ++ ⟨#[32, 58, 32]⟩) ++ R0) ++ ⟨#[41, 32, 45, 62, 32]⟩) ++ R1))) V := fun V => run_string_add_sum V _ _ (by (repeat rw [ByteArray.size_append]); omega)
  clear hlit0 hlit1 hlit2 hlit3
  clear ht hu h hhi hgd hz gt hzz e1 e2 e0 x0 n0 x1 n1 hBW BW ht0 hu0 hE hR0 hR1 hR hW
  show Calls Tryz.prog 107 #[.agg #[.int .i64 4, .int .i64 a, .string s, .int .i64 n, .slice (some ⟨bs, o, none⟩) 2 c]] w _
  go_enter Tryz.func107, Tryz.ntmps107
  go_wp2_with fail
  rw [HW.out]
  go_region_held3 (fun w' => Below W.heap.size W w' ∧ (w'.cell? ⟨w.heap.size, 0, none⟩ = some (.int .i64 4) ∧ w'.cell? ⟨w.heap.size, 1, none⟩ = some (.int .i64 a) ∧ w'.cell? ⟨w.heap.size, 2, none⟩ = some (.string s) ∧ w'.cell? ⟨w.heap.size, 3, none⟩ = some (.int .i64 n) ∧ w'.cell? ⟨w.heap.size, 4, none⟩ = some (.slice (some ⟨bs, o, none⟩) 2 c)) ∧ (w'.cell? ⟨bs, o, none⟩ = some (.int .i64 t.k) ∧ w'.cell? ⟨bs, o + 1, none⟩ = some (.int .i64 t.a) ∧ w'.cell? ⟨bs, o + 2, none⟩ = some (.string t.s) ∧ w'.cell? ⟨bs, o + 3, none⟩ = some (.int .i64 t.n) ∧ w'.cell? ⟨bs, o + 4, none⟩ = some (.slice F0 t.l.length C0)) ∧ (w'.cell? ⟨bs, o + 5, none⟩ = some (.int .i64 u.k) ∧ w'.cell? ⟨bs, o + 5 + 1, none⟩ = some (.int .i64 u.a) ∧ w'.cell? ⟨bs, o + 5 + 2, none⟩ = some (.string u.s) ∧ w'.cell? ⟨bs, o + 5 + 3, none⟩ = some (.int .i64 u.n) ∧ w'.cell? ⟨bs, o + 5 + 4, none⟩ = some (.slice F1 u.l.length C1)))
    (first | exact ⟨hbk.out, KEEP.out _ hbk.out⟩)
    (first
      | (go_at_call 70; with_reducible refine (HT.out _ hbk.out).mono ?_; rintro e w3 ⟨rfl, hb3⟩; have hbk := Lib.hid (hbk.out.trans (hb3.mono hbk.out.size)); clear hb3)
      | (go_at_call 70; with_reducible refine (HU.out _ hbk.out).mono ?_; rintro e w3 ⟨rfl, hb3⟩; have hbk := Lib.hid (hbk.out.trans (hb3.mono hbk.out.size)); clear hb3))
  all_goals
    obtain ⟨⟨k0, k1, k2, k3, k4⟩, -⟩ := KEEP.out _ hbk.out
    have hbz := hbk.out.size
    
    go_wp2_with fail
    go_ret
    exact ⟨congrArg (fun z => Ending.returned (Value.string z)) EQ.out.symm, HBW.out.trans (hbk.out.mono HBW.out.size)⟩

theorem refs_is : ∀ t, RefIs t ∧ InnerIs t := by
  intro t
  induction t using RT.ind with
  | h k a s n l ih =>
    have hI : InnerIs (.node k a s n l) := by
      intro lo hi A c w h hhi hgd hz
      rcases good_cases hgd with ⟨rfl, rfl, hn⟩ | ⟨rfl, rfl, h0, h7⟩ | ⟨hk, hn, t, u, rfl, gt, gu⟩ | ⟨rfl, t, u, rfl, gt, gu⟩
      · exact inner_name lo hi A c w h hhi hgd hz
      · by_cases hn : n = 0
        · exact inner_set0 hn lo hi A c w h hhi hgd hz
        · exact inner_set hn h0 h7 lo hi A c w h hhi hgd hz
      · have ht := (ih t (by simp)).1
        have hu := (ih u (by simp)).1
        rcases hk with rfl | rfl
        · cases hl : lowB s with
          | true => exact inner_arrow ht hu hl lo hi A c w h hhi hgd hz
          | false => exact inner_pi ht hu hl lo hi A c w h hhi hgd hz
        · exact inner_lam ht hu lo hi A c w h hhi hgd hz
      · exact inner_app (ih t (by simp)).1 (ih u (by simp)).1 lo hi A c w h hhi hgd hz
    refine ⟨?_, hI⟩
    intro lv lo hi A c w hlv h hhi hgd hz
    have hK : ∃ K : Nat, k = K ∧ 1 ≤ K ∧ K ≤ 5 := by
      rcases good_cases hgd with ⟨rfl, _⟩ | ⟨rfl, _⟩ | ⟨hk, _⟩ | ⟨rfl, _⟩
      · exact ⟨1, rfl, by omega, by omega⟩
      · exact ⟨2, rfl, by omega, by omega⟩
      · rcases hk with rfl | rfl
        · exact ⟨3, rfl, by omega, by omega⟩
        · exact ⟨4, rfl, by omega, by omega⟩
      · exact ⟨5, rfl, by omega, by omega⟩
    obtain ⟨K, rfl, h1, h5⟩ := hK
    exact ref_step (L := lowest K) hI rfl h1 h5 (by
      rcases (show K = 1 ∨ K = 2 ∨ K = 3 ∨ K = 4 ∨ K = 5 by omega) with rfl | rfl | rfl | rfl | rfl <;> rfl) lv lo hi A c w hlv h hhi hgd hz
theorem refX_any (t : RT) : RefIs t := (refs_is t).1

end Go.Proofs.YteaojmcfppbgiaaGreatDoor

/- The document's text of a pattern: scholiumref06.Pattern. -/
namespace Go.Proofs.YteaojmcfppbgiaaGreatDoor
open Go.RowKit
set_option linter.unusedVariables false
set_option maxRecDepth 100000

def RefPatIs (t : RT) : Prop := ∀ (lo hi : Nat) (A : Option Addr) (c : Nat) (w : World), IsNode w lo hi t A c → hi ≤ w.heap.size → goodB t true = true → t.size ≤ 8192 →
    Calls Tryz.prog 71 #[nodeV t A c] w (StrIs (baX (patX t)) w)

set_option maxHeartbeats 2000000 in
theorem rpat_name {a : Int} {s : ByteArray} {n : Int} {A : Option Addr} {c : Nat} {w : World} :
    Calls Tryz.prog 71 #[nodeV (.node 6 a s n []) A c] w (StrIs (baX (tx s)) w) := by
  have hE : baX (tx s) = s := baX_tx s
  obtain ⟨R, hR⟩ : ∃ R, baX (tx s) = R := ⟨_, rfl⟩
  rw [hR] at hE ⊢
  have EQ := Lib.hid hE
  unfold StrIs
  clear hR hE
  show Calls Tryz.prog 71 #[.agg #[.int .i64 6, .int .i64 a, .string s, .int .i64 n, .slice A 0 c]] w _
  go_enter Tryz.func71, Tryz.ntmps71
  go_wp2_with fail
  go_ret
  exact ⟨congrArg (fun z => Ending.returned (Value.string z)) EQ.out.symm, ((Below.refl w.heap.size w).alloc (Nat.le_refl _) _)⟩

set_option maxHeartbeats 2000000 in
theorem rpat_any {a : Int} {s : ByteArray} {n : Int} {A : Option Addr} {c : Nat} {w : World} :
    Calls Tryz.prog 71 #[nodeV (.node 7 a s n []) A c] w (StrIs (baX (([95] : Tx))) w) := by
  have hE : baX (([95] : Tx)) = ⟨#[95]⟩ := rfl
  obtain ⟨R, hR⟩ : ∃ R, baX (([95] : Tx)) = R := ⟨_, rfl⟩
  rw [hR] at hE ⊢
  have EQ := Lib.hid hE
  unfold StrIs
  clear hR hE
  show Calls Tryz.prog 71 #[.agg #[.int .i64 7, .int .i64 a, .string s, .int .i64 n, .slice A 0 c]] w _
  go_enter Tryz.func71, Tryz.ntmps71
  go_wp2_with fail
  go_ret
  exact ⟨congrArg (fun z => Ending.returned (Value.string z)) EQ.out.symm, ((Below.refl w.heap.size w).alloc (Nat.le_refl _) _)⟩

set_option maxHeartbeats 2000000 in
theorem rpat_none {a : Int} {s : ByteArray} {n : Int} {A : Option Addr} {c : Nat} {w : World} :
    Calls Tryz.prog 71 #[nodeV (.node 9 a s n []) A c] w (StrIs (baX (([40, 41] : Tx))) w) := by
  have hE : baX (([40, 41] : Tx)) = ⟨#[40, 41]⟩ := rfl
  obtain ⟨R, hR⟩ : ∃ R, baX (([40, 41] : Tx)) = R := ⟨_, rfl⟩
  rw [hR] at hE ⊢
  have EQ := Lib.hid hE
  unfold StrIs
  clear hR hE
  show Calls Tryz.prog 71 #[.agg #[.int .i64 9, .int .i64 a, .string s, .int .i64 n, .slice A 0 c]] w _
  go_enter Tryz.func71, Tryz.ntmps71
  go_wp2_with fail
  go_ret
  exact ⟨congrArg (fun z => Ending.returned (Value.string z)) EQ.out.symm, ((Below.refl w.heap.size w).alloc (Nat.le_refl _) _)⟩

set_option maxHeartbeats 2000000 in
theorem rpat_dot {a : Int} {s : ByteArray} {n : Int} {t : RT} (gt : goodB t false = true) (hz : t.size ≤ 8192) {lo hi : Nat} {A : Option Addr} {c : Nat} {w : World} (h : IsNode w lo hi (.node 10 a s n [t]) A c) (hhi : hi ≤ w.heap.size) :
    Calls Tryz.prog 71 #[nodeV (.node 10 a s n [t]) A c] w (StrIs (baX ([46] ++ exprX t 2)) w) := by
  obtain ⟨bs, o, F0, C0, hA, hb1, hbs, x0, n0⟩ := h.sub 0 (by simp)
  subst hA
  have x0 : Cells5 w bs o t F0 C0 := by simpa using x0
  have n0 : IsNode w lo hi t F0 C0 := n0
  have hbsl : bs < w.heap.size := by omega
  obtain ⟨c0, c1, c2, c3, c4⟩ := x0.all
  have ht0 := fun V (hV : Below w.heap.size w V) => refX_any t 2 lo hi F0 C0 V (by decide) (n0.kept hV hhi) (Nat.le_trans hhi hV.size) gt hz
  have z0 : (baX (exprX t 2)).size ≤ 500000 := by have := exprX_len t gt 2; rw [baX_size]; omega
  have hE : baX ([46] ++ exprX t 2) = ⟨#[46]⟩ ++ baX (exprX t 2) := by rw [← baX_cat]; rfl
  obtain ⟨R0, hR0⟩ : ∃ R, baX (exprX t 2) = R := ⟨_, rfl⟩
  obtain ⟨R, hR⟩ : ∃ R, baX ([46] ++ exprX t 2) = R := ⟨_, rfl⟩
  rw [hR0] at ht0 z0 hE
  rw [hR] at hE ⊢
  unfold StrIs nodeV at ht0
  unfold StrIs
  have EQ := Lib.hid hE
  have HT := Lib.hid ht0
  have hlit : (⟨#[46]⟩ : ByteArray).size = 1 := rfl
  have hadd : ∀ V : World, (Op.stringOp .add ⟨#[46]⟩ R0).run Tryz.prog V = .ok (.string (⟨#[46]⟩ ++ R0)) V := fun V => run_string_add_sum V _ _ (by omega)
  clear gt hz h hhi x0 n0 ht0 hE hR0 hR hlit z0
  show Calls Tryz.prog 71 #[.agg #[.int .i64 10, .int .i64 a, .string s, .int .i64 n, .slice (some ⟨bs, o, none⟩) 1 c]] w _
  go_enter Tryz.func71, Tryz.ntmps71
  go_wp2_with fail
  refine (HT.out _ ((Below.refl w.heap.size w).alloc (Nat.le_refl _) _)).mono ?_; rintro e w1 ⟨rfl, hb⟩
  go_wp2_with fail
  go_ret
  exact ⟨congrArg (fun z => Ending.returned (Value.string z)) EQ.out.symm, ((Below.refl w.heap.size w).alloc (Nat.le_refl _) _).trans (hb.mono (by simp))⟩

set_option maxHeartbeats 4000000 in
theorem rpat_con {a : Int} {s : ByteArray} {n : Int} {l : List RT} (ih : ∀ t ∈ l, RefPatIs t) (hs : nmB s = true) (gl : goodL l true = true) (hz : sizeL l ≤ 8192) {lo hi : Nat} {A : Option Addr} {c : Nat} {w : World} (h : IsNode w lo hi (.node 8 a s n l) A c) (hhi : hi ≤ w.heap.size) :
    Calls Tryz.prog 71 #[nodeV (.node 8 a s n l) A c] w (StrIs (baX (([40] ++ tx s) ++ (patXL l ++ [41]))) w) := by
  have hs40 := nm_40 hs
  have hlen : l.length ≤ maxLen := Nat.le_trans h.bounds.2.1 h.bounds.2.2
  unfold maxLen at hlen
  have HLEN := Lib.hid hlen
  have HSUB := Lib.hid (fun (i : Nat) (hi : i < l.length) => h.sub i hi)
  have HT := Lib.hid (fun (t : RT) (ht : t ∈ l) (F : Option Addr) (C : Nat) (hn : IsNode w lo hi t F C) V (hV : Below w.heap.size w V) => ih t ht lo hi F C V (hn.kept hV hhi) (Nat.le_trans hhi hV.size) (goodL_mem gl ht) (Nat.le_trans (size_mem ht) hz))
  unfold StrIs nodeV at HT
  have HSZ : Hid (∀ i, (baX (([40] ++ tx s) ++ patXL (l.take i))).size ≤ 500000) := Lib.hid (fun i => by
    have h1 := patXL_len (l.take i) (fun t ht => patX_len t) (by rw [goodL_all, List.all_eq_true]; intro t ht; exact goodL_mem gl (List.mem_of_mem_take ht))
    have h2 := sizeL_take_le l i
    rw [baX_size]
    simp [tx_length]
    have := tx_length s
    omega)
  have HPZ : Hid (∀ t ∈ l, (baX (patX t)).size ≤ 500000) := Lib.hid (fun t ht => by
    have h1 := patX_len t (goodL_mem gl ht)
    have h2 := size_mem ht
    rw [baX_size]; omega)
  have HIN : Hid (baX (([40] ++ tx s) ++ patXL (l.take 0)) = ⟨#[40]⟩ ++ s) := Lib.hid (by rw [List.take_zero, patXL_nil, List.append_nil, ← baX_cat, baX_tx]; rfl)
  have HNX : Hid (∀ i (hi : i < l.length), baX (([40] ++ tx s) ++ patXL (l.take (i + 1))) = baX (([40] ++ tx s) ++ patXL (l.take i)) ++ ⟨#[32]⟩ ++ baX (patX l[i])) := Lib.hid (fun i hi => by
    rw [take_snoc hi, patXL_append, patXL_cons, patXL_nil, List.append_nil, ← List.append_assoc, ← List.append_assoc, ← baX_cat, ← baX_cat]; rfl)
  obtain ⟨R, hR⟩ : ∃ R, baX (([40] ++ tx s) ++ (patXL l ++ [41])) = R := ⟨_, rfl⟩
  have EQ : Hid (R = baX (([40] ++ tx s) ++ patXL (l.take l.length)) ++ ⟨#[41]⟩) := Lib.hid (by rw [← hR, List.take_length, ← List.append_assoc, ← baX_cat]; rfl)
  rw [hR]
  unfold StrIs
  obtain ⟨P, hP⟩ : ∃ P : Nat → ByteArray, (fun i => baX (([40] ++ tx s) ++ patXL (l.take i))) = P := ⟨_, rfl⟩
  have HP := Lib.hid (fun i => congrFun hP i)
  have hlit0 : (⟨#[40]⟩ : ByteArray).size = 1 := rfl
  have hadd0 : ∀ V : World, (Op.stringOp .add ⟨#[40]⟩ s).run Tryz.prog V = .ok (.string (⟨#[40]⟩ ++ s)) V := fun V => run_string_add_sum V _ _ (by omega)
  have HHI := Lib.hid hhi
  have HBX := Lib.hid (Bk.new w 27 #[.int .i64 8, .int .i64 a, .string s, .int .i64 n, .slice A l.length c])
  clear h hhi hR hP gl ih hs hlen hz hlit0 hs40
  show Calls Tryz.prog 71 #[.agg #[.int .i64 8, .int .i64 a, .string s, .int .i64 n, .slice A l.length c]] w _
  go_enter Tryz.func71, Tryz.ntmps71
  go_wp2_with fail
  go_loopw [3, 4] (fun sv iv wr => ∃ i : Nat, i ≤ l.length ∧ iv = .int .i64 i ∧ sv = .string (P i) ∧ Hid (Below w.heap.size w wr) ∧ Hid (Bk wr w.heap.size 27 #[.int .i64 8, .int .i64 a, .string s, .int .i64 n, .slice A l.length c])) (fun _ iv _ => l.length - (intOf iv).toNat)
  case atStart => exact ⟨0, Nat.zero_le _, rfl, by rw [← HP.out 0, HIN.out], Lib.hid ((Below.refl _ _).alloc (Nat.le_refl _) _), HBX⟩
  case round =>
    obtain ⟨i, hi, rfl, rfl, HBL, HBK⟩ := hrel
    obtain ⟨k0, k1, k2, k3, k4⟩ := HBK.out.w5
    have hkl := HBK.out.lt
    have hwz := HBL.out.size
    obtain ⟨Q, hQ⟩ : ∃ Q, P i = Q := ⟨_, rfl⟩
    have hQz : Q.size ≤ 500000 := by rw [← hQ, ← HP.out i]; exact HSZ.out i
    rw [hQ]
    by_cases hlt : i < l.length
    · obtain ⟨bs, o, F, C, hA, hb1, hbs, x0, n0⟩ := HSUB.out i hlt
      subst hA
      have hbsr : bs < wr.heap.size := by have := HHI.out; omega
      obtain ⟨c0, c1, c2, c3, c4⟩ := (x0.kept HBL.out (by have := HHI.out; omega)).all
      have hPN : P (i + 1) = Q ++ ⟨#[32]⟩ ++ baX (patX l[i]) := by rw [← hQ, ← HP.out, ← HP.out]; exact HNX.out i hlt
      obtain ⟨t, ht⟩ : ∃ t, l[i] = t := ⟨_, rfl⟩
      have hmem : t ∈ l := by rw [← ht]; exact List.getElem_mem _
      rw [ht] at c0 c1 c2 c3 c4 n0 hPN
      have HTT := Lib.hid (HT.out t hmem F C n0 wr HBL.out)
      have hTz := HPZ.out t hmem
      obtain ⟨R0, hR0⟩ : ∃ R, baX (patX t) = R := ⟨_, rfl⟩
      rw [hR0] at HTT hTz hPN
      have HPN := Lib.hid hPN
      have hlit1 : (⟨#[32]⟩ : ByteArray).size = 1 := rfl
      have hadd1 : ∀ V : World, (Op.stringOp .add Q ⟨#[32]⟩).run Tryz.prog V = .ok (.string (Q ++ ⟨#[32]⟩)) V := fun V => run_string_add_sum V _ _ (by omega)
      have hadd2 : ∀ V : World, (Op.stringOp .add (Q ++ ⟨#[32]⟩) R0).run Tryz.prog V = .ok (.string (Q ++ ⟨#[32]⟩ ++ R0)) V := fun V => run_string_add_sum V _ _ (by rw [ByteArray.size_append]; omega)
      have hi1 : i + 1 ≤ l.length := hlt
      have hiL : (i : Int) < 9223372036854775807 := by have := HLEN.out; omega
      clear x0 n0 ht hR0 HSUB HT hPN hQ hQz hTz hlit1 hadd0
      go_wp2_with fail
      refine HTT.out.mono ?_; rintro e w1 ⟨rfl, hb⟩
      have hs1 := hb.size
      have HB1 := Lib.hid (HBL.out.trans (hb.mono hwz))
      have HK1 := Lib.hid (HBK.out.below hb hkl)
      clear hb
      go_wp2_with fail
      go_roundw
      case rel => exact ⟨i + 1, hi1, by go_num, by rw [HPN.out], HB1, HK1⟩
      case measure => simp [intOf]; omega
    · obtain rfl : i = l.length := by omega
      have hlit1 : (⟨#[41]⟩ : ByteArray).size = 1 := rfl
      have hadd1 : ∀ V : World, (Op.stringOp .add Q ⟨#[41]⟩).run Tryz.prog V = .ok (.string (Q ++ ⟨#[41]⟩)) V := fun V => run_string_add_sum V _ _ (by omega)
      have EQ2 : Hid (Q ++ ⟨#[41]⟩ = R) := Lib.hid (by rw [EQ.out, ← hQ, ← HP.out])
      clear hQ hQz hlit1 HSUB HT hadd0
      go_wp2_with fail
      go_ret
      exact ⟨congrArg (fun z => Ending.returned (Value.string z)) EQ2.out, HBL.out⟩
theorem refPat_any : ∀ t, RefPatIs t := by
  intro t
  induction t using RT.ind with
  | h k a s n l ih =>
    intro lo hi A c w h hhi hgd hz
    rw [size_node] at hz
    rw [patX_node]
    rcases good_pats hgd with ⟨rfl, rfl, hn⟩ | ⟨rfl, rfl⟩ | ⟨rfl, rfl⟩ | ⟨rfl, t, rfl, gt⟩ | ⟨rfl, hn, hl, gl⟩
    · rw [if_pos rfl]; exact rpat_name
    · rw [if_neg (by decide), if_pos rfl]; exact rpat_any
    · rw [if_neg (by decide), if_neg (by decide), if_pos rfl]; exact rpat_none
    · rw [if_neg (by decide), if_neg (by decide), if_neg (by decide), if_pos rfl, exprXL_at [t] 0 (by simp) 2]
      exact rpat_dot gt (by rw [sizeL_cons, sizeL_nil] at hz; omega) h hhi
    · rw [if_neg (by decide), if_neg (by decide), if_neg (by decide), if_neg (by decide)]; exact rpat_con ih hn gl (by omega) h hhi

end Go.Proofs.YteaojmcfppbgiaaGreatDoor
