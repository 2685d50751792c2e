/- parse: a node as a result; what a level, an atom comes to. The reader alone is written. -/
import Derived.Test.YteaojmcfppbgiaaGreatDoorB3
import Derived.ProofKit
import Derived.Deep.RegionHeld3
namespace Go.Proofs.YteaojmcfppbgiaaGreatDoor
open Go.RowKit
set_option linter.unusedVariables false
set_option maxRecDepth 100000

theorem IsNode.kpw {w w' : World} {B r : Nat} {t : RT} {A : Option Addr} {c : Nat} (h : IsNode w B w.heap.size t A c) (hk : Kp r w w') (hr : r < B) : IsNode w' B w'.heap.size t A c :=
  (h.kp hk (Nat.le_refl _) hr).wide (Nat.le_refl _) hk.size
theorem IsNode.allocw {w : World} {B : Nat} {t : RT} {A : Option Addr} {c : Nat} (h : IsNode w B w.heap.size t A c) (o : Obj) : IsNode (w.alloc o) B (w.alloc o).heap.size t A c :=
  (h.alloc (Nat.le_refl _) o).wide (Nat.le_refl _) (by simp)
theorem Bk.c5 {w : World} {g : Nat} {e : TypeId} {c0 c1 c2 c3 c4 : Value} (h : Bk w g e #[c0, c1, c2, c3, c4]) :
    w.cell? ⟨g, 0, none⟩ = some c0 ∧ w.cell? ⟨g, 1, none⟩ = some c1 ∧ w.cell? ⟨g, 2, none⟩ = some c2 ∧ w.cell? ⟨g, 3, none⟩ = some c3 ∧ w.cell? ⟨g, 4, none⟩ = some c4 :=
  ⟨h.cell 0, h.cell 1, h.cell 2, h.cell 3, h.cell 4⟩
theorem Bk.c3 {w : World} {g : Nat} {e : TypeId} {c0 c1 c2 : Value} (h : Bk w g e #[c0, c1, c2]) :
    w.cell? ⟨g, 0, none⟩ = some c0 ∧ w.cell? ⟨g, 1, none⟩ = some c1 ∧ w.cell? ⟨g, 2, none⟩ = some c2 := ⟨h.cell 0, h.cell 1, h.cell 2⟩
theorem node_leaf {w : World} {lo hi : Nat} (k a : Int) (s : ByteArray) (n : Int) (hs : s.size ≤ maxLen) : IsNode w lo hi (.node k a s n []) none 0 :=
  NodeIn.mk k a s n [] none 0 (fun _ => none) (fun _ => 0) hs (Nat.le_refl _) (by decide) (fun h => by simp at h) (fun i h => by simp at h)
def five (w : World) (g : Nat) (v0 v1 v2 v3 v4 : Value) : World := ((((w.setCell ⟨g, 0, none⟩ v0).setCell ⟨g, 1, none⟩ v1).setCell ⟨g, 2, none⟩ v2).setCell ⟨g, 3, none⟩ v3).setCell ⟨g, 4, none⟩ v4
/-- A node stored into the result's block. -/
theorem node_box {w V : World} {r g : Nat} {L : List Tk} {cap : Nat} {s' : St} {k a : Int} {s : ByteArray} {n : Int} {l : List RT} {A : Option Addr} {m c : Nat}
    (hk : Kp r (w.alloc (.cells #[.int .i64 0, .int .i64 0, .string ⟨#[]⟩, .int .i64 0, .slice none 0 0] 36)) V) (hr : r < w.heap.size) (hrd : Rd V r g L cap s') (hm : m = l.length) (hn : IsNode V (w.heap.size + 1) V.heap.size (.node k a s n l) A c) :
    (V.cell? ⟨w.heap.size, 0, none⟩ = some (.int .i64 0) ∧ V.cell? ⟨w.heap.size, 1, none⟩ = some (.int .i64 0) ∧ V.cell? ⟨w.heap.size, 2, none⟩ = some (.string ⟨#[]⟩) ∧ V.cell? ⟨w.heap.size, 3, none⟩ = some (.int .i64 0) ∧ V.cell? ⟨w.heap.size, 4, none⟩ = some (.slice none 0 0)) ∧
    (∀ o, V.frozen? ⟨w.heap.size, o, none⟩ = false) ∧ w.heap.size < V.heap.size ∧
    Bk (five V w.heap.size (.int .i64 k) (.int .i64 a) (.string s) (.int .i64 n) (.slice A m c)) w.heap.size 36 #[.int .i64 k, .int .i64 a, .string s, .int .i64 n, .slice A m c] ∧
    (IsNode (five V w.heap.size (.int .i64 k) (.int .i64 a) (.string s) (.int .i64 n) (.slice A m c)) w.heap.size (five V w.heap.size (.int .i64 k) (.int .i64 a) (.string s) (.int .i64 n) (.slice A m c)).heap.size (.node k a s n l) A c ∧
     Rd (five V w.heap.size (.int .i64 k) (.int .i64 a) (.string s) (.int .i64 n) (.slice A m c)) r g L cap s' ∧ Kp r w (five V w.heap.size (.int .i64 k) (.int .i64 a) (.string s) (.int .i64 n) (.slice A m c))) := by
  have BX := (Bk.new w 36 #[.int .i64 0, .int .i64 0, .string ⟨#[]⟩, .int .i64 0, .slice none 0 0]).kp hk (by omega)
  refine ⟨⟨BX.cell 0, BX.cell 1, BX.cell 2, BX.cell 3, BX.cell 4⟩, fun o => BX.cold o, BX.lt, ?_, ?_, ?_, ?_⟩
  · have k5 := ((((BX.at_ 0 (.int .i64 k)).at_ 1 (.int .i64 a)).at_ 2 (.string s)).at_ 3 (.int .i64 n)).at_ 4 (.slice A m c)
    exact k5
  · have h5 := hn.five (g := w.heap.size) (by omega) (.int .i64 k) (.int .i64 a) (.string s) (.int .i64 n) (.slice A m c)
    exact h5.wide (by omega) (by unfold five; rw [size_five]; exact Nat.le_refl _)
  · exact hrd.under (((((Below.refl w.heap.size V).setCell (Nat.le_refl _) _).setCell (Nat.le_refl _) _).setCell (Nat.le_refl _) _).setCell (Nat.le_refl _) _ |>.setCell (Nat.le_refl _) _) hr
  · exact ((((((Kp.refl r w).alloc _).trans hk).setNew (Nat.le_refl _) _).setNew (Nat.le_refl _) _).setNew (Nat.le_refl _) _).setNew (Nat.le_refl _) _ |>.setNew (Nat.le_refl _) _

set_option maxHeartbeats 2000000 in
theorem atom_name {r g : Nat} {L : List Tk} {cap : Nat} {s : St} (hn : nmdB L s.k = true) : One 155 r g L cap s (.node 1 (tk L s.k).2.2 (tk L s.k).2.1 0 []) (stepS L s) := by
  intro w h
  have HR := Lib.hid h
  have hrl := h.bk.lt
  have HTX := Lib.hid (h.toks.txt s.k h.lt)
  have HT1 := Lib.hid (fun V (hV : Rd V r g L cap s) => named_tells hV)
  rw [hn] at HT1
  have HS := Lib.hid (fun V (hV : Rd V r g L cap s) => step_moves hV)
  obtain ⟨z, hz⟩ : ∃ z, s.k = z := ⟨_, rfl⟩
  rw [hz] at HS HTX ⊢
  obtain ⟨s2, hs2⟩ : ∃ x, stepS L s = x := ⟨_, rfl⟩
  rw [hs2] at HS ⊢
  unfold tkV at HS
  clear hz hs2 hn
  clear h
  go_enter Tryz.func155, Tryz.ntmps155
  go_wp2_with fail
  refine (HT1.out _ (HR.out.alloc _)).mono ?_; rintro e w' ⟨rfl, rfl⟩
  go_wp2_with fail
  refine (HS.out _ (HR.out.alloc _)).mono ?_; rintro e w1 ⟨rfl, hr, hk⟩
  have hs1 := hk.size
  simp at hs1
  have HR1 := Lib.hid hr
  have HK1 := Lib.hid ((Kp.refl r (w.alloc (.cells #[.int .i64 0, .int .i64 0, .string ⟨#[]⟩, .int .i64 0, .slice none 0 0] 36))).trans hk)
  clear hr hk
  obtain ⟨⟨d0, d1, d2, d3, d4⟩, hfz, hl9, hbf, hfin⟩ := node_box (k := 1) (a := ((tk L z).2.2 : Int)) (s := (tk L z).2.1) (n := 0) (l := ([] : List RT)) (A := none) (m := 0) (c := 0) HK1.out hrl HR1.out (by first | rfl | simp) (node_leaf _ _ _ _ HTX.out)
  skip
  have HFIN := Lib.hid hfin
  have hbg := (hbf.alloc (.cells #[.int .i64 (tk L z).1, .string (tk L z).2.1, .int .i64 (tk L z).2.2] 143))
  unfold five at hbg
  have HS0 := Lib.hid (hbg.cell 0)
  have HS1 := Lib.hid (hbg.cell 1)
  have HS2 := Lib.hid (hbg.cell 2)
  have HS3 := Lib.hid (hbg.cell 3)
  have HS4 := Lib.hid (hbg.cell 4)
  clear hbf hbg hfin
  go_wp2_with fail
  refine bodyPost_ret (v := .agg #[.int .i64 (1), .int .i64 (((tk L z).2.2 : Int)), .string ((tk L z).2.1), .int .i64 (0), .slice none 0 0]) (by simp [results, Tryz.results155, go_sem, HS0.out, HS1.out, HS2.out, HS3.out, HS4.out]) rfl ?_
  obtain ⟨z1, z2, z3⟩ := HFIN.out
  exact ⟨none, 0, by first | rfl | simp [nodeV, RT.k, RT.a, RT.s, RT.n, RT.l], (IsNode.allocw z1 (.cells #[.int .i64 (tk L z).1, .string (tk L z).2.1, .int .i64 (tk L z).2.2] 143)), (z2.alloc (.cells #[.int .i64 (tk L z).1, .string (tk L z).2.1, .int .i64 (tk L z).2.2] 143)), (z3.alloc (.cells #[.int .i64 (tk L z).1, .string (tk L z).2.1, .int .i64 (tk L z).2.2] 143))⟩

/-- The level that is read, and how. -/
def LevelR (L : List Tk) (s : St) (v : Nat) (s' : St) : Prop :=
  ∃ M B, IsNum (bytesL (tk L s.k).2.1) M B ∧ ((B = true ∧ M ≤ 7 ∧ M = v ∧ stepS L s = s') ∨ (¬ (B = true ∧ M ≤ 7) ∧ v = 0 ∧ s = s'))
theorem level_ex (L : List Tk) (s : St) : ∃ v s', LevelR L s v s' := by
  obtain ⟨M, B, h⟩ := isNum_ex (bytesL (tk L s.k).2.1)
  by_cases hb : B = true ∧ M ≤ 7
  · exact ⟨_, _, M, B, h, .inl ⟨hb.1, hb.2, rfl, rfl⟩⟩
  · exact ⟨_, _, M, B, h, .inr ⟨hb, rfl, rfl⟩⟩
set_option maxHeartbeats 2000000 in
theorem level_moves {w : World} {r g : Nat} {L : List Tk} {cap : Nat} {s s' : St} {v : Nat} (h : Rd w r g L cap s) (hv : LevelR L s v s') :
    Calls Tryz.prog 180 #[.pointer (some ⟨r, 0, none⟩)] w (Moves (.int .i64 v) r g L cap s' w) := by
  obtain ⟨M, B, hn, hc⟩ := hv
  have htx := h.toks.txt s.k h.lt
  unfold maxLen at htx
  have HNUM := Lib.hid (fun W => number_num (tk L s.k).2.1 M B W (by omega) hn)
  have HS := Lib.hid (fun V (hV : Rd V r g L cap s) => step_moves hV)
  have HR := Lib.hid h
  obtain ⟨m, c, h0, h1, h2, h3, hm, hcc⟩ := h.sz
  obtain ⟨c0, c1, c2, t0, t1, t2⟩ := h.cells hm hcc
  have hm0 : (0 : Int) < (m : Int) := by omega
  unfold maxLen at h3
  obtain ⟨tx, htxx⟩ : ∃ x, (tk L s.k).2.1 = x := ⟨_, rfl⟩
  obtain ⟨k3, hk3⟩ : ∃ x, s.k * 3 = x := ⟨_, rfl⟩
  rw [hk3] at c0 t0 t1 t2
  rw [htxx] at t1 HNUM
  clear hm hcc h htxx hk3 hn htx t0 t2
  unfold tkV at HS
  rcases hc with ⟨rfl, h7, rfl, rfl⟩ | ⟨h7, rfl, rfl⟩
  · have hd : decide ((7 : Int) < (M : Int)) = false := decide_eq_false (by omega)
    go_enter Tryz.func180, Tryz.ntmps180
    go_wp2_with fail
    refine (HNUM.out _).mono ?_; rintro e w1 ⟨rfl, hb1⟩
    have HR1 := Lib.hid (HR.out.below hb1)
    have HK1 := Lib.hid (Kp.of (r := r) hb1)
    clear hb1
    go_wp2_with fail
    refine (HS.out _ HR1.out).mono ?_; rintro e w2 ⟨rfl, hr, hk⟩
    have HR2 := Lib.hid hr
    have HK2 := Lib.hid (HK1.out.trans hk)
    clear hr hk
    go_wp2_with fail
    go_ret
    exact ⟨rfl, HR2.out, HK2.out⟩
  · cases B with
    | false =>
      go_enter Tryz.func180, Tryz.ntmps180
      go_wp2_with fail
      refine (HNUM.out _).mono ?_; rintro e w1 ⟨rfl, hb1⟩
      have HR1 := Lib.hid (HR.out.below hb1)
      have HK1 := Lib.hid (Kp.of (r := r) hb1)
      clear hb1
      go_wp2_with fail
      go_ret
      exact ⟨rfl, HR1.out, HK1.out⟩
    | true =>
      have hd : decide ((7 : Int) < (M : Int)) = true := decide_eq_true (by simp at h7; omega)
      go_enter Tryz.func180, Tryz.ntmps180
      go_wp2_with fail
      refine (HNUM.out _).mono ?_; rintro e w1 ⟨rfl, hb1⟩
      have HR1 := Lib.hid (HR.out.below hb1)
      have HK1 := Lib.hid (Kp.of (r := r) hb1)
      clear hb1
      go_wp2_with fail
      go_ret
      exact ⟨rfl, HR1.out, HK1.out⟩

set_option maxHeartbeats 2000000 in
theorem atom_set {r g : Nat} {L : List Tk} {cap : Nat} {s : St} {v : Nat} {s2 : St} (hn : nmdB L s.k = false) (hs : kyB L s.k ⟨#[83, 101, 116]⟩ = true) (hv : LevelR L (stepS L s) v s2) : One 155 r g L cap s (.node 2 (tk L s.k).2.2 ⟨#[]⟩ v []) (s2) := by
  intro w h
  have HR := Lib.hid h
  have hrl := h.bk.lt
  have HTX := Lib.hid (h.toks.txt s.k h.lt)
  have HT1 := Lib.hid (fun V (hV : Rd V r g L cap s) => named_tells hV)
  rw [hn] at HT1
  have HT2 := Lib.hid (fun V (hV : Rd V r g L cap s) => key_tells hV ⟨#[83, 101, 116]⟩)
  rw [hs] at HT2
  have HS := Lib.hid (fun V (hV : Rd V r g L cap s) => step_moves hV)
  unfold tkV at HS
  have HLV := Lib.hid (fun V (hV : Rd V r g L cap (stepS L s)) => level_moves hV hv)
  obtain ⟨s1, hs1⟩ : ∃ x, stepS L s = x := ⟨_, rfl⟩
  rw [hs1] at HS HLV
  obtain ⟨z, hz⟩ : ∃ z, s.k = z := ⟨_, rfl⟩
  rw [hz] at HS HTX ⊢
  clear hz hn hs hs1 hv
  clear h
  go_enter Tryz.func155, Tryz.ntmps155
  go_wp2_with fail
  refine (HT1.out _ (HR.out.alloc _)).mono ?_; rintro e w' ⟨rfl, rfl⟩
  go_wp2_with fail
  refine (HT2.out _ (HR.out.alloc _)).mono ?_; rintro e w' ⟨rfl, rfl⟩
  go_wp2_with fail
  refine (HS.out _ (HR.out.alloc _)).mono ?_; rintro e w1 ⟨rfl, hr, hk⟩
  have hs1 := hk.size
  simp at hs1
  have HR1 := Lib.hid hr
  have HK1 := Lib.hid ((Kp.refl r (w.alloc (.cells #[.int .i64 0, .int .i64 0, .string ⟨#[]⟩, .int .i64 0, .slice none 0 0] 36))).trans hk)
  clear hr hk
  go_wp2_with fail
  refine (HLV.out _ HR1.out).mono ?_; rintro e w2 ⟨rfl, hr, hk⟩
  have hs2 := hk.size
  try simp at hs2
  have HR2 := Lib.hid hr
  have HK2 := Lib.hid (HK1.out.trans hk)
  clear hr hk
  obtain ⟨⟨d0, d1, d2, d3, d4⟩, hfz, hl9, hbf, hfin⟩ := node_box (k := 2) (a := ((tk L z).2.2 : Int)) (s := ⟨#[]⟩) (n := (v : Int)) (l := ([] : List RT)) (A := none) (m := 0) (c := 0) HK2.out hrl HR2.out (by first | rfl | simp) (node_leaf _ _ _ _ (by decide))
  skip
  have HFIN := Lib.hid hfin
  have hbg := hbf
  unfold five at hbg
  have HS0 := Lib.hid (hbg.cell 0)
  have HS1 := Lib.hid (hbg.cell 1)
  have HS2 := Lib.hid (hbg.cell 2)
  have HS3 := Lib.hid (hbg.cell 3)
  have HS4 := Lib.hid (hbg.cell 4)
  clear hbf hbg hfin
  go_wp2_with fail
  refine bodyPost_ret (v := .agg #[.int .i64 (2), .int .i64 (((tk L z).2.2 : Int)), .string (⟨#[]⟩), .int .i64 ((v : Int)), .slice none 0 0]) (by simp [results, Tryz.results155, go_sem, HS0.out, HS1.out, HS2.out, HS3.out, HS4.out]) rfl ?_
  obtain ⟨z1, z2, z3⟩ := HFIN.out
  exact ⟨none, 0, by first | rfl | simp [nodeV, RT.k, RT.a, RT.s, RT.n, RT.l], z1, z2, z3⟩

set_option maxHeartbeats 2000000 in
theorem atom_bad {r g : Nat} {L : List Tk} {cap : Nat} {s : St} (hn : nmdB L s.k = false) (hs : kyB L s.k ⟨#[83, 101, 116]⟩ = false) (hp : mkB L s.k ⟨#[40]⟩ = false) : One 155 r g L cap s (.node 0 0 ⟨#[]⟩ 0 []) (badS L s) := by
  intro w h
  have HR := Lib.hid h
  have hrl := h.bk.lt
  have HTX := Lib.hid (h.toks.txt s.k h.lt)
  have HT1 := Lib.hid (fun V (hV : Rd V r g L cap s) => named_tells hV)
  rw [hn] at HT1
  have HT2 := Lib.hid (fun V (hV : Rd V r g L cap s) => key_tells hV ⟨#[83, 101, 116]⟩)
  rw [hs] at HT2
  have HT3 := Lib.hid (fun V (hV : Rd V r g L cap s) => mark_tells hV ⟨#[40]⟩)
  rw [hp] at HT3
  have HBD := Lib.hid (fun V (hV : Rd V r g L cap s) => bad_moves hV)
  obtain ⟨s1, hs1⟩ : ∃ x, badS L s = x := ⟨_, rfl⟩
  rw [hs1] at HBD ⊢
  clear hn hs hp hs1
  clear h
  go_enter Tryz.func155, Tryz.ntmps155
  go_wp2_with fail
  refine (HT1.out _ (HR.out.alloc _)).mono ?_; rintro e w' ⟨rfl, rfl⟩
  go_wp2_with fail
  refine (HT2.out _ (HR.out.alloc _)).mono ?_; rintro e w' ⟨rfl, rfl⟩
  go_wp2_with fail
  refine (HT3.out _ (HR.out.alloc _)).mono ?_; rintro e w' ⟨rfl, rfl⟩
  go_wp2_with fail
  refine (HBD.out _ (HR.out.alloc _)).mono ?_; rintro e w1 ⟨rfl, hr, hk⟩
  have hs1 := hk.size
  simp at hs1
  have HR1 := Lib.hid hr
  have HK1 := Lib.hid ((Kp.refl r (w.alloc (.cells #[.int .i64 0, .int .i64 0, .string ⟨#[]⟩, .int .i64 0, .slice none 0 0] 36))).trans hk)
  clear hr hk
  obtain ⟨⟨d0, d1, d2, d3, d4⟩, hfz, hl9, hbf, hfin⟩ := node_box (k := 0) (a := 0) (s := ⟨#[]⟩) (n := 0) (l := ([] : List RT)) (A := none) (m := 0) (c := 0) HK1.out hrl HR1.out (by first | rfl | simp) (node_leaf _ _ _ _ (by decide))
  skip
  have HFIN := Lib.hid hfin
  have hbg := hbf
  unfold five at hbg
  have HS0 := Lib.hid (hbg.cell 0)
  have HS1 := Lib.hid (hbg.cell 1)
  have HS2 := Lib.hid (hbg.cell 2)
  have HS3 := Lib.hid (hbg.cell 3)
  have HS4 := Lib.hid (hbg.cell 4)
  clear hbf hbg hfin
  go_wp2_with fail
  refine bodyPost_ret (v := .agg #[.int .i64 (0), .int .i64 (0), .string (⟨#[]⟩), .int .i64 (0), .slice none 0 0]) (by simp [results, Tryz.results155, go_sem, HS0.out, HS1.out, HS2.out, HS3.out, HS4.out]) rfl ?_
  obtain ⟨z1, z2, z3⟩ := HFIN.out
  exact ⟨none, 0, by first | rfl | simp [nodeV, RT.k, RT.a, RT.s, RT.n, RT.l], z1, z2, z3⟩

end Go.Proofs.YteaojmcfppbgiaaGreatDoor

/- parse: an atom in parentheses. -/
namespace Go.Proofs.YteaojmcfppbgiaaGreatDoor
open Go.RowKit
set_option linter.unusedVariables false
set_option maxRecDepth 100000

set_option maxHeartbeats 2000000 in
theorem atom_par {r g : Nat} {L : List Tk} {cap : Nat} {s : St} {t : RT} {s2 : St} (hn : nmdB L s.k = false) (hs : kyB L s.k ⟨#[83, 101, 116]⟩ = false) (hp : mkB L s.k ⟨#[40]⟩ = true) (he : One 77 r g L cap (stepS L s) t s2) : One 155 r g L cap s (t) (takeS L ⟨#[41]⟩ s2) := by
  intro w h
  have HR := Lib.hid h
  have hrl := h.bk.lt
  have HTX := Lib.hid (h.toks.txt s.k h.lt)
  have HT1 := Lib.hid (fun V (hV : Rd V r g L cap s) => named_tells hV)
  rw [hn] at HT1
  have HT2 := Lib.hid (fun V (hV : Rd V r g L cap s) => key_tells hV ⟨#[83, 101, 116]⟩)
  rw [hs] at HT2
  have HT3 := Lib.hid (fun V (hV : Rd V r g L cap s) => mark_tells hV ⟨#[40]⟩)
  rw [hp] at HT3
  have HS := Lib.hid (fun V (hV : Rd V r g L cap s) => step_moves hV)
  unfold tkV at HS
  have HE := Lib.hid he
  unfold One TreeR nodeV at HE
  have HTK := Lib.hid (fun V (hV : Rd V r g L cap s2) => take_moves hV ⟨#[41]⟩)
  obtain ⟨s1, hs1⟩ : ∃ x, stepS L s = x := ⟨_, rfl⟩
  rw [hs1] at HS HE
  obtain ⟨s3, hs3⟩ : ∃ x, takeS L ⟨#[41]⟩ s2 = x := ⟨_, rfl⟩
  rw [hs3] at HTK ⊢
  clear hn hs hp hs1 hs3 he
  clear h
  go_enter Tryz.func155, Tryz.ntmps155
  go_wp2_with fail
  refine (HT1.out _ (HR.out.alloc _)).mono ?_; rintro e w' ⟨rfl, rfl⟩
  go_wp2_with fail
  refine (HT2.out _ (HR.out.alloc _)).mono ?_; rintro e w' ⟨rfl, rfl⟩
  go_wp2_with fail
  refine (HT3.out _ (HR.out.alloc _)).mono ?_; rintro e w' ⟨rfl, rfl⟩
  go_wp2_with fail
  refine (HS.out _ (HR.out.alloc _)).mono ?_; rintro e w1 ⟨rfl, hr, hk⟩
  have hs1 := hk.size
  simp at hs1
  have HR1 := Lib.hid hr
  have HK1 := Lib.hid ((Kp.refl r (w.alloc (.cells #[.int .i64 0, .int .i64 0, .string ⟨#[]⟩, .int .i64 0, .slice none 0 0] 36))).trans hk)
  clear hr hk
  go_wp2_with fail
  refine (HE.out _ HR1.out).mono ?_; rintro e w2 ⟨A2, c2, rfl, hn, hr, hk⟩
  have hs2 := hk.size
  try simp at hs2
  have HN2 : Hid (IsNode w2 (w.heap.size + 1) w2.heap.size t A2 c2) := Lib.hid (hn.wide (by first | omega | (simp; omega)) (Nat.le_refl _))
  have HR2 := Lib.hid hr
  have HK2 := Lib.hid (HK1.out.trans hk)
  clear hn hr hk
  go_wp2_with fail
  have HN2_b := Lib.hid (IsNode.allocw HN2.out (.cells #[.int .i64 t.k, .int .i64 t.a, .string t.s, .int .i64 t.n, .slice A2 t.l.length c2] 36))
  clear HN2
  have HN2 := HN2_b
  clear HN2_b
  have BX2 : Hid (Bk (w2.alloc (.cells #[.int .i64 t.k, .int .i64 t.a, .string t.s, .int .i64 t.n, .slice A2 t.l.length c2] 36)) w2.heap.size 36 #[.int .i64 t.k, .int .i64 t.a, .string t.s, .int .i64 t.n, .slice A2 t.l.length c2]) := Lib.hid (Bk.new w2 36 #[.int .i64 t.k, .int .i64 t.a, .string t.s, .int .i64 t.n, .slice A2 t.l.length c2])
  refine (HTK.out _ (HR2.out.alloc (.cells #[.int .i64 t.k, .int .i64 t.a, .string t.s, .int .i64 t.n, .slice A2 t.l.length c2] 36))).mono ?_; rintro e w3 ⟨rfl, hr, hk⟩
  have hs3 := hk.size
  try simp at hs3
  have HN2_3 := Lib.hid (IsNode.kpw HN2.out hk (by omega))
  clear HN2
  have HN2 := HN2_3
  clear HN2_3
  have BX2_3 := Lib.hid (BX2.out.kp hk (by simp; try omega))
  clear BX2
  have BX2 := BX2_3
  clear BX2_3
  have HR3 := Lib.hid hr
  have HK3 := Lib.hid ((HK2.out.alloc (.cells #[.int .i64 t.k, .int .i64 t.a, .string t.s, .int .i64 t.n, .slice A2 t.l.length c2] 36)).trans hk)
  clear hr hk
  obtain ⟨BX2c0, BX2c1, BX2c2, BX2c3, BX2c4⟩ := BX2.out.c5
  have BX2l := BX2.out.lt
  obtain ⟨⟨d0, d1, d2, d3, d4⟩, hfz, hl9, hbf, hfin⟩ := node_box (k := t.k) (a := t.a) (s := t.s) (n := t.n) (l := t.l) (A := A2) (m := t.l.length) (c := c2) HK3.out hrl HR3.out (by first | rfl | simp) (by rw [← RT.eta t]; exact HN2.out)
  rw [← RT.eta t] at hfin
  have HFIN := Lib.hid hfin
  have hbg := hbf
  unfold five at hbg
  have HS0 := Lib.hid (hbg.cell 0)
  have HS1 := Lib.hid (hbg.cell 1)
  have HS2 := Lib.hid (hbg.cell 2)
  have HS3 := Lib.hid (hbg.cell 3)
  have HS4 := Lib.hid (hbg.cell 4)
  clear hbf hbg hfin
  go_wp2_with fail
  refine bodyPost_ret (v := .agg #[.int .i64 (t.k), .int .i64 (t.a), .string (t.s), .int .i64 (t.n), .slice A2 t.l.length c2]) (by simp [results, Tryz.results155, go_sem, HS0.out, HS1.out, HS2.out, HS3.out, HS4.out]) rfl ?_
  obtain ⟨z1, z2, z3⟩ := HFIN.out
  exact ⟨A2, c2, by first | rfl | simp [nodeV, RT.k, RT.a, RT.s, RT.n, RT.l], z1, z2, z3⟩

end Go.Proofs.YteaojmcfppbgiaaGreatDoor

/- parse: a pattern that is a name, _, one in parentheses, none; what stands in parentheses. -/
namespace Go.Proofs.YteaojmcfppbgiaaGreatDoor
open Go.RowKit
set_option linter.unusedVariables false
set_option maxRecDepth 100000

set_option maxHeartbeats 2000000 in
theorem pat_name {r g : Nat} {L : List Tk} {cap : Nat} {s : St} (hn : nmdB L s.k = true) : One 120 r g L cap s (.node 6 (tk L s.k).2.2 (tk L s.k).2.1 0 []) (stepS L s) := by
  intro w h
  have HR := Lib.hid h
  have hrl := h.bk.lt
  have HTX := Lib.hid (h.toks.txt s.k h.lt)
  have HT1 := Lib.hid (fun V (hV : Rd V r g L cap s) => named_tells hV)
  rw [hn] at HT1
  have HS := Lib.hid (fun V (hV : Rd V r g L cap s) => step_moves hV)
  unfold tkV at HS
  obtain ⟨z, hz⟩ : ∃ z, s.k = z := ⟨_, rfl⟩
  rw [hz] at HS HTX ⊢
  obtain ⟨s2, hs2⟩ : ∃ x, stepS L s = x := ⟨_, rfl⟩
  rw [hs2] at HS ⊢
  clear hz hs2 hn
  clear h
  go_enter Tryz.func120, Tryz.ntmps120
  go_wp2_with fail
  refine (HT1.out _ (HR.out.alloc _)).mono ?_; rintro e w' ⟨rfl, rfl⟩
  go_wp2_with fail
  refine (HS.out _ (HR.out.alloc _)).mono ?_; rintro e w1 ⟨rfl, hr, hk⟩
  have hs1 := hk.size
  simp at hs1
  have HR1 := Lib.hid hr
  have HK1 := Lib.hid ((Kp.refl r (w.alloc (.cells #[.int .i64 0, .int .i64 0, .string ⟨#[]⟩, .int .i64 0, .slice none 0 0] 36))).trans hk)
  clear hr hk
  obtain ⟨⟨d0, d1, d2, d3, d4⟩, hfz, hl9, hbf, hfin⟩ := node_box (k := 6) (a := ((tk L z).2.2 : Int)) (s := (tk L z).2.1) (n := 0) (l := ([] : List RT)) (A := none) (m := 0) (c := 0) HK1.out hrl HR1.out (by first | rfl | simp) (node_leaf _ _ _ _ HTX.out)
  skip
  have HFIN := Lib.hid hfin
  have hbg := (hbf.alloc (.cells #[.int .i64 (tk L z).1, .string (tk L z).2.1, .int .i64 (tk L z).2.2] 143))
  unfold five at hbg
  have HS0 := Lib.hid (hbg.cell 0)
  have HS1 := Lib.hid (hbg.cell 1)
  have HS2 := Lib.hid (hbg.cell 2)
  have HS3 := Lib.hid (hbg.cell 3)
  have HS4 := Lib.hid (hbg.cell 4)
  clear hbf hbg hfin
  go_wp2_with fail
  refine bodyPost_ret (v := .agg #[.int .i64 (6), .int .i64 (((tk L z).2.2 : Int)), .string ((tk L z).2.1), .int .i64 (0), .slice none 0 0]) (by simp [results, Tryz.results120, go_sem, HS0.out, HS1.out, HS2.out, HS3.out, HS4.out]) rfl ?_
  obtain ⟨z1, z2, z3⟩ := HFIN.out
  exact ⟨none, 0, by first | rfl | simp [nodeV, RT.k, RT.a, RT.s, RT.n, RT.l], (IsNode.allocw z1 (.cells #[.int .i64 (tk L z).1, .string (tk L z).2.1, .int .i64 (tk L z).2.2] 143)), (z2.alloc (.cells #[.int .i64 (tk L z).1, .string (tk L z).2.1, .int .i64 (tk L z).2.2] 143)), (z3.alloc (.cells #[.int .i64 (tk L z).1, .string (tk L z).2.1, .int .i64 (tk L z).2.2] 143))⟩

set_option maxHeartbeats 2000000 in
theorem pat_any {r g : Nat} {L : List Tk} {cap : Nat} {s : St} (hn : nmdB L s.k = false) (hl : loB L s.k = true) : One 120 r g L cap s (.node 7 (tk L s.k).2.2 ⟨#[]⟩ 0 []) (stepS L s) := by
  intro w h
  have HR := Lib.hid h
  have hrl := h.bk.lt
  have HTX := Lib.hid (h.toks.txt s.k h.lt)
  have HT1 := Lib.hid (fun V (hV : Rd V r g L cap s) => named_tells hV)
  rw [hn] at HT1
  have HT2 := Lib.hid (fun V (hV : Rd V r g L cap s) => low_tells hV)
  rw [hl] at HT2
  have HS := Lib.hid (fun V (hV : Rd V r g L cap s) => step_moves hV)
  unfold tkV at HS
  obtain ⟨z, hz⟩ : ∃ z, s.k = z := ⟨_, rfl⟩
  rw [hz] at HS HTX ⊢
  obtain ⟨s2, hs2⟩ : ∃ x, stepS L s = x := ⟨_, rfl⟩
  rw [hs2] at HS ⊢
  clear hz hs2 hn hl
  clear h
  go_enter Tryz.func120, Tryz.ntmps120
  go_wp2_with fail
  refine (HT1.out _ (HR.out.alloc _)).mono ?_; rintro e w' ⟨rfl, rfl⟩
  go_wp2_with fail
  refine (HT2.out _ (HR.out.alloc _)).mono ?_; rintro e w' ⟨rfl, rfl⟩
  go_wp2_with fail
  refine (HS.out _ (HR.out.alloc _)).mono ?_; rintro e w1 ⟨rfl, hr, hk⟩
  have hs1 := hk.size
  simp at hs1
  have HR1 := Lib.hid hr
  have HK1 := Lib.hid ((Kp.refl r (w.alloc (.cells #[.int .i64 0, .int .i64 0, .string ⟨#[]⟩, .int .i64 0, .slice none 0 0] 36))).trans hk)
  clear hr hk
  obtain ⟨⟨d0, d1, d2, d3, d4⟩, hfz, hl9, hbf, hfin⟩ := node_box (k := 7) (a := ((tk L z).2.2 : Int)) (s := ⟨#[]⟩) (n := 0) (l := ([] : List RT)) (A := none) (m := 0) (c := 0) HK1.out hrl HR1.out (by first | rfl | simp) (node_leaf _ _ _ _ (by decide))
  skip
  have HFIN := Lib.hid hfin
  have hbg := hbf
  unfold five at hbg
  have HS0 := Lib.hid (hbg.cell 0)
  have HS1 := Lib.hid (hbg.cell 1)
  have HS2 := Lib.hid (hbg.cell 2)
  have HS3 := Lib.hid (hbg.cell 3)
  have HS4 := Lib.hid (hbg.cell 4)
  clear hbf hbg hfin
  go_wp2_with fail
  refine bodyPost_ret (v := .agg #[.int .i64 (7), .int .i64 (((tk L z).2.2 : Int)), .string (⟨#[]⟩), .int .i64 (0), .slice none 0 0]) (by simp [results, Tryz.results120, go_sem, HS0.out, HS1.out, HS2.out, HS3.out, HS4.out]) rfl ?_
  obtain ⟨z1, z2, z3⟩ := HFIN.out
  exact ⟨none, 0, by first | rfl | simp [nodeV, RT.k, RT.a, RT.s, RT.n, RT.l], z1, z2, z3⟩

set_option maxHeartbeats 2000000 in
theorem pat_par {r g : Nat} {L : List Tk} {cap : Nat} {s : St} {t : RT} {s2 : St} (hn : nmdB L s.k = false) (hl : loB L s.k = false) (hd : mkB L s.k ⟨#[46]⟩ = false) (hp : mkB L s.k ⟨#[40]⟩ = true) (he : One 158 r g L cap s t s2) : One 120 r g L cap s (t) (s2) := by
  intro w h
  have HR := Lib.hid h
  have hrl := h.bk.lt
  have HTX := Lib.hid (h.toks.txt s.k h.lt)
  have HT1 := Lib.hid (fun V (hV : Rd V r g L cap s) => named_tells hV)
  rw [hn] at HT1
  have HT2 := Lib.hid (fun V (hV : Rd V r g L cap s) => low_tells hV)
  rw [hl] at HT2
  have HT3 := Lib.hid (fun V (hV : Rd V r g L cap s) => mark_tells hV ⟨#[46]⟩)
  rw [hd] at HT3
  have HT4 := Lib.hid (fun V (hV : Rd V r g L cap s) => mark_tells hV ⟨#[40]⟩)
  rw [hp] at HT4
  have HE := Lib.hid he
  unfold One TreeR nodeV at HE
  clear hn hl hd hp he
  clear h
  go_enter Tryz.func120, Tryz.ntmps120
  go_wp2_with fail
  refine (HT1.out _ (HR.out.alloc _)).mono ?_; rintro e w' ⟨rfl, rfl⟩
  go_wp2_with fail
  refine (HT2.out _ (HR.out.alloc _)).mono ?_; rintro e w' ⟨rfl, rfl⟩
  go_wp2_with fail
  refine (HT3.out _ (HR.out.alloc _)).mono ?_; rintro e w' ⟨rfl, rfl⟩
  go_wp2_with fail
  refine (HT4.out _ (HR.out.alloc _)).mono ?_; rintro e w' ⟨rfl, rfl⟩
  go_wp2_with fail
  refine (HE.out _ (HR.out.alloc _)).mono ?_; rintro e w1 ⟨A1, c1, rfl, hn, hr, hk⟩
  have hs1 := hk.size
  simp at hs1
  have HN1 : Hid (IsNode w1 (w.heap.size + 1) w1.heap.size t A1 c1) := Lib.hid (hn.wide (by first | omega | (simp; done) | (simp; omega)) (Nat.le_refl _))
  have HR1 := Lib.hid hr
  have HK1 := Lib.hid ((Kp.refl r (w.alloc (.cells #[.int .i64 0, .int .i64 0, .string ⟨#[]⟩, .int .i64 0, .slice none 0 0] 36))).trans hk)
  clear hn hr hk
  obtain ⟨⟨d0, d1, d2, d3, d4⟩, hfz, hl9, hbf, hfin⟩ := node_box (k := t.k) (a := t.a) (s := t.s) (n := t.n) (l := t.l) (A := A1) (m := t.l.length) (c := c1) HK1.out hrl HR1.out (by first | rfl | simp) (by rw [← RT.eta t]; exact HN1.out)
  rw [← RT.eta t] at hfin
  have HFIN := Lib.hid hfin
  have hbg := hbf
  unfold five at hbg
  have HS0 := Lib.hid (hbg.cell 0)
  have HS1 := Lib.hid (hbg.cell 1)
  have HS2 := Lib.hid (hbg.cell 2)
  have HS3 := Lib.hid (hbg.cell 3)
  have HS4 := Lib.hid (hbg.cell 4)
  clear hbf hbg hfin
  go_wp2_with fail
  refine bodyPost_ret (v := .agg #[.int .i64 (t.k), .int .i64 (t.a), .string (t.s), .int .i64 (t.n), .slice A1 t.l.length c1]) (by simp [results, Tryz.results120, go_sem, HS0.out, HS1.out, HS2.out, HS3.out, HS4.out]) rfl ?_
  obtain ⟨z1, z2, z3⟩ := HFIN.out
  exact ⟨A1, c1, by first | rfl | simp [nodeV, RT.k, RT.a, RT.s, RT.n, RT.l], z1, z2, z3⟩

set_option maxHeartbeats 2000000 in
theorem pat_bad {r g : Nat} {L : List Tk} {cap : Nat} {s : St} (hn : nmdB L s.k = false) (hl : loB L s.k = false) (hd : mkB L s.k ⟨#[46]⟩ = false) (hp : mkB L s.k ⟨#[40]⟩ = false) : One 120 r g L cap s (.node 0 0 ⟨#[]⟩ 0 []) (badS L s) := by
  intro w h
  have HR := Lib.hid h
  have hrl := h.bk.lt
  have HTX := Lib.hid (h.toks.txt s.k h.lt)
  have HT1 := Lib.hid (fun V (hV : Rd V r g L cap s) => named_tells hV)
  rw [hn] at HT1
  have HT2 := Lib.hid (fun V (hV : Rd V r g L cap s) => low_tells hV)
  rw [hl] at HT2
  have HT3 := Lib.hid (fun V (hV : Rd V r g L cap s) => mark_tells hV ⟨#[46]⟩)
  rw [hd] at HT3
  have HT4 := Lib.hid (fun V (hV : Rd V r g L cap s) => mark_tells hV ⟨#[40]⟩)
  rw [hp] at HT4
  have HBD := Lib.hid (fun V (hV : Rd V r g L cap s) => bad_moves hV)
  obtain ⟨s1, hs1⟩ : ∃ x, badS L s = x := ⟨_, rfl⟩
  rw [hs1] at HBD ⊢
  clear hn hl hd hp hs1
  clear h
  go_enter Tryz.func120, Tryz.ntmps120
  go_wp2_with fail
  refine (HT1.out _ (HR.out.alloc _)).mono ?_; rintro e w' ⟨rfl, rfl⟩
  go_wp2_with fail
  refine (HT2.out _ (HR.out.alloc _)).mono ?_; rintro e w' ⟨rfl, rfl⟩
  go_wp2_with fail
  refine (HT3.out _ (HR.out.alloc _)).mono ?_; rintro e w' ⟨rfl, rfl⟩
  go_wp2_with fail
  refine (HT4.out _ (HR.out.alloc _)).mono ?_; rintro e w' ⟨rfl, rfl⟩
  go_wp2_with fail
  refine (HBD.out _ (HR.out.alloc _)).mono ?_; rintro e w1 ⟨rfl, hr, hk⟩
  have hs1 := hk.size
  simp at hs1
  have HR1 := Lib.hid hr
  have HK1 := Lib.hid ((Kp.refl r (w.alloc (.cells #[.int .i64 0, .int .i64 0, .string ⟨#[]⟩, .int .i64 0, .slice none 0 0] 36))).trans hk)
  clear hr hk
  obtain ⟨⟨d0, d1, d2, d3, d4⟩, hfz, hl9, hbf, hfin⟩ := node_box (k := 0) (a := 0) (s := ⟨#[]⟩) (n := 0) (l := ([] : List RT)) (A := none) (m := 0) (c := 0) HK1.out hrl HR1.out (by first | rfl | simp) (node_leaf _ _ _ _ (by decide))
  skip
  have HFIN := Lib.hid hfin
  have hbg := hbf
  unfold five at hbg
  have HS0 := Lib.hid (hbg.cell 0)
  have HS1 := Lib.hid (hbg.cell 1)
  have HS2 := Lib.hid (hbg.cell 2)
  have HS3 := Lib.hid (hbg.cell 3)
  have HS4 := Lib.hid (hbg.cell 4)
  clear hbf hbg hfin
  go_wp2_with fail
  refine bodyPost_ret (v := .agg #[.int .i64 (0), .int .i64 (0), .string (⟨#[]⟩), .int .i64 (0), .slice none 0 0]) (by simp [results, Tryz.results120, go_sem, HS0.out, HS1.out, HS2.out, HS3.out, HS4.out]) rfl ?_
  obtain ⟨z1, z2, z3⟩ := HFIN.out
  exact ⟨none, 0, by first | rfl | simp [nodeV, RT.k, RT.a, RT.s, RT.n, RT.l], z1, z2, z3⟩

end Go.Proofs.YteaojmcfppbgiaaGreatDoor

/- parse: what stands in parentheses, as a pattern. -/
namespace Go.Proofs.YteaojmcfppbgiaaGreatDoor
open Go.RowKit
set_option linter.unusedVariables false
set_option maxRecDepth 100000

/-- A node stored into a box of five cells. -/
theorem node_put {w2 : World} {r g b lo : Nat} {L : List Tk} {cap : Nat} {s : St} {t : RT} {A : Option Addr} {c : Nat} {a0 a1 a2 a3 a4 : Value} (hb : Bk w2 b 36 #[a0, a1, a2, a3, a4]) (hrd : Rd w2 r g L cap s) (hr : r < b) (hn : IsNode w2 lo w2.heap.size t A c) (hlo : b < lo) :
    Rd (five w2 b (.int .i64 t.k) (.int .i64 t.a) (.string t.s) (.int .i64 t.n) (.slice A t.l.length c)) r g L cap s ∧ Below b w2 (five w2 b (.int .i64 t.k) (.int .i64 t.a) (.string t.s) (.int .i64 t.n) (.slice A t.l.length c)) ∧
    Bk (five w2 b (.int .i64 t.k) (.int .i64 t.a) (.string t.s) (.int .i64 t.n) (.slice A t.l.length c)) b 36 #[.int .i64 t.k, .int .i64 t.a, .string t.s, .int .i64 t.n, .slice A t.l.length c] ∧ IsNode (five w2 b (.int .i64 t.k) (.int .i64 t.a) (.string t.s) (.int .i64 t.n) (.slice A t.l.length c)) lo (five w2 b (.int .i64 t.k) (.int .i64 t.a) (.string t.s) (.int .i64 t.n) (.slice A t.l.length c)).heap.size t A c := by
  have hbl : Below b w2 (five w2 b (.int .i64 t.k) (.int .i64 t.a) (.string t.s) (.int .i64 t.n) (.slice A t.l.length c)) := (((((Below.refl b w2).setCell (Nat.le_refl _) _).setCell (Nat.le_refl _) _).setCell (Nat.le_refl _) _).setCell (Nat.le_refl _) _).setCell (Nat.le_refl _) _
  refine ⟨hrd.under hbl hr, hbl, ((((hb.at_ 0 _).at_ 1 _).at_ 2 _).at_ 3 _).at_ 4 _, ?_⟩
  exact (hn.five (g := b) hlo _ _ _ _ _).wide (Nat.le_refl _) (by unfold five; rw [size_five]; exact Nat.le_refl _)
/-- What applied does. -/
def App1 (a : Int) (r g : Nat) (L : List Tk) (cap : Nat) (s : St) (t : RT) (s' : St) : Prop :=
  ∀ w, Rd w r g L cap s → Calls Tryz.prog 181 #[.pointer (some ⟨r, 0, none⟩), .int .i64 a] w (TreeR t r g L cap s' w)

set_option maxHeartbeats 2000000 in
theorem enc_name {r g : Nat} {L : List Tk} {cap : Nat} {s : St} {t : RT} {s2 : St} (hn : nmdB L (stepS L s).k = true) (he : App1 (tk L s.k).2.2 r g L cap (stepS L s) t s2) : One 158 r g L cap s (t) (takeS L ⟨#[41]⟩ s2) := by
  intro w h
  have HR := Lib.hid h
  have hrl := h.bk.lt
  have HTX := Lib.hid (h.toks.txt s.k h.lt)
  have HS := Lib.hid (fun V (hV : Rd V r g L cap s) => step_moves hV)
  unfold tkV at HS
  have HT1 := Lib.hid (fun V (hV : Rd V r g L cap (stepS L s)) => named_tells hV)
  rw [hn] at HT1
  have HE := Lib.hid he
  unfold App1 TreeR nodeV at HE
  have HTK := Lib.hid (fun V (hV : Rd V r g L cap s2) => take_moves hV ⟨#[41]⟩)
  obtain ⟨s3, hs3⟩ : ∃ x, takeS L ⟨#[41]⟩ s2 = x := ⟨_, rfl⟩
  rw [hs3] at HTK ⊢
  obtain ⟨s1, hs1⟩ : ∃ x, stepS L s = x := ⟨_, rfl⟩
  obtain ⟨z, hz⟩ : ∃ z, s.k = z := ⟨_, rfl⟩
  rw [hs1] at HS HT1 HE
  rw [hz] at HS HE
  clear hn he hs1 hz hs3
  clear h
  go_enter Tryz.func158, Tryz.ntmps158
  go_wp2_with fail
  refine (HS.out _ (HR.out.alloc _)).mono ?_; rintro e w1 ⟨rfl, hr, hk⟩
  have hs1 := hk.size
  simp at hs1
  have HR1 := Lib.hid hr
  have HK1 := Lib.hid ((Kp.refl r (w.alloc (.cells #[.int .i64 0, .int .i64 0, .string ⟨#[]⟩, .int .i64 0, .slice none 0 0] 36))).trans hk)
  clear hr hk
  go_wp2_with fail
  have BX1 : Hid (Bk (w1.alloc (.cells #[.int .i64 9, .int .i64 ((tk L z).2.2 : Int), .string ⟨#[]⟩, .int .i64 0, .slice none 0 0] 36)) w1.heap.size 36 #[.int .i64 9, .int .i64 ((tk L z).2.2 : Int), .string ⟨#[]⟩, .int .i64 0, .slice none 0 0]) := Lib.hid (Bk.new w1 36 #[.int .i64 9, .int .i64 ((tk L z).2.2 : Int), .string ⟨#[]⟩, .int .i64 0, .slice none 0 0])
  refine (HT1.out _ (HR1.out.alloc (.cells #[.int .i64 9, .int .i64 ((tk L z).2.2 : Int), .string ⟨#[]⟩, .int .i64 0, .slice none 0 0] 36))).mono ?_; rintro e w' ⟨rfl, rfl⟩
  obtain ⟨BX1c0, BX1c1, BX1c2, BX1c3, BX1c4⟩ := BX1.out.c5
  have BX1l := BX1.out.lt
  go_wp2_with fail
  clear BX1c0 BX1c1 BX1c2 BX1c3 BX1c4 BX1l
  refine (HE.out _ (HR1.out.alloc (.cells #[.int .i64 9, .int .i64 ((tk L z).2.2 : Int), .string ⟨#[]⟩, .int .i64 0, .slice none 0 0] 36))).mono ?_; rintro e w2 ⟨A2, c2, rfl, hn, hr, hk⟩
  have hs2 := hk.size
  try simp at hs2
  have BX1_2 := Lib.hid (BX1.out.kp hk (by simp; try omega))
  clear BX1
  have BX1 := BX1_2
  clear BX1_2
  have HN2 : Hid (IsNode w2 (w.heap.size + 1) w2.heap.size t A2 c2) := Lib.hid (hn.wide (by first | omega | (simp; done) | (simp; omega)) (Nat.le_refl _))
  have HNR2 := Lib.hid hn
  have HR2 := Lib.hid hr
  have HK2 := Lib.hid ((HK1.out.alloc (.cells #[.int .i64 9, .int .i64 ((tk L z).2.2 : Int), .string ⟨#[]⟩, .int .i64 0, .slice none 0 0] 36)).trans hk)
  clear hn hr hk
  obtain ⟨BX1c0, BX1c1, BX1c2, BX1c3, BX1c4⟩ := BX1.out.c5
  have BX1l := BX1.out.lt
  have hzz3 : ∀ o, w2.frozen? ⟨w1.heap.size, o, none⟩ = false := fun o => BX1.out.cold o
  obtain ⟨hp1, hp2, hp3, hp4⟩ := node_put BX1.out HR2.out (by omega) HNR2.out (by simp)
  obtain ⟨w3, hw3⟩ : ∃ W, (((((w2.setCell ⟨w1.heap.size, 0, none⟩ (.int .i64 t.k)).setCell ⟨w1.heap.size, 1, none⟩ (.int .i64 t.a)).setCell ⟨w1.heap.size, 2, none⟩ (.string t.s)).setCell ⟨w1.heap.size, 3, none⟩ (.int .i64 t.n)).setCell ⟨w1.heap.size, 4, none⟩ (.slice A2 t.l.length c2)) = W := ⟨_, rfl⟩
  have hsz3 : w3.heap.size = w2.heap.size := by rw [← hw3]; simp [World.setCell]
  change Rd (((((w2.setCell ⟨w1.heap.size, 0, none⟩ (.int .i64 t.k)).setCell ⟨w1.heap.size, 1, none⟩ (.int .i64 t.a)).setCell ⟨w1.heap.size, 2, none⟩ (.string t.s)).setCell ⟨w1.heap.size, 3, none⟩ (.int .i64 t.n)).setCell ⟨w1.heap.size, 4, none⟩ (.slice A2 t.l.length c2)) _ _ _ _ _ at hp1
  change Below _ _ (((((w2.setCell ⟨w1.heap.size, 0, none⟩ (.int .i64 t.k)).setCell ⟨w1.heap.size, 1, none⟩ (.int .i64 t.a)).setCell ⟨w1.heap.size, 2, none⟩ (.string t.s)).setCell ⟨w1.heap.size, 3, none⟩ (.int .i64 t.n)).setCell ⟨w1.heap.size, 4, none⟩ (.slice A2 t.l.length c2)) at hp2
  change Bk (((((w2.setCell ⟨w1.heap.size, 0, none⟩ (.int .i64 t.k)).setCell ⟨w1.heap.size, 1, none⟩ (.int .i64 t.a)).setCell ⟨w1.heap.size, 2, none⟩ (.string t.s)).setCell ⟨w1.heap.size, 3, none⟩ (.int .i64 t.n)).setCell ⟨w1.heap.size, 4, none⟩ (.slice A2 t.l.length c2)) _ _ _ at hp3
  change IsNode (((((w2.setCell ⟨w1.heap.size, 0, none⟩ (.int .i64 t.k)).setCell ⟨w1.heap.size, 1, none⟩ (.int .i64 t.a)).setCell ⟨w1.heap.size, 2, none⟩ (.string t.s)).setCell ⟨w1.heap.size, 3, none⟩ (.int .i64 t.n)).setCell ⟨w1.heap.size, 4, none⟩ (.slice A2 t.l.length c2)) _ (((((w2.setCell ⟨w1.heap.size, 0, none⟩ (.int .i64 t.k)).setCell ⟨w1.heap.size, 1, none⟩ (.int .i64 t.a)).setCell ⟨w1.heap.size, 2, none⟩ (.string t.s)).setCell ⟨w1.heap.size, 3, none⟩ (.int .i64 t.n)).setCell ⟨w1.heap.size, 4, none⟩ (.slice A2 t.l.length c2)).heap.size _ _ _ at hp4
  rw [hw3] at hp1 hp2 hp3 hp4
  have HR3 := Lib.hid hp1
  have HK3 := Lib.hid (HK2.out.next (hp2.mono (by simp; try omega)))
  have HN2p : Hid (IsNode w3 (w.heap.size + 1) w3.heap.size t A2 c2) := Lib.hid (hp4.wide (by first | omega | (simp; omega)) (Nat.le_refl _))
  have BX1p := Lib.hid hp3
  have HW3 := Lib.hid hw3
  clear BX1 HN2 hw3 hp1 hp2 hp3 hp4
  have BX1 := BX1p
  have HN2 := HN2p
  clear BX1p HN2p
  go_wp2_with fail
  rw [HW3.out]
  clear HW3 hzz3 BX1c0 BX1c1 BX1c2 BX1c3 BX1c4
  refine (HTK.out _ HR3.out).mono ?_; rintro e w4 ⟨rfl, hr, hk⟩
  have hs4 := hk.size
  try simp at hs4
  have HN2_4 := Lib.hid (IsNode.kpw HN2.out hk (by omega))
  clear HN2
  have HN2 := HN2_4
  clear HN2_4
  have BX1_4 := Lib.hid (BX1.out.kp hk (by simp; try omega))
  clear BX1
  have BX1 := BX1_4
  clear BX1_4
  have HR4 := Lib.hid hr
  have HK4 := Lib.hid (HK3.out.trans hk)
  clear hr hk
  obtain ⟨BX1c0, BX1c1, BX1c2, BX1c3, BX1c4⟩ := BX1.out.c5
  have BX1l := BX1.out.lt
  obtain ⟨⟨d0, d1, d2, d3, d4⟩, hfz, hl9, hbf, hfin⟩ := node_box (k := t.k) (a := t.a) (s := t.s) (n := t.n) (l := t.l) (A := A2) (m := t.l.length) (c := c2) HK4.out hrl HR4.out (by first | rfl | simp) (by rw [← RT.eta t]; exact HN2.out)
  rw [← RT.eta t] at hfin
  have HFIN := Lib.hid hfin
  have hbg := hbf
  unfold five at hbg
  have HS0 := Lib.hid (hbg.cell 0)
  have HS1 := Lib.hid (hbg.cell 1)
  have HS2 := Lib.hid (hbg.cell 2)
  have HS3 := Lib.hid (hbg.cell 3)
  have HS4 := Lib.hid (hbg.cell 4)
  clear hbf hbg hfin
  go_wp2_with fail
  refine bodyPost_ret (v := .agg #[.int .i64 (t.k), .int .i64 (t.a), .string (t.s), .int .i64 (t.n), .slice A2 t.l.length c2]) (by simp [results, Tryz.results158, go_sem, HS0.out, HS1.out, HS2.out, HS3.out, HS4.out]) rfl ?_
  obtain ⟨z1, z2, z3⟩ := HFIN.out
  exact ⟨A2, c2, by first | rfl | simp [nodeV, RT.k, RT.a, RT.s, RT.n, RT.l], z1, z2, z3⟩

set_option maxHeartbeats 2000000 in
theorem enc_none {r g : Nat} {L : List Tk} {cap : Nat} {s : St} (hn : nmdB L (stepS L s).k = false) (hm : mkB L (stepS L s).k ⟨#[41]⟩ = true) : One 158 r g L cap s (.node 9 (tk L s.k).2.2 ⟨#[]⟩ 0 []) (takeS L ⟨#[41]⟩ (stepS L s)) := by
  intro w h
  have HR := Lib.hid h
  have hrl := h.bk.lt
  have HTX := Lib.hid (h.toks.txt s.k h.lt)
  have HS := Lib.hid (fun V (hV : Rd V r g L cap s) => step_moves hV)
  unfold tkV at HS
  have HT1 := Lib.hid (fun V (hV : Rd V r g L cap (stepS L s)) => named_tells hV)
  rw [hn] at HT1
  have HT2 := Lib.hid (fun V (hV : Rd V r g L cap (stepS L s)) => mark_tells hV ⟨#[41]⟩)
  rw [hm] at HT2
  have HTK := Lib.hid (fun V (hV : Rd V r g L cap (stepS L s)) => take_moves hV ⟨#[41]⟩)
  obtain ⟨s3, hs3⟩ : ∃ x, takeS L ⟨#[41]⟩ (stepS L s) = x := ⟨_, rfl⟩
  rw [hs3] at HTK ⊢
  obtain ⟨s1, hs1⟩ : ∃ x, stepS L s = x := ⟨_, rfl⟩
  obtain ⟨z, hz⟩ : ∃ z, s.k = z := ⟨_, rfl⟩
  rw [hs1] at HS HT1 HT2 HTK
  rw [hz] at HS ⊢
  clear hn hm hs1 hz hs3
  clear h
  go_enter Tryz.func158, Tryz.ntmps158
  go_wp2_with fail
  refine (HS.out _ (HR.out.alloc _)).mono ?_; rintro e w1 ⟨rfl, hr, hk⟩
  have hs1 := hk.size
  simp at hs1
  have HR1 := Lib.hid hr
  have HK1 := Lib.hid ((Kp.refl r (w.alloc (.cells #[.int .i64 0, .int .i64 0, .string ⟨#[]⟩, .int .i64 0, .slice none 0 0] 36))).trans hk)
  clear hr hk
  go_wp2_with fail
  have BX1 : Hid (Bk (w1.alloc (.cells #[.int .i64 9, .int .i64 ((tk L z).2.2 : Int), .string ⟨#[]⟩, .int .i64 0, .slice none 0 0] 36)) w1.heap.size 36 #[.int .i64 9, .int .i64 ((tk L z).2.2 : Int), .string ⟨#[]⟩, .int .i64 0, .slice none 0 0]) := Lib.hid (Bk.new w1 36 #[.int .i64 9, .int .i64 ((tk L z).2.2 : Int), .string ⟨#[]⟩, .int .i64 0, .slice none 0 0])
  refine (HT1.out _ (HR1.out.alloc (.cells #[.int .i64 9, .int .i64 ((tk L z).2.2 : Int), .string ⟨#[]⟩, .int .i64 0, .slice none 0 0] 36))).mono ?_; rintro e w' ⟨rfl, rfl⟩
  go_wp2_with fail
  refine (HT2.out _ (HR1.out.alloc (.cells #[.int .i64 9, .int .i64 ((tk L z).2.2 : Int), .string ⟨#[]⟩, .int .i64 0, .slice none 0 0] 36))).mono ?_; rintro e w' ⟨rfl, rfl⟩
  obtain ⟨BX1c0, BX1c1, BX1c2, BX1c3, BX1c4⟩ := BX1.out.c5
  have BX1l := BX1.out.lt
  go_wp2_with fail
  clear BX1c0 BX1c1 BX1c2 BX1c3 BX1c4 BX1l
  refine (HTK.out _ (HR1.out.alloc (.cells #[.int .i64 9, .int .i64 ((tk L z).2.2 : Int), .string ⟨#[]⟩, .int .i64 0, .slice none 0 0] 36))).mono ?_; rintro e w2 ⟨rfl, hr, hk⟩
  have hs2 := hk.size
  try simp at hs2
  have BX1_2 := Lib.hid (BX1.out.kp hk (by simp; try omega))
  clear BX1
  have BX1 := BX1_2
  clear BX1_2
  have HR2 := Lib.hid hr
  have HK2 := Lib.hid ((HK1.out.alloc (.cells #[.int .i64 9, .int .i64 ((tk L z).2.2 : Int), .string ⟨#[]⟩, .int .i64 0, .slice none 0 0] 36)).trans hk)
  clear hr hk
  obtain ⟨BX1c0, BX1c1, BX1c2, BX1c3, BX1c4⟩ := BX1.out.c5
  have BX1l := BX1.out.lt
  obtain ⟨⟨d0, d1, d2, d3, d4⟩, hfz, hl9, hbf, hfin⟩ := node_box (k := 9) (a := ((tk L z).2.2 : Int)) (s := ⟨#[]⟩) (n := 0) (l := ([] : List RT)) (A := none) (m := 0) (c := 0) HK2.out hrl HR2.out (by first | rfl | simp) (node_leaf _ _ _ _ (by decide))
  skip
  have HFIN := Lib.hid hfin
  have hbg := hbf
  unfold five at hbg
  have HS0 := Lib.hid (hbg.cell 0)
  have HS1 := Lib.hid (hbg.cell 1)
  have HS2 := Lib.hid (hbg.cell 2)
  have HS3 := Lib.hid (hbg.cell 3)
  have HS4 := Lib.hid (hbg.cell 4)
  clear hbf hbg hfin
  go_wp2_with fail
  refine bodyPost_ret (v := .agg #[.int .i64 (9), .int .i64 (((tk L z).2.2 : Int)), .string (⟨#[]⟩), .int .i64 (0), .slice none 0 0]) (by simp [results, Tryz.results158, go_sem, HS0.out, HS1.out, HS2.out, HS3.out, HS4.out]) rfl ?_
  obtain ⟨z1, z2, z3⟩ := HFIN.out
  exact ⟨none, 0, by first | rfl | simp [nodeV, RT.k, RT.a, RT.s, RT.n, RT.l], z1, z2, z3⟩

set_option maxHeartbeats 2000000 in
theorem enc_pat {r g : Nat} {L : List Tk} {cap : Nat} {s : St} {t : RT} {s2 : St} (hn : nmdB L (stepS L s).k = false) (hm : mkB L (stepS L s).k ⟨#[41]⟩ = false) (he : One 120 r g L cap (stepS L s) t s2) : One 158 r g L cap s (t) (takeS L ⟨#[41]⟩ s2) := by
  intro w h
  have HR := Lib.hid h
  have hrl := h.bk.lt
  have HTX := Lib.hid (h.toks.txt s.k h.lt)
  have HS := Lib.hid (fun V (hV : Rd V r g L cap s) => step_moves hV)
  unfold tkV at HS
  have HT1 := Lib.hid (fun V (hV : Rd V r g L cap (stepS L s)) => named_tells hV)
  rw [hn] at HT1
  have HT2 := Lib.hid (fun V (hV : Rd V r g L cap (stepS L s)) => mark_tells hV ⟨#[41]⟩)
  rw [hm] at HT2
  have HE := Lib.hid he
  unfold One TreeR nodeV at HE
  have HTK := Lib.hid (fun V (hV : Rd V r g L cap s2) => take_moves hV ⟨#[41]⟩)
  obtain ⟨s3, hs3⟩ : ∃ x, takeS L ⟨#[41]⟩ s2 = x := ⟨_, rfl⟩
  rw [hs3] at HTK ⊢
  obtain ⟨s1, hs1⟩ : ∃ x, stepS L s = x := ⟨_, rfl⟩
  obtain ⟨z, hz⟩ : ∃ z, s.k = z := ⟨_, rfl⟩
  rw [hs1] at HS HT1 HT2 HE
  rw [hz] at HS
  clear hn hm he hs1 hz hs3
  clear h
  go_enter Tryz.func158, Tryz.ntmps158
  go_wp2_with fail
  refine (HS.out _ (HR.out.alloc _)).mono ?_; rintro e w1 ⟨rfl, hr, hk⟩
  have hs1 := hk.size
  simp at hs1
  have HR1 := Lib.hid hr
  have HK1 := Lib.hid ((Kp.refl r (w.alloc (.cells #[.int .i64 0, .int .i64 0, .string ⟨#[]⟩, .int .i64 0, .slice none 0 0] 36))).trans hk)
  clear hr hk
  go_wp2_with fail
  have BX1 : Hid (Bk (w1.alloc (.cells #[.int .i64 9, .int .i64 ((tk L z).2.2 : Int), .string ⟨#[]⟩, .int .i64 0, .slice none 0 0] 36)) w1.heap.size 36 #[.int .i64 9, .int .i64 ((tk L z).2.2 : Int), .string ⟨#[]⟩, .int .i64 0, .slice none 0 0]) := Lib.hid (Bk.new w1 36 #[.int .i64 9, .int .i64 ((tk L z).2.2 : Int), .string ⟨#[]⟩, .int .i64 0, .slice none 0 0])
  refine (HT1.out _ (HR1.out.alloc (.cells #[.int .i64 9, .int .i64 ((tk L z).2.2 : Int), .string ⟨#[]⟩, .int .i64 0, .slice none 0 0] 36))).mono ?_; rintro e w' ⟨rfl, rfl⟩
  go_wp2_with fail
  refine (HT2.out _ (HR1.out.alloc (.cells #[.int .i64 9, .int .i64 ((tk L z).2.2 : Int), .string ⟨#[]⟩, .int .i64 0, .slice none 0 0] 36))).mono ?_; rintro e w' ⟨rfl, rfl⟩
  obtain ⟨BX1c0, BX1c1, BX1c2, BX1c3, BX1c4⟩ := BX1.out.c5
  have BX1l := BX1.out.lt
  go_wp2_with fail
  clear BX1c0 BX1c1 BX1c2 BX1c3 BX1c4 BX1l
  refine (HE.out _ (HR1.out.alloc (.cells #[.int .i64 9, .int .i64 ((tk L z).2.2 : Int), .string ⟨#[]⟩, .int .i64 0, .slice none 0 0] 36))).mono ?_; rintro e w2 ⟨A2, c2, rfl, hn, hr, hk⟩
  have hs2 := hk.size
  try simp at hs2
  have BX1_2 := Lib.hid (BX1.out.kp hk (by simp; try omega))
  clear BX1
  have BX1 := BX1_2
  clear BX1_2
  have HN2 : Hid (IsNode w2 (w.heap.size + 1) w2.heap.size t A2 c2) := Lib.hid (hn.wide (by first | omega | (simp; done) | (simp; omega)) (Nat.le_refl _))
  have HNR2 := Lib.hid hn
  have HR2 := Lib.hid hr
  have HK2 := Lib.hid ((HK1.out.alloc (.cells #[.int .i64 9, .int .i64 ((tk L z).2.2 : Int), .string ⟨#[]⟩, .int .i64 0, .slice none 0 0] 36)).trans hk)
  clear hn hr hk
  obtain ⟨BX1c0, BX1c1, BX1c2, BX1c3, BX1c4⟩ := BX1.out.c5
  have BX1l := BX1.out.lt
  have hzz3 : ∀ o, w2.frozen? ⟨w1.heap.size, o, none⟩ = false := fun o => BX1.out.cold o
  obtain ⟨hp1, hp2, hp3, hp4⟩ := node_put BX1.out HR2.out (by omega) HNR2.out (by simp)
  obtain ⟨w3, hw3⟩ : ∃ W, (((((w2.setCell ⟨w1.heap.size, 0, none⟩ (.int .i64 t.k)).setCell ⟨w1.heap.size, 1, none⟩ (.int .i64 t.a)).setCell ⟨w1.heap.size, 2, none⟩ (.string t.s)).setCell ⟨w1.heap.size, 3, none⟩ (.int .i64 t.n)).setCell ⟨w1.heap.size, 4, none⟩ (.slice A2 t.l.length c2)) = W := ⟨_, rfl⟩
  have hsz3 : w3.heap.size = w2.heap.size := by rw [← hw3]; simp [World.setCell]
  change Rd (((((w2.setCell ⟨w1.heap.size, 0, none⟩ (.int .i64 t.k)).setCell ⟨w1.heap.size, 1, none⟩ (.int .i64 t.a)).setCell ⟨w1.heap.size, 2, none⟩ (.string t.s)).setCell ⟨w1.heap.size, 3, none⟩ (.int .i64 t.n)).setCell ⟨w1.heap.size, 4, none⟩ (.slice A2 t.l.length c2)) _ _ _ _ _ at hp1
  change Below _ _ (((((w2.setCell ⟨w1.heap.size, 0, none⟩ (.int .i64 t.k)).setCell ⟨w1.heap.size, 1, none⟩ (.int .i64 t.a)).setCell ⟨w1.heap.size, 2, none⟩ (.string t.s)).setCell ⟨w1.heap.size, 3, none⟩ (.int .i64 t.n)).setCell ⟨w1.heap.size, 4, none⟩ (.slice A2 t.l.length c2)) at hp2
  change Bk (((((w2.setCell ⟨w1.heap.size, 0, none⟩ (.int .i64 t.k)).setCell ⟨w1.heap.size, 1, none⟩ (.int .i64 t.a)).setCell ⟨w1.heap.size, 2, none⟩ (.string t.s)).setCell ⟨w1.heap.size, 3, none⟩ (.int .i64 t.n)).setCell ⟨w1.heap.size, 4, none⟩ (.slice A2 t.l.length c2)) _ _ _ at hp3
  change IsNode (((((w2.setCell ⟨w1.heap.size, 0, none⟩ (.int .i64 t.k)).setCell ⟨w1.heap.size, 1, none⟩ (.int .i64 t.a)).setCell ⟨w1.heap.size, 2, none⟩ (.string t.s)).setCell ⟨w1.heap.size, 3, none⟩ (.int .i64 t.n)).setCell ⟨w1.heap.size, 4, none⟩ (.slice A2 t.l.length c2)) _ (((((w2.setCell ⟨w1.heap.size, 0, none⟩ (.int .i64 t.k)).setCell ⟨w1.heap.size, 1, none⟩ (.int .i64 t.a)).setCell ⟨w1.heap.size, 2, none⟩ (.string t.s)).setCell ⟨w1.heap.size, 3, none⟩ (.int .i64 t.n)).setCell ⟨w1.heap.size, 4, none⟩ (.slice A2 t.l.length c2)).heap.size _ _ _ at hp4
  rw [hw3] at hp1 hp2 hp3 hp4
  have HR3 := Lib.hid hp1
  have HK3 := Lib.hid (HK2.out.next (hp2.mono (by simp; try omega)))
  have HN2p : Hid (IsNode w3 (w.heap.size + 1) w3.heap.size t A2 c2) := Lib.hid (hp4.wide (by first | omega | (simp; omega)) (Nat.le_refl _))
  have BX1p := Lib.hid hp3
  have HW3 := Lib.hid hw3
  clear BX1 HN2 hw3 hp1 hp2 hp3 hp4
  have BX1 := BX1p
  have HN2 := HN2p
  clear BX1p HN2p
  go_wp2_with fail
  rw [HW3.out]
  clear HW3 hzz3 BX1c0 BX1c1 BX1c2 BX1c3 BX1c4
  refine (HTK.out _ HR3.out).mono ?_; rintro e w4 ⟨rfl, hr, hk⟩
  have hs4 := hk.size
  try simp at hs4
  have HN2_4 := Lib.hid (IsNode.kpw HN2.out hk (by omega))
  clear HN2
  have HN2 := HN2_4
  clear HN2_4
  have BX1_4 := Lib.hid (BX1.out.kp hk (by simp; try omega))
  clear BX1
  have BX1 := BX1_4
  clear BX1_4
  have HR4 := Lib.hid hr
  have HK4 := Lib.hid (HK3.out.trans hk)
  clear hr hk
  obtain ⟨BX1c0, BX1c1, BX1c2, BX1c3, BX1c4⟩ := BX1.out.c5
  have BX1l := BX1.out.lt
  obtain ⟨⟨d0, d1, d2, d3, d4⟩, hfz, hl9, hbf, hfin⟩ := node_box (k := t.k) (a := t.a) (s := t.s) (n := t.n) (l := t.l) (A := A2) (m := t.l.length) (c := c2) HK4.out hrl HR4.out (by first | rfl | simp) (by rw [← RT.eta t]; exact HN2.out)
  rw [← RT.eta t] at hfin
  have HFIN := Lib.hid hfin
  have hbg := hbf
  unfold five at hbg
  have HS0 := Lib.hid (hbg.cell 0)
  have HS1 := Lib.hid (hbg.cell 1)
  have HS2 := Lib.hid (hbg.cell 2)
  have HS3 := Lib.hid (hbg.cell 3)
  have HS4 := Lib.hid (hbg.cell 4)
  clear hbf hbg hfin
  go_wp2_with fail
  refine bodyPost_ret (v := .agg #[.int .i64 (t.k), .int .i64 (t.a), .string (t.s), .int .i64 (t.n), .slice A2 t.l.length c2]) (by simp [results, Tryz.results158, go_sem, HS0.out, HS1.out, HS2.out, HS3.out, HS4.out]) rfl ?_
  obtain ⟨z1, z2, z3⟩ := HFIN.out
  exact ⟨A2, c2, by first | rfl | simp [nodeV, RT.k, RT.a, RT.s, RT.n, RT.l], z1, z2, z3⟩

end Go.Proofs.YteaojmcfppbgiaaGreatDoor

/- parse: a node whose Subs are one, two nodes just made; a forced pattern. -/
namespace Go.Proofs.YteaojmcfppbgiaaGreatDoor
open Go.RowKit
set_option linter.unusedVariables false
set_option maxRecDepth 100000

theorem flatP_len : ∀ ps : List (RT × Option Addr × Nat), (flatP ps).length = ps.length * 5
  | [] => rfl
  | p :: ps => by
    have e : flatP (p :: ps) = cellsP p ++ flatP ps := rfl
    rw [e, List.length_append, flatP_len ps, List.length_cons]
    have : (cellsP p).length = 5 := rfl
    omega
/-- A node with a new row of its Subs, stored into the result's block. -/
theorem row_box {w V : World} {r g : Nat} {L : List Tk} {cap : Nat} {s' : St} (k a : Int) (s : ByteArray) (n : Int) (ts : List (RT × Option Addr × Nat))
    (hk : Kp r (w.alloc (.cells #[.int .i64 0, .int .i64 0, .string ⟨#[]⟩, .int .i64 0, .slice none 0 0] 36)) V) (hr : r < w.heap.size) (hrd : Rd V r g L cap s') (hs : s.size ≤ maxLen) (hlen : ts.length ≤ 2) (hts : ∀ p ∈ ts, IsNode V (w.heap.size + 1) V.heap.size p.1 p.2.1 p.2.2) (cs : Array Value) (hcs : cs.toList = flatP ts) (m : Nat) (hm : m = ts.length) :
    (V.cell? ⟨w.heap.size, 0, none⟩ = some (.int .i64 0) ∧ V.cell? ⟨w.heap.size, 1, none⟩ = some (.int .i64 0) ∧ V.cell? ⟨w.heap.size, 2, none⟩ = some (.string ⟨#[]⟩) ∧ V.cell? ⟨w.heap.size, 3, none⟩ = some (.int .i64 0) ∧ V.cell? ⟨w.heap.size, 4, none⟩ = some (.slice none 0 0)) ∧
    (∀ o, V.frozen? ⟨w.heap.size, o, none⟩ = false) ∧ w.heap.size < V.heap.size ∧
    Bk ((five V w.heap.size (.int .i64 k) (.int .i64 a) (.string s) (.int .i64 n) (.slice (some ⟨V.heap.size, 0, none⟩) m m)).alloc (.cells cs 36)) w.heap.size 36 #[.int .i64 k, .int .i64 a, .string s, .int .i64 n, .slice (some ⟨V.heap.size, 0, none⟩) m m] ∧
    (IsNode ((five V w.heap.size (.int .i64 k) (.int .i64 a) (.string s) (.int .i64 n) (.slice (some ⟨V.heap.size, 0, none⟩) m m)).alloc (.cells cs 36)) w.heap.size ((five V w.heap.size (.int .i64 k) (.int .i64 a) (.string s) (.int .i64 n) (.slice (some ⟨V.heap.size, 0, none⟩) m m)).alloc (.cells cs 36)).heap.size (.node k a s n (ts.map (·.1))) (some ⟨V.heap.size, 0, none⟩) m ∧
     Rd ((five V w.heap.size (.int .i64 k) (.int .i64 a) (.string s) (.int .i64 n) (.slice (some ⟨V.heap.size, 0, none⟩) m m)).alloc (.cells cs 36)) r g L cap s' ∧ Kp r w ((five V w.heap.size (.int .i64 k) (.int .i64 a) (.string s) (.int .i64 n) (.slice (some ⟨V.heap.size, 0, none⟩) m m)).alloc (.cells cs 36))) := by
  subst hm
  have BX := (Bk.new w 36 #[.int .i64 0, .int .i64 0, .string ⟨#[]⟩, .int .i64 0, .slice none 0 0]).kp hk (by omega)
  have hlt := BX.lt
  have hz5 : (five V w.heap.size (.int .i64 k) (.int .i64 a) (.string s) (.int .i64 n) (.slice (some ⟨V.heap.size, 0, none⟩) ts.length ts.length)).heap.size = V.heap.size := by unfold five; rw [size_five]
  have k5 : Bk (five V w.heap.size (.int .i64 k) (.int .i64 a) (.string s) (.int .i64 n) (.slice (some ⟨V.heap.size, 0, none⟩) ts.length ts.length)) w.heap.size 36 #[.int .i64 k, .int .i64 a, .string s, .int .i64 n, .slice (some ⟨V.heap.size, 0, none⟩) ts.length ts.length] := ((((BX.at_ 0 (.int .i64 k)).at_ 1 (.int .i64 a)).at_ 2 (.string s)).at_ 3 (.int .i64 n)).at_ 4 _
  have hrd5 : Rd (five V w.heap.size (.int .i64 k) (.int .i64 a) (.string s) (.int .i64 n) (.slice (some ⟨V.heap.size, 0, none⟩) ts.length ts.length)) r g L cap s' := hrd.under (((((Below.refl w.heap.size V).setCell (Nat.le_refl _) _).setCell (Nat.le_refl _) _).setCell (Nat.le_refl _) _).setCell (Nat.le_refl _) _ |>.setCell (Nat.le_refl _) _) hr
  have hk5 : Kp r w (five V w.heap.size (.int .i64 k) (.int .i64 a) (.string s) (.int .i64 n) (.slice (some ⟨V.heap.size, 0, none⟩) ts.length ts.length)) := ((((((Kp.refl r w).alloc _).trans hk).setNew (Nat.le_refl _) _).setNew (Nat.le_refl _) _).setNew (Nat.le_refl _) _).setNew (Nat.le_refl _) _ |>.setNew (Nat.le_refl _) _
  have hts5 : ∀ p ∈ ts, IsNode (five V w.heap.size (.int .i64 k) (.int .i64 a) (.string s) (.int .i64 n) (.slice (some ⟨V.heap.size, 0, none⟩) ts.length ts.length)) (w.heap.size + 1) V.heap.size p.1 p.2.1 p.2.2 := fun p hp => (hts p hp).five (g := w.heap.size) (by omega) _ _ _ _ _
  obtain ⟨F, hF⟩ : ∃ F, five V w.heap.size (.int .i64 k) (.int .i64 a) (.string s) (.int .i64 n) (.slice (some ⟨V.heap.size, 0, none⟩) ts.length ts.length) = F := ⟨_, rfl⟩
  rw [hF] at hz5 k5 hrd5 hk5 hts5 ⊢
  refine ⟨⟨BX.cell 0, BX.cell 1, BX.cell 2, BX.cell 3, BX.cell 4⟩, fun o => BX.cold o, hlt, k5.alloc _, ?_, hrd5.alloc _, hk5.alloc _⟩
  have hrow : NodeRow (F.alloc (.cells cs 36)) (w.heap.size + 1) 36 (.slice (some ⟨V.heap.size, 0, none⟩) ts.length ts.length) ts (fun b => w.heap.size + 1 ≤ b ∧ b < V.heap.size) := by
    refine ⟨?_, fun b hb => ⟨by simp; omega, fun e => ?_⟩, fun p hp => ?_⟩
    · have h1 := World.ownsRow_lit (base := w.heap.size + 1) (e := 36) (size := 5) F cs ts.length (by omega) (by unfold maxLen; omega) (by rw [← Array.length_toList, hcs, flatP_len])
      rw [hz5, hcs] at h1
      exact h1
    · have e' : V.heap.size = b := by simpa [Value.ownBlock] using e
      omega
    · exact ((hts5 p hp).alloc (by omega) _).imp (fun _ _ _ _ => rfl) (Nat.le_refl _) (Nat.le_refl _)
  exact (hrow.parent (lo := w.heap.size + 1) (Nat.le_refl _) (fun b hb => hb.1) k a s n hs).wide (by omega) (Nat.le_refl _)

set_option maxHeartbeats 2000000 in
theorem pat_dot {r g : Nat} {L : List Tk} {cap : Nat} {s : St} {t : RT} {s2 : St} (hn : nmdB L s.k = false) (hl : loB L s.k = false) (hd : mkB L s.k ⟨#[46]⟩ = true) (he : One 155 r g L cap (stepS L s) t s2) : One 120 r g L cap s (.node 10 (tk L s.k).2.2 ⟨#[]⟩ 0 [t]) (s2) := by
  intro w h
  have HR := Lib.hid h
  have hrl := h.bk.lt
  have HTX := Lib.hid (h.toks.txt s.k h.lt)
  have HT1 := Lib.hid (fun V (hV : Rd V r g L cap s) => named_tells hV)
  rw [hn] at HT1
  have HT2 := Lib.hid (fun V (hV : Rd V r g L cap s) => low_tells hV)
  rw [hl] at HT2
  have HT3 := Lib.hid (fun V (hV : Rd V r g L cap s) => mark_tells hV ⟨#[46]⟩)
  rw [hd] at HT3
  have HS := Lib.hid (fun V (hV : Rd V r g L cap s) => step_moves hV)
  unfold tkV at HS
  have HE := Lib.hid he
  unfold One TreeR nodeV at HE
  obtain ⟨z, hz⟩ : ∃ z, s.k = z := ⟨_, rfl⟩
  obtain ⟨s1, hs1⟩ : ∃ x, stepS L s = x := ⟨_, rfl⟩
  rw [hs1] at HS HE
  rw [hz] at HS ⊢
  clear hn hl hd he hz hs1
  clear h
  go_enter Tryz.func120, Tryz.ntmps120
  go_wp2_with fail
  refine (HT1.out _ (HR.out.alloc _)).mono ?_; rintro e w' ⟨rfl, rfl⟩
  go_wp2_with fail
  refine (HT2.out _ (HR.out.alloc _)).mono ?_; rintro e w' ⟨rfl, rfl⟩
  go_wp2_with fail
  refine (HT3.out _ (HR.out.alloc _)).mono ?_; rintro e w' ⟨rfl, rfl⟩
  go_wp2_with fail
  refine (HS.out _ (HR.out.alloc _)).mono ?_; rintro e w1 ⟨rfl, hr, hk⟩
  have hs1 := hk.size
  simp at hs1
  have HR1 := Lib.hid hr
  have HK1 := Lib.hid ((Kp.refl r (w.alloc (.cells #[.int .i64 0, .int .i64 0, .string ⟨#[]⟩, .int .i64 0, .slice none 0 0] 36))).trans hk)
  clear hr hk
  go_wp2_with fail
  refine (HE.out _ HR1.out).mono ?_; rintro e w2 ⟨A2, c2, rfl, hn, hr, hk⟩
  have hs2 := hk.size
  try simp at hs2
  have HN2 : Hid (IsNode w2 (w.heap.size + 1) w2.heap.size t A2 c2) := Lib.hid (hn.wide (by first | omega | (simp; done) | (simp; omega)) (Nat.le_refl _))
  have HNR2 := Lib.hid hn
  have HR2 := Lib.hid hr
  have HK2 := Lib.hid (HK1.out.trans hk)
  clear hn hr hk
  have hts : ∀ p ∈ ([(t, A2, c2)] : List (RT × Option Addr × Nat)), IsNode w2 (w.heap.size + 1) w2.heap.size p.1 p.2.1 p.2.2 := by
    intro p hp
    simp at hp
    subst hp
    exact HN2.out
  obtain ⟨⟨d0, d1, d2, d3, d4⟩, hfz, hl9, hbg, hfin⟩ := row_box 10 ((tk L z).2.2 : Int) ⟨#[]⟩ 0 [(t, A2, c2)] HK2.out hrl HR2.out (by decide) (by simp) hts #[.int .i64 t.k, .int .i64 t.a, .string t.s, .int .i64 t.n, .slice A2 t.l.length c2] rfl 1 rfl
  have HFIN := Lib.hid hfin
  unfold five at hbg
  have HS0 := Lib.hid (hbg.cell 0)
  have HS1 := Lib.hid (hbg.cell 1)
  have HS2 := Lib.hid (hbg.cell 2)
  have HS3 := Lib.hid (hbg.cell 3)
  have HS4 := Lib.hid (hbg.cell 4)
  clear hbg hfin hts
  go_wp2_with fail
  refine bodyPost_ret (v := .agg #[.int .i64 (10), .int .i64 (((tk L z).2.2 : Int)), .string (⟨#[]⟩), .int .i64 (0), .slice (some ⟨w2.heap.size, 0, none⟩) 1 1]) (by simp [results, Tryz.results120, go_sem, HS0.out, HS1.out, HS2.out, HS3.out, HS4.out]) rfl ?_
  obtain ⟨z1, z2, z3⟩ := HFIN.out
  exact ⟨some ⟨w2.heap.size, 0, none⟩, 1, rfl, z1, z2, z3⟩

end Go.Proofs.YteaojmcfppbgiaaGreatDoor

/- parse: the type of functions between two expressions. -/
namespace Go.Proofs.YteaojmcfppbgiaaGreatDoor
open Go.RowKit
set_option linter.unusedVariables false
set_option maxRecDepth 100000

set_option maxHeartbeats 2000000 in
theorem expr_arr {r g : Nat} {L : List Tk} {cap : Nat} {s : St} {t u : RT} {s2 s3 : St} (hl : mkB L s.k ⟨#[92]⟩ = false) (hf : fnB L s.k = false) (he : One 115 r g L cap s t s2) (ha : mkB L s2.k ⟨#[45, 62]⟩ = true) (hu : One 77 r g L cap (stepS L s2) u s3) : One 77 r g L cap s (.node 3 t.a ⟨#[95]⟩ 0 [t, u]) (s3) := by
  intro w h
  have HR := Lib.hid h
  have hrl := h.bk.lt
  have HTX := Lib.hid (h.toks.txt s.k h.lt)
  have HT1 := Lib.hid (fun V (hV : Rd V r g L cap s) => mark_tells hV ⟨#[92]⟩)
  rw [hl] at HT1
  have HT2 := Lib.hid (fun V (hV : Rd V r g L cap s) => fnNext_tells hV)
  rw [hf] at HT2
  have HE := Lib.hid he
  have HU := Lib.hid hu
  unfold One TreeR nodeV at HE HU
  have HT4 := Lib.hid (fun V (hV : Rd V r g L cap s2) => mark_tells hV ⟨#[45, 62]⟩)
  rw [ha] at HT4
  have HS := Lib.hid (fun V (hV : Rd V r g L cap s2) => step_moves hV)
  unfold tkV at HS
  obtain ⟨s4, hs4⟩ : ∃ x, stepS L s2 = x := ⟨_, rfl⟩
  rw [hs4] at HS HU
  clear hl hf he ha hu hs4
  clear h
  go_enter Tryz.func77, Tryz.ntmps77
  go_wp2_with fail
  refine (HT1.out _ (HR.out.alloc _)).mono ?_; rintro e w' ⟨rfl, rfl⟩
  go_wp2_with fail
  refine (HT2.out _ (HR.out.alloc _)).mono ?_; rintro e w' ⟨rfl, rfl⟩
  go_wp2_with fail
  refine (HE.out _ (HR.out.alloc _)).mono ?_; rintro e w1 ⟨A1, c1, rfl, hn, hr, hk⟩
  have hs1 := hk.size
  simp at hs1
  have HN1 : Hid (IsNode w1 (w.heap.size + 1) w1.heap.size t A1 c1) := Lib.hid (hn.wide (by first | omega | (simp; done) | (simp; omega)) (Nat.le_refl _))
  have HNR1 := Lib.hid hn
  have HR1 := Lib.hid hr
  have HK1 := Lib.hid ((Kp.refl r (w.alloc (.cells #[.int .i64 0, .int .i64 0, .string ⟨#[]⟩, .int .i64 0, .slice none 0 0] 36))).trans hk)
  clear hn hr hk
  go_wp2_with fail
  have HN1_b := Lib.hid (IsNode.allocw HN1.out (.cells #[.int .i64 t.k, .int .i64 t.a, .string t.s, .int .i64 t.n, .slice A1 t.l.length c1] 36))
  clear HN1
  have HN1 := HN1_b
  clear HN1_b
  have BX1 : Hid (Bk (w1.alloc (.cells #[.int .i64 t.k, .int .i64 t.a, .string t.s, .int .i64 t.n, .slice A1 t.l.length c1] 36)) w1.heap.size 36 #[.int .i64 t.k, .int .i64 t.a, .string t.s, .int .i64 t.n, .slice A1 t.l.length c1]) := Lib.hid (Bk.new w1 36 #[.int .i64 t.k, .int .i64 t.a, .string t.s, .int .i64 t.n, .slice A1 t.l.length c1])
  refine (HT4.out _ (HR1.out.alloc (.cells #[.int .i64 t.k, .int .i64 t.a, .string t.s, .int .i64 t.n, .slice A1 t.l.length c1] 36))).mono ?_; rintro e w' ⟨rfl, rfl⟩
  go_wp2_with fail
  refine (HS.out _ (HR1.out.alloc (.cells #[.int .i64 t.k, .int .i64 t.a, .string t.s, .int .i64 t.n, .slice A1 t.l.length c1] 36))).mono ?_; rintro e w2 ⟨rfl, hr, hk⟩
  have hs2 := hk.size
  try simp at hs2
  have HN1_2 := Lib.hid (IsNode.kpw HN1.out hk (by omega))
  clear HN1
  have HN1 := HN1_2
  clear HN1_2
  have BX1_2 := Lib.hid (BX1.out.kp hk (by simp; try omega))
  clear BX1
  have BX1 := BX1_2
  clear BX1_2
  have HR2 := Lib.hid hr
  have HK2 := Lib.hid ((HK1.out.alloc (.cells #[.int .i64 t.k, .int .i64 t.a, .string t.s, .int .i64 t.n, .slice A1 t.l.length c1] 36)).trans hk)
  clear hr hk
  go_wp2_with fail
  obtain ⟨BX1c0, BX1c1, BX1c2, BX1c3, BX1c4⟩ := BX1.out.c5
  have BX1l := BX1.out.lt
  have hneb : w.heap.size ≠ w1.heap.size := by omega
  have hneb2 : w1.heap.size ≠ w.heap.size := by omega
  have HRD := Lib.hid (HR2.out.below ((Below.refl _ _).drew))
  have HKD := Lib.hid (Kp.drew HK2.out)
  go_region_held3 (fun w' => w'.cell? ⟨w1.heap.size, 0, none⟩ = some (.int .i64 t.k) ∧ w'.cell? ⟨w1.heap.size, 1, none⟩ = some (.int .i64 t.a) ∧ w'.cell? ⟨w1.heap.size, 2, none⟩ = some (.string t.s) ∧ w'.cell? ⟨w1.heap.size, 3, none⟩ = some (.int .i64 t.n) ∧ w'.cell? ⟨w1.heap.size, 4, none⟩ = some (.slice A1 t.l.length c1))
    (first | go_keep | exact HKc.out)
    (first
      | (go_at_call 77
         refine (HU.out _ HRD.out).mono ?_
         rintro e w3 ⟨A3, c3, rfl, hn, hr, hk⟩
         have hs3 := hk.size
         simp at hs3
         have HNB := Lib.hid (IsNode.kpw (show IsNode w2.drew (w.heap.size + 1) w2.drew.heap.size t A1 c1 from HN1.out.kept ((Below.refl w2.heap.size w2).drew) (Nat.le_refl _)) hk (by omega))
         have HNJ : Hid (IsNode w3 (w.heap.size + 1) w3.heap.size u A3 c3) := Lib.hid (hn.wide (by simp; try omega) (Nat.le_refl _))
         have HBJ := Lib.hid ((show Bk w2.drew w1.heap.size 36 #[.int .i64 t.k, .int .i64 t.a, .string t.s, .int .i64 t.n, .slice A1 t.l.length c1] from BX1.out).kp hk (by omega))
         have HKc := Lib.hid HBJ.out.c5
         have hts : ∀ p ∈ ([(t, A1, c1), (u, A3, c3)] : List (RT × Option Addr × Nat)), IsNode w3 (w.heap.size + 1) w3.heap.size p.1 p.2.1 p.2.2 := by
           intro p hp
           simp at hp
           rcases hp with rfl | rfl
           · exact HNB.out
           · exact HNJ.out
         obtain ⟨⟨d0, d1, d2, d3, d4⟩, hfz, hl9, hbg, hfin⟩ := row_box 3 t.a ⟨#[95]⟩ 0 [(t, A1, c1), (u, A3, c3)] (HKD.out.trans hk) hrl hr (by decide) (by simp) hts #[.int .i64 t.k, .int .i64 t.a, .string t.s, .int .i64 t.n, .slice A1 t.l.length c1, .int .i64 u.k, .int .i64 u.a, .string u.s, .int .i64 u.n, .slice A3 u.l.length c3] rfl 2 rfl
         obtain ⟨e0, e1, e2, e3, e4⟩ := HBJ.out.c5
         have el := HBJ.out.lt
         have HFIN := Lib.hid hfin
         unfold five at hbg
         have HS0 := Lib.hid (hbg.cell 0)
         have HS1 := Lib.hid (hbg.cell 1)
         have HS2 := Lib.hid (hbg.cell 2)
         have HS3 := Lib.hid (hbg.cell 3)
         have HS4 := Lib.hid (hbg.cell 4)
         clear hbg hfin hts hn hr hk))
  all_goals
    go_wp2_with fail
    refine bodyPost_ret (v := .agg #[.int .i64 (3), .int .i64 (t.a), .string (⟨#[95]⟩), .int .i64 (0), .slice (some ⟨w3.heap.size, 0, none⟩) 2 2]) (by simp [results, Tryz.results77, go_sem, HS0.out, HS1.out, HS2.out, HS3.out, HS4.out]) rfl ?_
    obtain ⟨z1, z2, z3⟩ := HFIN.out
    exact ⟨some ⟨w3.heap.size, 0, none⟩, 2, rfl, z1, z2, z3⟩

end Go.Proofs.YteaojmcfppbgiaaGreatDoor

/- parse: an expression that is a function, a type of functions, an application alone. -/
namespace Go.Proofs.YteaojmcfppbgiaaGreatDoor
open Go.RowKit
set_option linter.unusedVariables false
set_option maxRecDepth 100000

/-- What bound does. -/
def Bnd (kd a : Int) (r g : Nat) (L : List Tk) (cap : Nat) (s : St) (t : RT) (s' : St) : Prop :=
  ∀ w, Rd w r g L cap s → Calls Tryz.prog 112 #[.pointer (some ⟨r, 0, none⟩), .int .i64 kd, .int .i64 a] w (TreeR t r g L cap s' w)

set_option maxHeartbeats 2000000 in
theorem expr_lam {r g : Nat} {L : List Tk} {cap : Nat} {s : St} {t : RT} {s2 : St} (hl : mkB L s.k ⟨#[92]⟩ = true) (he : Bnd 4 (tk L s.k).2.2 r g L cap (stepS L s) t s2) : One 77 r g L cap s (t) (s2) := by
  intro w h
  have HR := Lib.hid h
  have hrl := h.bk.lt
  have HTX := Lib.hid (h.toks.txt s.k h.lt)
  have HT1 := Lib.hid (fun V (hV : Rd V r g L cap s) => mark_tells hV ⟨#[92]⟩)
  rw [hl] at HT1
  have HS := Lib.hid (fun V (hV : Rd V r g L cap s) => step_moves hV)
  unfold tkV at HS
  have HE := Lib.hid he
  unfold Bnd TreeR nodeV at HE
  obtain ⟨s1, hs1⟩ : ∃ x, stepS L s = x := ⟨_, rfl⟩
  rw [hs1] at HS HE
  obtain ⟨z, hz⟩ : ∃ z, s.k = z := ⟨_, rfl⟩
  rw [hz] at HS HE HTX
  clear hz hs1 hl he
  clear h
  go_enter Tryz.func77, Tryz.ntmps77
  go_wp2_with fail
  refine (HT1.out _ (HR.out.alloc _)).mono ?_; rintro e w' ⟨rfl, rfl⟩
  go_wp2_with fail
  refine (HS.out _ (HR.out.alloc _)).mono ?_; rintro e w1 ⟨rfl, hr, hk⟩
  have hs1 := hk.size
  simp at hs1
  have HR1 := Lib.hid hr
  have HK1 := Lib.hid ((Kp.refl r (w.alloc (.cells #[.int .i64 0, .int .i64 0, .string ⟨#[]⟩, .int .i64 0, .slice none 0 0] 36))).trans hk)
  clear hr hk
  go_wp2_with fail
  refine (HE.out _ HR1.out).mono ?_; rintro e w2 ⟨A2, c2, rfl, hn, hr, hk⟩
  have hs2 := hk.size
  try simp at hs2
  have HN2 : Hid (IsNode w2 (w.heap.size + 1) w2.heap.size t A2 c2) := Lib.hid (hn.wide (by first | omega | (simp; done) | (simp; omega)) (Nat.le_refl _))
  have HR2 := Lib.hid hr
  have HK2 := Lib.hid (HK1.out.trans hk)
  clear hn hr hk
  obtain ⟨⟨d0, d1, d2, d3, d4⟩, hfz, hl9, hbf, hfin⟩ := node_box (k := t.k) (a := t.a) (s := t.s) (n := t.n) (l := t.l) (A := A2) (m := t.l.length) (c := c2) HK2.out hrl HR2.out (by first | rfl | simp) (by rw [← RT.eta t]; exact HN2.out)
  rw [← RT.eta t] at hfin
  have HFIN := Lib.hid hfin
  have hbg := hbf
  unfold five at hbg
  have HS0 := Lib.hid (hbg.cell 0)
  have HS1 := Lib.hid (hbg.cell 1)
  have HS2 := Lib.hid (hbg.cell 2)
  have HS3 := Lib.hid (hbg.cell 3)
  have HS4 := Lib.hid (hbg.cell 4)
  clear hbf hbg hfin
  go_wp2_with fail
  refine bodyPost_ret (v := .agg #[.int .i64 (t.k), .int .i64 (t.a), .string (t.s), .int .i64 (t.n), .slice A2 t.l.length c2]) (by simp [results, Tryz.results77, go_sem, HS0.out, HS1.out, HS2.out, HS3.out, HS4.out]) rfl ?_
  obtain ⟨z1, z2, z3⟩ := HFIN.out
  exact ⟨A2, c2, by first | rfl | simp [nodeV, RT.k, RT.a, RT.s, RT.n, RT.l], z1, z2, z3⟩

set_option maxHeartbeats 2000000 in
theorem expr_pi {r g : Nat} {L : List Tk} {cap : Nat} {s : St} {t : RT} {s2 : St} (hl : mkB L s.k ⟨#[92]⟩ = false) (hf : fnB L s.k = true) (he : Bnd 3 (tk L s.k).2.2 r g L cap s t s2) : One 77 r g L cap s (t) (s2) := by
  intro w h
  have HR := Lib.hid h
  have hrl := h.bk.lt
  have HTX := Lib.hid (h.toks.txt s.k h.lt)
  have HT1 := Lib.hid (fun V (hV : Rd V r g L cap s) => mark_tells hV ⟨#[92]⟩)
  rw [hl] at HT1
  have HT2 := Lib.hid (fun V (hV : Rd V r g L cap s) => fnNext_tells hV)
  rw [hf] at HT2
  have HE := Lib.hid he
  unfold Bnd TreeR nodeV at HE
  obtain ⟨m, c, h0, h1, h2, h3, hm, hcc⟩ := h.sz
  obtain ⟨x0, x1, x2, t0, t1, t2⟩ := h.cells hm hcc
  have hgl := h.toks.lt
  have hm0 : (0 : Int) < (m : Int) := by omega
  unfold maxLen at h3
  obtain ⟨k3, hk3⟩ : ∃ x, s.k * 3 = x := ⟨_, rfl⟩
  rw [hk3] at x0 t0 t1 t2
  obtain ⟨y, hy⟩ : ∃ x, (tk L s.k).2.2 = x := ⟨_, rfl⟩
  rw [hy] at t2
  clear hm hcc hk3 t0 t1
  rw [hy] at HE
  clear hl hf he hy
  clear h
  go_enter Tryz.func77, Tryz.ntmps77
  go_wp2_with fail
  refine (HT1.out _ (HR.out.alloc _)).mono ?_; rintro e w' ⟨rfl, rfl⟩
  go_wp2_with fail
  refine (HT2.out _ (HR.out.alloc _)).mono ?_; rintro e w' ⟨rfl, rfl⟩
  go_wp2_with fail
  refine (HE.out _ (HR.out.alloc _)).mono ?_; rintro e w1 ⟨A1, c1, rfl, hn, hr, hk⟩
  have hs1 := hk.size
  simp at hs1
  have HN1 : Hid (IsNode w1 (w.heap.size + 1) w1.heap.size t A1 c1) := Lib.hid (hn.wide (by first | omega | (simp; done) | (simp; omega)) (Nat.le_refl _))
  have HR1 := Lib.hid hr
  have HK1 := Lib.hid ((Kp.refl r (w.alloc (.cells #[.int .i64 0, .int .i64 0, .string ⟨#[]⟩, .int .i64 0, .slice none 0 0] 36))).trans hk)
  clear hn hr hk
  obtain ⟨⟨d0, d1, d2, d3, d4⟩, hfz, hl9, hbf, hfin⟩ := node_box (k := t.k) (a := t.a) (s := t.s) (n := t.n) (l := t.l) (A := A1) (m := t.l.length) (c := c1) HK1.out hrl HR1.out (by first | rfl | simp) (by rw [← RT.eta t]; exact HN1.out)
  rw [← RT.eta t] at hfin
  have HFIN := Lib.hid hfin
  have hbg := hbf
  unfold five at hbg
  have HS0 := Lib.hid (hbg.cell 0)
  have HS1 := Lib.hid (hbg.cell 1)
  have HS2 := Lib.hid (hbg.cell 2)
  have HS3 := Lib.hid (hbg.cell 3)
  have HS4 := Lib.hid (hbg.cell 4)
  clear hbf hbg hfin
  go_wp2_with fail
  refine bodyPost_ret (v := .agg #[.int .i64 (t.k), .int .i64 (t.a), .string (t.s), .int .i64 (t.n), .slice A1 t.l.length c1]) (by simp [results, Tryz.results77, go_sem, HS0.out, HS1.out, HS2.out, HS3.out, HS4.out]) rfl ?_
  obtain ⟨z1, z2, z3⟩ := HFIN.out
  exact ⟨A1, c1, by first | rfl | simp [nodeV, RT.k, RT.a, RT.s, RT.n, RT.l], z1, z2, z3⟩

set_option maxHeartbeats 2000000 in
theorem expr_app {r g : Nat} {L : List Tk} {cap : Nat} {s : St} {t : RT} {s2 : St} (hl : mkB L s.k ⟨#[92]⟩ = false) (hf : fnB L s.k = false) (he : One 115 r g L cap s t s2) (ha : mkB L s2.k ⟨#[45, 62]⟩ = false) : One 77 r g L cap s (t) (s2) := by
  intro w h
  have HR := Lib.hid h
  have hrl := h.bk.lt
  have HTX := Lib.hid (h.toks.txt s.k h.lt)
  have HT1 := Lib.hid (fun V (hV : Rd V r g L cap s) => mark_tells hV ⟨#[92]⟩)
  rw [hl] at HT1
  have HT2 := Lib.hid (fun V (hV : Rd V r g L cap s) => fnNext_tells hV)
  rw [hf] at HT2
  have HE := Lib.hid he
  unfold One TreeR nodeV at HE
  have HT4 := Lib.hid (fun V (hV : Rd V r g L cap s2) => mark_tells hV ⟨#[45, 62]⟩)
  rw [ha] at HT4
  clear hl hf he ha
  clear h
  go_enter Tryz.func77, Tryz.ntmps77
  go_wp2_with fail
  refine (HT1.out _ (HR.out.alloc _)).mono ?_; rintro e w' ⟨rfl, rfl⟩
  go_wp2_with fail
  refine (HT2.out _ (HR.out.alloc _)).mono ?_; rintro e w' ⟨rfl, rfl⟩
  go_wp2_with fail
  refine (HE.out _ (HR.out.alloc _)).mono ?_; rintro e w1 ⟨A1, c1, rfl, hn, hr, hk⟩
  have hs1 := hk.size
  simp at hs1
  have HN1 : Hid (IsNode w1 (w.heap.size + 1) w1.heap.size t A1 c1) := Lib.hid (hn.wide (by first | omega | (simp; done) | (simp; omega)) (Nat.le_refl _))
  have HR1 := Lib.hid hr
  have HK1 := Lib.hid ((Kp.refl r (w.alloc (.cells #[.int .i64 0, .int .i64 0, .string ⟨#[]⟩, .int .i64 0, .slice none 0 0] 36))).trans hk)
  clear hn hr hk
  go_wp2_with fail
  have HN1_b := Lib.hid (IsNode.allocw HN1.out (.cells #[.int .i64 t.k, .int .i64 t.a, .string t.s, .int .i64 t.n, .slice A1 t.l.length c1] 36))
  clear HN1
  have HN1 := HN1_b
  clear HN1_b
  have BX1 : Hid (Bk (w1.alloc (.cells #[.int .i64 t.k, .int .i64 t.a, .string t.s, .int .i64 t.n, .slice A1 t.l.length c1] 36)) w1.heap.size 36 #[.int .i64 t.k, .int .i64 t.a, .string t.s, .int .i64 t.n, .slice A1 t.l.length c1]) := Lib.hid (Bk.new w1 36 #[.int .i64 t.k, .int .i64 t.a, .string t.s, .int .i64 t.n, .slice A1 t.l.length c1])
  refine (HT4.out _ (HR1.out.alloc (.cells #[.int .i64 t.k, .int .i64 t.a, .string t.s, .int .i64 t.n, .slice A1 t.l.length c1] 36))).mono ?_; rintro e w' ⟨rfl, rfl⟩
  obtain ⟨BX1c0, BX1c1, BX1c2, BX1c3, BX1c4⟩ := BX1.out.c5
  have BX1l := BX1.out.lt
  obtain ⟨⟨d0, d1, d2, d3, d4⟩, hfz, hl9, hbf, hfin⟩ := node_box (k := t.k) (a := t.a) (s := t.s) (n := t.n) (l := t.l) (A := A1) (m := t.l.length) (c := c1) (HK1.out.alloc (.cells #[.int .i64 t.k, .int .i64 t.a, .string t.s, .int .i64 t.n, .slice A1 t.l.length c1] 36)) hrl (HR1.out.alloc (.cells #[.int .i64 t.k, .int .i64 t.a, .string t.s, .int .i64 t.n, .slice A1 t.l.length c1] 36)) (by first | rfl | simp) (by rw [← RT.eta t]; exact HN1.out)
  rw [← RT.eta t] at hfin
  have HFIN := Lib.hid hfin
  have hbg := hbf
  unfold five at hbg
  have HS0 := Lib.hid (hbg.cell 0)
  have HS1 := Lib.hid (hbg.cell 1)
  have HS2 := Lib.hid (hbg.cell 2)
  have HS3 := Lib.hid (hbg.cell 3)
  have HS4 := Lib.hid (hbg.cell 4)
  clear hbf hbg hfin
  go_wp2_with fail
  refine bodyPost_ret (v := .agg #[.int .i64 (t.k), .int .i64 (t.a), .string (t.s), .int .i64 (t.n), .slice A1 t.l.length c1]) (by simp [results, Tryz.results77, go_sem, HS0.out, HS1.out, HS2.out, HS3.out, HS4.out]) rfl ?_
  obtain ⟨z1, z2, z3⟩ := HFIN.out
  exact ⟨A1, c1, by first | rfl | simp [nodeV, RT.k, RT.a, RT.s, RT.n, RT.l], z1, z2, z3⟩

end Go.Proofs.YteaojmcfppbgiaaGreatDoor
