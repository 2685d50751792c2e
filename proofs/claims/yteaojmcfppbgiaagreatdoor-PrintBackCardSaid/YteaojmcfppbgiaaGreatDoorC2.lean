/- parse.list over bindings, constructors, rows. The reader alone is written. -/
import Derived.Test.YteaojmcfppbgiaaGreatDoorC1
import Derived.ProofKit
namespace Go.Proofs.YteaojmcfppbgiaaGreatDoor
open Go.RowKit
set_option linter.unusedVariables false
set_option maxRecDepth 100000

def nxOp (L : List Tk) (k : Nat) : Bool := mkB L k ⟨#[40]⟩
def nxIn (L : List Tk) (k : Nat) : Bool := !mkB L k ⟨#[125]⟩

theorem infoBx : (Tryz.prog.info? 98).map (fun i => (i.zero, i.size, i.bytes)) = some (some (.agg #[.string ⟨#[]⟩, .int .i64 0, .int .i64 0, .int .i64 0, .string ⟨#[]⟩, .int .i64 0, .slice none 0 0]), 7, 88) := by kernel_rfl
/-- A row of them, and the reader moved. -/
def ListBR (l : List BT) (r g : Nat) (L : List Tk) (cap : Nat) (s' : St) (w : World) (e : Ending) (w' : World) : Prop :=
  ∃ A c, e = .returned (.slice A l.length c) ∧ l.length ≤ c ∧ c ≤ maxLen ∧ BindsAt w' w.heap.size w'.heap.size A l ∧ Rd w' r g L cap s' ∧ Kp r w w'

theorem infoRx : (Tryz.prog.info? 64).map (fun i => (i.zero, i.size, i.bytes)) = some (some (.agg #[.int .i64 0, .slice none 0 0, .bool false, .int .i64 0, .int .i64 0, .string ⟨#[]⟩, .int .i64 0, .slice none 0 0]), 8, 104) := by kernel_rfl
/-- A row of them, and the reader moved. -/
def ListRR (l : List CT) (r g : Nat) (L : List Tk) (cap : Nat) (s' : St) (w : World) (e : Ending) (w' : World) : Prop :=
  ∃ A c, e = .returned (.slice A l.length c) ∧ l.length ≤ c ∧ c ≤ maxLen ∧ RowsAt w' w.heap.size w'.heap.size A l ∧ Rd w' r g L cap s' ∧ Kp r w w'

set_option maxHeartbeats 4000000 in
theorem list_binds {w : World} {r g : Nat} {L : List Tk} {cap : Nat} {s s' : St} {l : List BT} (h : Rd w r g L cap s) (hc : ChainX L (OneB 132 r g L cap) (nxOp L) 24 0 s l s') :
    Calls Tryz.prog 130 #[.pointer (some ⟨r, 0, none⟩), .int .i64 24, .func (.func 131) #[.pointer (some ⟨r, 0, none⟩)] #[], .func (.func 132) #[.pointer (some ⟨r, 0, none⟩)] #[]] w (ListBR l r g L cap s' w) := by
  obtain ⟨i0, hi0, hz0, hz1, hz2⟩ := info_parts infoBx
  have HR := Lib.hid h
  have HC := Lib.hid hc
  have HM := Lib.hid (chainX_most hc (Nat.zero_le _))
  have hrl := h.bk.lt
  clear h hc
  go_enter Tryz.func130, Tryz.ntmps130
  go_wp2_with fail
  go_loopw [9] (fun v wr => ∃ (pre l2 : List BT) (sx : St) (ps : List (BT × Option Addr × Nat)) (P : Nat → Prop), Hid (l = pre ++ l2) ∧ Hid (ChainX L (OneB 132 r g L cap) (nxOp L) 24 ps.length sx l2 s') ∧ Hid (RowX kdB wr w.heap.size 98 v ps P) ∧ Hid (∀ b, P b → w.heap.size ≤ b) ∧ Hid (ps.map (·.1) = pre) ∧ Hid (Rd wr r g L cap sx) ∧ Hid (Kp r w wr))
    (fun v _ => l.length - vlen v)
  case atStart => exact ⟨[], l, s, [], fun _ => False, Lib.hid rfl, HC, Lib.hid (RowX.nil _ _ _ _), Lib.hid (fun _ h => h.elim), Lib.hid rfl, HR, Lib.hid (Kp.refl r w)⟩
  case round =>
    clear HR HC
    obtain ⟨pre, l2, sx, ps, P, HL, HC, HROW, HPP, HPS, HRD, HKP⟩ := hrel
    obtain ⟨A, c, hv⟩ := own_shapeX HROW.out.row
    subst hv
    have hrz := HKP.out.size
    have HLN : Hid (ps.length + l2.length = l.length) := Lib.hid (by rw [HL.out, List.length_append, ← HPS.out, List.length_map])
    obtain ⟨m, cc, h0, h1, h2, h3, hm, hcc⟩ := HRD.out.sz
    obtain ⟨c0, c1, c2, t0, t1, t2⟩ := HRD.out.cells hm hcc
    have hm0 : (0 : Int) < (m : Int) := by omega
    unfold maxLen at h3
    obtain ⟨k3, hk3⟩ : ∃ x, sx.k * 3 = x := ⟨_, rfl⟩
    rw [hk3] at c0 t0 t1 t2
    clear hm hcc hk3
    have hinv := chainX_inv HC.out
    have HMT : Hid (Calls Tryz.prog 131 #[.pointer (some ⟨r, 0, none⟩)] wr (Tells (nxOp L sx.k) wr)) := Lib.hid (bindNext_tells HRD.out)
    have HOUT : Hid (∀ (W : World) (z : St), Hid (RowX kdB W w.heap.size 98 (.slice A ps.length c) ps P) → l2 = [] → Rd W r g L cap z → z = s' → Kp r w W → ListBR l r g L cap s' w (.returned (.slice A ps.length c)) W) := Lib.hid (by
      rintro W z hrow rfl hrd rfl hk
      have hl : ps.map (·.1) = l := by rw [HPS.out, HL.out, List.append_nil]
      have hn : ps.length = l.length := by rw [← hl, List.length_map]
      have hb := hrow.out.bounds
      exact ⟨A, c, by rw [hn], by rw [← hn]; exact hb.1, hb.2, by rw [← hl]; exact binds_of hrow.out HPP.out, hrd, hk⟩)
    have HI := Lib.hid hinv
    clear hinv
    rcases HI.out with ⟨hx, hy, hz⟩ | ⟨hx1, hx2, hx3, hy, hz⟩ | ⟨hx1, hx2, hx3, t, l', s1, hy, hone, hch⟩
    · have HF := Lib.hid (HOUT.out wr sx HROW hy HRD.out hz HKP.out)
      by_cases he : sx.e = 0
      · have hmf : nxOp L sx.k = false := by
          cases hq : nxOp L sx.k with
          | false => rfl
          | true => exact absurd ⟨he, hq⟩ hx
        rw [hmf] at HMT
        have hb : (sx.e == 0) = true := by simpa using he
        clear hx hy hz HOUT HI HC HL HROW HPP HPS HKP HRD HLN hmf he
        go_wp2_with fail
        refine HMT.out.mono ?_; rintro e w' ⟨rfl, rfl⟩
        go_wp2_with fail
        go_ret
        exact HF.out
      · have hb : (sx.e == 0) = false := by simpa using he
        clear hx hy hz HOUT HI HC HL HROW HPP HPS HKP HRD HLN he HMT
        go_wp2_with fail
        go_ret
        exact HF.out
    · have hb : (sx.e == 0) = true := by simpa using hx1
      rw [hx2] at HMT
      have hfull : ((ps.length : Int) == 24) = true := by rw [hx3]; decide
      obtain ⟨y, hyy⟩ : ∃ x, (tk L sx.k).2.2 = x := ⟨_, rfl⟩
      have HFM := Lib.hid (fail_moves HRD.out (tk L sx.k).2.2 2)
      rw [hz, hyy] at HFM
      rw [hyy] at t2
      have HK2 := Lib.hid (fun (V : World) (hk : Kp r wr V) (hrd : Rd V r g L cap s') => HOUT.out V s' (Lib.hid (HROW.out.kp hk hrl HPP.out)) hy hrd rfl (HKP.out.trans hk))
      clear hx1 hx2 hx3 hy hz HOUT HI HC HL HROW HPP HPS HKP HRD HLN hyy
      go_wp2_with fail
      refine HMT.out.mono ?_; rintro e w' ⟨rfl, rfl⟩
      go_wp2_with fail
      refine HFM.out.mono ?_; rintro e w2 ⟨rfl, hr2, hk2⟩
      have HF := Lib.hid (HK2.out w2 hk2 hr2)
      clear hr2 hk2
      go_wp2_with fail
      go_ret
      exact HF.out
    · have hb : (sx.e == 0) = true := by simpa using hx1
      rw [hx2] at HMT
      have hmost : ps.length ≤ 24 := by have := HLN.out; have := HM.out; omega
      have hfull : ((ps.length : Int) == 24) = false := by simp; omega
      have HONE := Lib.hid (hone wr HRD.out)
      unfold BindR bindV at HONE
      have HLL : Hid (l = (pre ++ [t]) ++ l') := Lib.hid (by rw [HL.out, hy]; simp)
      have HCH := Lib.hid hch
      have HPM := Lib.hid hmost
      have HLT : Hid (ps.length < l.length) := Lib.hid (by have := HLN.out; rw [hy] at this; simp at this; omega)
      clear hx1 hx2 hx3 hy hone hch HOUT HI HC HL HLN hmost
      go_wp2_with fail
      refine HMT.out.mono ?_; rintro e w' ⟨rfl, rfl⟩
      go_wp2_with fail
      refine HONE.out.mono ?_; rintro e w1 ⟨F', C', rfl, hn1, hr1, hk1⟩
      have hsz1 := hk1.size
      have HLT0 := Lib.hid HROW.out.row.lt
      have R1 := (HROW.out.kp hk1 hrl HPP.out).alloc (.cells #[.string t.s, .int .i64 t.a, .int .i64 t.t.k, .int .i64 t.t.a, .string t.t.s, .int .i64 t.t.n, .slice F' t.t.l.length C'] 98)
      have HR1 := Lib.hid R1
      have HN1 : Hid (kdB.inn (w1.alloc (.cells #[.string t.s, .int .i64 t.a, .int .i64 t.t.k, .int .i64 t.t.a, .string t.t.s, .int .i64 t.t.n, .slice F' t.t.l.length C'] 98)) (fun b => wr.heap.size ≤ b ∧ b < w1.heap.size) (t, F', C')) := Lib.hid ⟨wr.heap.size, w1.heap.size, fun b h1 h2 => ⟨h1, h2⟩, hn1.to (fun b o h1 h2 => ((Below.refl w1.heap.size w1).alloc (Nat.le_refl _) _).cell (p := ⟨b, o, none⟩) h2) (fun b h1 h2 => ⟨h1, h2⟩)⟩
      have HRD1 := Lib.hid hr1
      have HK1 := Lib.hid (HKP.out.trans hk1)
      clear R1 hn1 hr1 hk1 HROW HKP HRD
      go_wp2_with (at_builtin; refine wpList_app rfl _ _ 33 rfl w.heap.size 98 i0 (.agg #[.string ⟨#[]⟩, .int .i64 0, .int .i64 0, .int .i64 0, .string ⟨#[]⟩, .int .i64 0, .slice none 0 0]) 7 88 Tryz.underlying33 hi0 hz0 hz1 hz2 rfl (by decide) _ _ _ rfl (show World.ownsRow _ _ _ 7 _ _ _ from HR1.out.row) (some ⟨w1.heap.size, 0, none⟩) 1 1 [.string t.s, .int .i64 t.a, .int .i64 t.t.k, .int .i64 t.t.a, .string t.t.s, .int .i64 t.t.n, .slice F' t.t.l.length C'] rfl (src_at _ _ _ rfl rfl) (by intro u hu; simp at hu; rcases hu with rfl | rfl | rfl | rfl | rfl | rfl | rfl <;> rfl) ?c3 ?c4 ?c5 ?_)
      case c3 => have := HPM.out; unfold maxLen; omega
      case c4 => have := HPM.out; omega
      case c5 => simp; omega
      rintro v2 w3 ⟨hown3, hg3, ho3⟩
      have hsz3 := hg3.size
      simp at hsz3
      have hown0 := HR1.out.row.lt
      have HB3 := Lib.hid ((Below.refl w.heap.size (w1.alloc (.cells #[.string t.s, .int .i64 t.a, .int .i64 t.t.k, .int .i64 t.t.a, .string t.t.s, .int .i64 t.t.n, .slice F' t.t.l.length C'] 98))).grown hg3 (by simp; omega) (fun k hk => (hown0 k hk).1))
      have HRow := Lib.hid (HR1.out.push (Pn := fun b => wr.heap.size ≤ b ∧ b < w1.heap.size) (p := (t, F', C')) HN1.out (fun b hb => ⟨by simp; omega, fun e => by
        have := (HLT0.out b e).2
        omega⟩) hown3 hg3 ho3)
      obtain ⟨a2, c2', hv2⟩ := own_shapeX hown3
      subst hv2
      clear hown3 hg3 ho3 hown0
      go_wp2_with fail
      go_roundw
      case rel =>
        refine ⟨pre ++ [t], l', s1, ps ++ [(t, F', C')], fun b => P b ∨ (wr.heap.size ≤ b ∧ b < w1.heap.size), HLL, Lib.hid (by rw [List.length_append]; exact HCH.out), HRow, Lib.hid ?_, Lib.hid (by rw [List.map_append, HPS.out]; rfl), Lib.hid ((HRD1.out.alloc _).under HB3.out hrl), Lib.hid ((HK1.out.alloc _).next HB3.out)⟩
        intro b hb
        rcases hb with hb | hb
        · exact HPP.out b hb
        · omega
      case measure =>
        have := HLT.out
        simp [vlen]; omega

set_option maxHeartbeats 4000000 in
theorem list_cons {w : World} {r g : Nat} {L : List Tk} {cap : Nat} {s s' : St} {l : List BT} (h : Rd w r g L cap s) (hc : ChainX L (OneB 137 r g L cap) (nxIn L) 16 0 s l s') :
    Calls Tryz.prog 130 #[.pointer (some ⟨r, 0, none⟩), .int .i64 16, .func (.func 135) #[.pointer (some ⟨r, 0, none⟩)] #[], .func (.func 137) #[.pointer (some ⟨r, 0, none⟩)] #[]] w (ListBR l r g L cap s' w) := by
  obtain ⟨i0, hi0, hz0, hz1, hz2⟩ := info_parts infoBx
  have HR := Lib.hid h
  have HC := Lib.hid hc
  have HM := Lib.hid (chainX_most hc (Nat.zero_le _))
  have hrl := h.bk.lt
  clear h hc
  go_enter Tryz.func130, Tryz.ntmps130
  go_wp2_with fail
  go_loopw [9] (fun v wr => ∃ (pre l2 : List BT) (sx : St) (ps : List (BT × Option Addr × Nat)) (P : Nat → Prop), Hid (l = pre ++ l2) ∧ Hid (ChainX L (OneB 137 r g L cap) (nxIn L) 16 ps.length sx l2 s') ∧ Hid (RowX kdB wr w.heap.size 98 v ps P) ∧ Hid (∀ b, P b → w.heap.size ≤ b) ∧ Hid (ps.map (·.1) = pre) ∧ Hid (Rd wr r g L cap sx) ∧ Hid (Kp r w wr))
    (fun v _ => l.length - vlen v)
  case atStart => exact ⟨[], l, s, [], fun _ => False, Lib.hid rfl, HC, Lib.hid (RowX.nil _ _ _ _), Lib.hid (fun _ h => h.elim), Lib.hid rfl, HR, Lib.hid (Kp.refl r w)⟩
  case round =>
    clear HR HC
    obtain ⟨pre, l2, sx, ps, P, HL, HC, HROW, HPP, HPS, HRD, HKP⟩ := hrel
    obtain ⟨A, c, hv⟩ := own_shapeX HROW.out.row
    subst hv
    have hrz := HKP.out.size
    have HLN : Hid (ps.length + l2.length = l.length) := Lib.hid (by rw [HL.out, List.length_append, ← HPS.out, List.length_map])
    obtain ⟨m, cc, h0, h1, h2, h3, hm, hcc⟩ := HRD.out.sz
    obtain ⟨c0, c1, c2, t0, t1, t2⟩ := HRD.out.cells hm hcc
    have hm0 : (0 : Int) < (m : Int) := by omega
    unfold maxLen at h3
    obtain ⟨k3, hk3⟩ : ∃ x, sx.k * 3 = x := ⟨_, rfl⟩
    rw [hk3] at c0 t0 t1 t2
    clear hm hcc hk3
    have hinv := chainX_inv HC.out
    have HMT : Hid (Calls Tryz.prog 135 #[.pointer (some ⟨r, 0, none⟩)] wr (Tells (nxIn L sx.k) wr)) := Lib.hid (inBody_tells HRD.out)
    have HOUT : Hid (∀ (W : World) (z : St), Hid (RowX kdB W w.heap.size 98 (.slice A ps.length c) ps P) → l2 = [] → Rd W r g L cap z → z = s' → Kp r w W → ListBR l r g L cap s' w (.returned (.slice A ps.length c)) W) := Lib.hid (by
      rintro W z hrow rfl hrd rfl hk
      have hl : ps.map (·.1) = l := by rw [HPS.out, HL.out, List.append_nil]
      have hn : ps.length = l.length := by rw [← hl, List.length_map]
      have hb := hrow.out.bounds
      exact ⟨A, c, by rw [hn], by rw [← hn]; exact hb.1, hb.2, by rw [← hl]; exact binds_of hrow.out HPP.out, hrd, hk⟩)
    have HI := Lib.hid hinv
    clear hinv
    rcases HI.out with ⟨hx, hy, hz⟩ | ⟨hx1, hx2, hx3, hy, hz⟩ | ⟨hx1, hx2, hx3, t, l', s1, hy, hone, hch⟩
    · have HF := Lib.hid (HOUT.out wr sx HROW hy HRD.out hz HKP.out)
      by_cases he : sx.e = 0
      · have hmf : nxIn L sx.k = false := by
          cases hq : nxIn L sx.k with
          | false => rfl
          | true => exact absurd ⟨he, hq⟩ hx
        rw [hmf] at HMT
        have hb : (sx.e == 0) = true := by simpa using he
        clear hx hy hz HOUT HI HC HL HROW HPP HPS HKP HRD HLN hmf he
        go_wp2_with fail
        refine HMT.out.mono ?_; rintro e w' ⟨rfl, rfl⟩
        go_wp2_with fail
        go_ret
        exact HF.out
      · have hb : (sx.e == 0) = false := by simpa using he
        clear hx hy hz HOUT HI HC HL HROW HPP HPS HKP HRD HLN he HMT
        go_wp2_with fail
        go_ret
        exact HF.out
    · have hb : (sx.e == 0) = true := by simpa using hx1
      rw [hx2] at HMT
      have hfull : ((ps.length : Int) == 16) = true := by rw [hx3]; decide
      obtain ⟨y, hyy⟩ : ∃ x, (tk L sx.k).2.2 = x := ⟨_, rfl⟩
      have HFM := Lib.hid (fail_moves HRD.out (tk L sx.k).2.2 2)
      rw [hz, hyy] at HFM
      rw [hyy] at t2
      have HK2 := Lib.hid (fun (V : World) (hk : Kp r wr V) (hrd : Rd V r g L cap s') => HOUT.out V s' (Lib.hid (HROW.out.kp hk hrl HPP.out)) hy hrd rfl (HKP.out.trans hk))
      clear hx1 hx2 hx3 hy hz HOUT HI HC HL HROW HPP HPS HKP HRD HLN hyy
      go_wp2_with fail
      refine HMT.out.mono ?_; rintro e w' ⟨rfl, rfl⟩
      go_wp2_with fail
      refine HFM.out.mono ?_; rintro e w2 ⟨rfl, hr2, hk2⟩
      have HF := Lib.hid (HK2.out w2 hk2 hr2)
      clear hr2 hk2
      go_wp2_with fail
      go_ret
      exact HF.out
    · have hb : (sx.e == 0) = true := by simpa using hx1
      rw [hx2] at HMT
      have hmost : ps.length ≤ 16 := by have := HLN.out; have := HM.out; omega
      have hfull : ((ps.length : Int) == 16) = false := by simp; omega
      have HONE := Lib.hid (hone wr HRD.out)
      unfold BindR bindV at HONE
      have HLL : Hid (l = (pre ++ [t]) ++ l') := Lib.hid (by rw [HL.out, hy]; simp)
      have HCH := Lib.hid hch
      have HPM := Lib.hid hmost
      have HLT : Hid (ps.length < l.length) := Lib.hid (by have := HLN.out; rw [hy] at this; simp at this; omega)
      clear hx1 hx2 hx3 hy hone hch HOUT HI HC HL HLN hmost
      go_wp2_with fail
      refine HMT.out.mono ?_; rintro e w' ⟨rfl, rfl⟩
      go_wp2_with fail
      refine HONE.out.mono ?_; rintro e w1 ⟨F', C', rfl, hn1, hr1, hk1⟩
      have hsz1 := hk1.size
      have HLT0 := Lib.hid HROW.out.row.lt
      have R1 := (HROW.out.kp hk1 hrl HPP.out).alloc (.cells #[.string t.s, .int .i64 t.a, .int .i64 t.t.k, .int .i64 t.t.a, .string t.t.s, .int .i64 t.t.n, .slice F' t.t.l.length C'] 98)
      have HR1 := Lib.hid R1
      have HN1 : Hid (kdB.inn (w1.alloc (.cells #[.string t.s, .int .i64 t.a, .int .i64 t.t.k, .int .i64 t.t.a, .string t.t.s, .int .i64 t.t.n, .slice F' t.t.l.length C'] 98)) (fun b => wr.heap.size ≤ b ∧ b < w1.heap.size) (t, F', C')) := Lib.hid ⟨wr.heap.size, w1.heap.size, fun b h1 h2 => ⟨h1, h2⟩, hn1.to (fun b o h1 h2 => ((Below.refl w1.heap.size w1).alloc (Nat.le_refl _) _).cell (p := ⟨b, o, none⟩) h2) (fun b h1 h2 => ⟨h1, h2⟩)⟩
      have HRD1 := Lib.hid hr1
      have HK1 := Lib.hid (HKP.out.trans hk1)
      clear R1 hn1 hr1 hk1 HROW HKP HRD
      go_wp2_with (at_builtin; refine wpList_app rfl _ _ 33 rfl w.heap.size 98 i0 (.agg #[.string ⟨#[]⟩, .int .i64 0, .int .i64 0, .int .i64 0, .string ⟨#[]⟩, .int .i64 0, .slice none 0 0]) 7 88 Tryz.underlying33 hi0 hz0 hz1 hz2 rfl (by decide) _ _ _ rfl (show World.ownsRow _ _ _ 7 _ _ _ from HR1.out.row) (some ⟨w1.heap.size, 0, none⟩) 1 1 [.string t.s, .int .i64 t.a, .int .i64 t.t.k, .int .i64 t.t.a, .string t.t.s, .int .i64 t.t.n, .slice F' t.t.l.length C'] rfl (src_at _ _ _ rfl rfl) (by intro u hu; simp at hu; rcases hu with rfl | rfl | rfl | rfl | rfl | rfl | rfl <;> rfl) ?c3 ?c4 ?c5 ?_)
      case c3 => have := HPM.out; unfold maxLen; omega
      case c4 => have := HPM.out; omega
      case c5 => simp; omega
      rintro v2 w3 ⟨hown3, hg3, ho3⟩
      have hsz3 := hg3.size
      simp at hsz3
      have hown0 := HR1.out.row.lt
      have HB3 := Lib.hid ((Below.refl w.heap.size (w1.alloc (.cells #[.string t.s, .int .i64 t.a, .int .i64 t.t.k, .int .i64 t.t.a, .string t.t.s, .int .i64 t.t.n, .slice F' t.t.l.length C'] 98))).grown hg3 (by simp; omega) (fun k hk => (hown0 k hk).1))
      have HRow := Lib.hid (HR1.out.push (Pn := fun b => wr.heap.size ≤ b ∧ b < w1.heap.size) (p := (t, F', C')) HN1.out (fun b hb => ⟨by simp; omega, fun e => by
        have := (HLT0.out b e).2
        omega⟩) hown3 hg3 ho3)
      obtain ⟨a2, c2', hv2⟩ := own_shapeX hown3
      subst hv2
      clear hown3 hg3 ho3 hown0
      go_wp2_with fail
      go_roundw
      case rel =>
        refine ⟨pre ++ [t], l', s1, ps ++ [(t, F', C')], fun b => P b ∨ (wr.heap.size ≤ b ∧ b < w1.heap.size), HLL, Lib.hid (by rw [List.length_append]; exact HCH.out), HRow, Lib.hid ?_, Lib.hid (by rw [List.map_append, HPS.out]; rfl), Lib.hid ((HRD1.out.alloc _).under HB3.out hrl), Lib.hid ((HK1.out.alloc _).next HB3.out)⟩
        intro b hb
        rcases hb with hb | hb
        · exact HPP.out b hb
        · omega
      case measure =>
        have := HLT.out
        simp [vlen]; omega

set_option maxHeartbeats 4000000 in
theorem list_rows {w : World} {r g : Nat} {L : List Tk} {cap : Nat} {s s' : St} {l : List CT} (h : Rd w r g L cap s) (hc : ChainX L (OneR 136 r g L cap) (nxIn L) 32 0 s l s') :
    Calls Tryz.prog 134 #[.pointer (some ⟨r, 0, none⟩), .int .i64 32, .func (.func 135) #[.pointer (some ⟨r, 0, none⟩)] #[], .func (.func 136) #[.pointer (some ⟨r, 0, none⟩)] #[]] w (ListRR l r g L cap s' w) := by
  obtain ⟨i0, hi0, hz0, hz1, hz2⟩ := info_parts infoRx
  have HR := Lib.hid h
  have HC := Lib.hid hc
  have HM := Lib.hid (chainX_most hc (Nat.zero_le _))
  have hrl := h.bk.lt
  clear h hc
  go_enter Tryz.func134, Tryz.ntmps134
  go_wp2_with fail
  go_loopw [9] (fun v wr => ∃ (pre l2 : List CT) (sx : St) (ps : List (CT × (Option Addr × Nat) × Option Addr × Nat)) (P : Nat → Prop), Hid (l = pre ++ l2) ∧ Hid (ChainX L (OneR 136 r g L cap) (nxIn L) 32 ps.length sx l2 s') ∧ Hid (RowX kdR wr w.heap.size 64 v ps P) ∧ Hid (∀ b, P b → w.heap.size ≤ b) ∧ Hid (ps.map (·.1) = pre) ∧ Hid (Rd wr r g L cap sx) ∧ Hid (Kp r w wr))
    (fun v _ => l.length - vlen v)
  case atStart => exact ⟨[], l, s, [], fun _ => False, Lib.hid rfl, HC, Lib.hid (RowX.nil _ _ _ _), Lib.hid (fun _ h => h.elim), Lib.hid rfl, HR, Lib.hid (Kp.refl r w)⟩
  case round =>
    clear HR HC
    obtain ⟨pre, l2, sx, ps, P, HL, HC, HROW, HPP, HPS, HRD, HKP⟩ := hrel
    obtain ⟨A, c, hv⟩ := own_shapeX HROW.out.row
    subst hv
    have hrz := HKP.out.size
    have HLN : Hid (ps.length + l2.length = l.length) := Lib.hid (by rw [HL.out, List.length_append, ← HPS.out, List.length_map])
    obtain ⟨m, cc, h0, h1, h2, h3, hm, hcc⟩ := HRD.out.sz
    obtain ⟨c0, c1, c2, t0, t1, t2⟩ := HRD.out.cells hm hcc
    have hm0 : (0 : Int) < (m : Int) := by omega
    unfold maxLen at h3
    obtain ⟨k3, hk3⟩ : ∃ x, sx.k * 3 = x := ⟨_, rfl⟩
    rw [hk3] at c0 t0 t1 t2
    clear hm hcc hk3
    have hinv := chainX_inv HC.out
    have HMT : Hid (Calls Tryz.prog 135 #[.pointer (some ⟨r, 0, none⟩)] wr (Tells (nxIn L sx.k) wr)) := Lib.hid (inBody_tells HRD.out)
    have HOUT : Hid (∀ (W : World) (z : St), Hid (RowX kdR W w.heap.size 64 (.slice A ps.length c) ps P) → l2 = [] → Rd W r g L cap z → z = s' → Kp r w W → ListRR l r g L cap s' w (.returned (.slice A ps.length c)) W) := Lib.hid (by
      rintro W z hrow rfl hrd rfl hk
      have hl : ps.map (·.1) = l := by rw [HPS.out, HL.out, List.append_nil]
      have hn : ps.length = l.length := by rw [← hl, List.length_map]
      have hb := hrow.out.bounds
      exact ⟨A, c, by rw [hn], by rw [← hn]; exact hb.1, hb.2, by rw [← hl]; exact rows_of hrow.out HPP.out, hrd, hk⟩)
    have HI := Lib.hid hinv
    clear hinv
    rcases HI.out with ⟨hx, hy, hz⟩ | ⟨hx1, hx2, hx3, hy, hz⟩ | ⟨hx1, hx2, hx3, t, l', s1, hy, hone, hch⟩
    · have HF := Lib.hid (HOUT.out wr sx HROW hy HRD.out hz HKP.out)
      by_cases he : sx.e = 0
      · have hmf : nxIn L sx.k = false := by
          cases hq : nxIn L sx.k with
          | false => rfl
          | true => exact absurd ⟨he, hq⟩ hx
        rw [hmf] at HMT
        have hb : (sx.e == 0) = true := by simpa using he
        clear hx hy hz HOUT HI HC HL HROW HPP HPS HKP HRD HLN hmf he
        go_wp2_with fail
        refine HMT.out.mono ?_; rintro e w' ⟨rfl, rfl⟩
        go_wp2_with fail
        go_ret
        exact HF.out
      · have hb : (sx.e == 0) = false := by simpa using he
        clear hx hy hz HOUT HI HC HL HROW HPP HPS HKP HRD HLN he HMT
        go_wp2_with fail
        go_ret
        exact HF.out
    · have hb : (sx.e == 0) = true := by simpa using hx1
      rw [hx2] at HMT
      have hfull : ((ps.length : Int) == 32) = true := by rw [hx3]; decide
      obtain ⟨y, hyy⟩ : ∃ x, (tk L sx.k).2.2 = x := ⟨_, rfl⟩
      have HFM := Lib.hid (fail_moves HRD.out (tk L sx.k).2.2 2)
      rw [hz, hyy] at HFM
      rw [hyy] at t2
      have HK2 := Lib.hid (fun (V : World) (hk : Kp r wr V) (hrd : Rd V r g L cap s') => HOUT.out V s' (Lib.hid (HROW.out.kp hk hrl HPP.out)) hy hrd rfl (HKP.out.trans hk))
      clear hx1 hx2 hx3 hy hz HOUT HI HC HL HROW HPP HPS HKP HRD HLN hyy
      go_wp2_with fail
      refine HMT.out.mono ?_; rintro e w' ⟨rfl, rfl⟩
      go_wp2_with fail
      refine HFM.out.mono ?_; rintro e w2 ⟨rfl, hr2, hk2⟩
      have HF := Lib.hid (HK2.out w2 hk2 hr2)
      clear hr2 hk2
      go_wp2_with fail
      go_ret
      exact HF.out
    · have hb : (sx.e == 0) = true := by simpa using hx1
      rw [hx2] at HMT
      have hmost : ps.length ≤ 32 := by have := HLN.out; have := HM.out; omega
      have hfull : ((ps.length : Int) == 32) = false := by simp; omega
      have HONE := Lib.hid (hone wr HRD.out)
      unfold RowR rowV at HONE
      have HLL : Hid (l = (pre ++ [t]) ++ l') := Lib.hid (by rw [HL.out, hy]; simp)
      have HCH := Lib.hid hch
      have HPM := Lib.hid hmost
      have HLT : Hid (ps.length < l.length) := Lib.hid (by have := HLN.out; rw [hy] at this; simp at this; omega)
      clear hx1 hx2 hx3 hy hone hch HOUT HI HC HL HLN hmost
      go_wp2_with fail
      refine HMT.out.mono ?_; rintro e w' ⟨rfl, rfl⟩
      go_wp2_with fail
      refine HONE.out.mono ?_; rintro e w1 ⟨A', c', F', C', rfl, hn1, hr1, hk1⟩
      have hsz1 := hk1.size
      have HLT0 := Lib.hid HROW.out.row.lt
      have R1 := (HROW.out.kp hk1 hrl HPP.out).alloc (.cells #[.int .i64 t.a, .slice A' t.ps.length c', .bool t.h, .int .i64 t.t.k, .int .i64 t.t.a, .string t.t.s, .int .i64 t.t.n, .slice F' t.t.l.length C'] 64)
      have HR1 := Lib.hid R1
      have HN1 : Hid (kdR.inn (w1.alloc (.cells #[.int .i64 t.a, .slice A' t.ps.length c', .bool t.h, .int .i64 t.t.k, .int .i64 t.t.a, .string t.t.s, .int .i64 t.t.n, .slice F' t.t.l.length C'] 64)) (fun b => wr.heap.size ≤ b ∧ b < w1.heap.size) (t, (A', c'), F', C')) := Lib.hid ⟨wr.heap.size, w1.heap.size, fun b h1 h2 => ⟨h1, h2⟩, hn1.to (fun b o h1 h2 => ((Below.refl w1.heap.size w1).alloc (Nat.le_refl _) _).cell (p := ⟨b, o, none⟩) h2) (fun b h1 h2 => ⟨h1, h2⟩)⟩
      have HRD1 := Lib.hid hr1
      have HK1 := Lib.hid (HKP.out.trans hk1)
      clear R1 hn1 hr1 hk1 HROW HKP HRD
      go_wp2_with (at_builtin; refine wpList_app rfl _ _ 37 rfl w.heap.size 64 i0 (.agg #[.int .i64 0, .slice none 0 0, .bool false, .int .i64 0, .int .i64 0, .string ⟨#[]⟩, .int .i64 0, .slice none 0 0]) 8 104 Tryz.underlying37 hi0 hz0 hz1 hz2 rfl (by decide) _ _ _ rfl (show World.ownsRow _ _ _ 8 _ _ _ from HR1.out.row) (some ⟨w1.heap.size, 0, none⟩) 1 1 [.int .i64 t.a, .slice A' t.ps.length c', .bool t.h, .int .i64 t.t.k, .int .i64 t.t.a, .string t.t.s, .int .i64 t.t.n, .slice F' t.t.l.length C'] rfl (src_at _ _ _ rfl rfl) (by intro u hu; simp at hu; rcases hu with rfl | rfl | rfl | rfl | rfl | rfl | rfl | rfl <;> rfl) ?c3 ?c4 ?c5 ?_)
      case c3 => have := HPM.out; unfold maxLen; omega
      case c4 => have := HPM.out; omega
      case c5 => simp; omega
      rintro v2 w3 ⟨hown3, hg3, ho3⟩
      have hsz3 := hg3.size
      simp at hsz3
      have hown0 := HR1.out.row.lt
      have HB3 := Lib.hid ((Below.refl w.heap.size (w1.alloc (.cells #[.int .i64 t.a, .slice A' t.ps.length c', .bool t.h, .int .i64 t.t.k, .int .i64 t.t.a, .string t.t.s, .int .i64 t.t.n, .slice F' t.t.l.length C'] 64))).grown hg3 (by simp; omega) (fun k hk => (hown0 k hk).1))
      have HRow := Lib.hid (HR1.out.push (Pn := fun b => wr.heap.size ≤ b ∧ b < w1.heap.size) (p := (t, (A', c'), F', C')) HN1.out (fun b hb => ⟨by simp; omega, fun e => by
        have := (HLT0.out b e).2
        omega⟩) hown3 hg3 ho3)
      obtain ⟨a2, c2', hv2⟩ := own_shapeX hown3
      subst hv2
      clear hown3 hg3 ho3 hown0
      go_wp2_with fail
      go_roundw
      case rel =>
        refine ⟨pre ++ [t], l', s1, ps ++ [(t, (A', c'), F', C')], fun b => P b ∨ (wr.heap.size ≤ b ∧ b < w1.heap.size), HLL, Lib.hid (by rw [List.length_append]; exact HCH.out), HRow, Lib.hid ?_, Lib.hid (by rw [List.map_append, HPS.out]; rfl), Lib.hid ((HRD1.out.alloc _).under HB3.out hrl), Lib.hid ((HK1.out.alloc _).next HB3.out)⟩
        intro b hb
        rcases hb with hb | hb
        · exact HPP.out b hb
        · omega
      case measure =>
        have := HLT.out
        simp [vlen]; omega

end Go.Proofs.YteaojmcfppbgiaaGreatDoor

/- parse: which declaration begins; a declaration. -/
namespace Go.Proofs.YteaojmcfppbgiaaGreatDoor
open Go.RowKit
set_option linter.unusedVariables false
set_option maxRecDepth 100000

theorem Bk.c11 {w : World} {g : Nat} {e : TypeId} {c0 c1 c2 c3 c4 c5 c6 c7 c8 c9 c10 : Value} (h : Bk w g e #[c0, c1, c2, c3, c4, c5, c6, c7, c8, c9, c10]) :
    w.cell? ⟨g, 0, none⟩ = some c0 ∧ w.cell? ⟨g, 1, none⟩ = some c1 ∧ w.cell? ⟨g, 2, none⟩ = some c2 ∧ w.cell? ⟨g, 3, none⟩ = some c3 ∧ w.cell? ⟨g, 4, none⟩ = some c4 ∧ w.cell? ⟨g, 5, none⟩ = some c5 ∧ w.cell? ⟨g, 6, none⟩ = some c6 ∧ w.cell? ⟨g, 7, none⟩ = some c7 ∧ w.cell? ⟨g, 8, none⟩ = some c8 ∧ w.cell? ⟨g, 9, none⟩ = some c9 ∧ w.cell? ⟨g, 10, none⟩ = some c10 :=
  ⟨h.cell 0, h.cell 1, h.cell 2, h.cell 3, h.cell 4, h.cell 5, h.cell 6, h.cell 7, h.cell 8, h.cell 9, h.cell 10⟩
def dataT : ByteArray := ⟨#[100, 97, 116, 97]⟩
def recordT : ByteArray := ⟨#[114, 101, 99, 111, 114, 100]⟩
def defT : ByteArray := ⟨#[100, 101, 102]⟩
/-- Which declaration begins, and how the reader moves. -/
def KindR (L : List Tk) (s : St) (v : Int) (s' : St) : Prop :=
  (kyB L s.k dataT = true ∧ v = 1 ∧ s = s') ∨ (kyB L s.k dataT = false ∧ kyB L s.k recordT = true ∧ v = 2 ∧ s = s') ∨
  (kyB L s.k dataT = false ∧ kyB L s.k recordT = false ∧ kyB L s.k defT = true ∧ v = 3 ∧ s = s') ∨
  (kyB L s.k dataT = false ∧ kyB L s.k recordT = false ∧ kyB L s.k defT = false ∧ v = 0 ∧ badS L s = s')
set_option maxHeartbeats 2000000 in
theorem declKind_moves {w : World} {r g : Nat} {L : List Tk} {cap : Nat} {s s' : St} {v : Int} (h : Rd w r g L cap s) (hv : KindR L s v s') :
    Calls Tryz.prog 128 #[.pointer (some ⟨r, 0, none⟩)] w (Moves (.int .i64 v) r g L cap s' w) := by
  have HR := Lib.hid h
  have H1 := Lib.hid (key_tells h dataT)
  have H2 := Lib.hid (key_tells h recordT)
  have H3 := Lib.hid (key_tells h defT)
  have H4 := Lib.hid (bad_moves h)
  unfold dataT at H1
  unfold recordT at H2
  unfold defT at H3
  rcases hv with ⟨h1, rfl, rfl⟩ | ⟨h1, h2, rfl, rfl⟩ | ⟨h1, h2, h3, rfl, rfl⟩ | ⟨h1, h2, h3, rfl, rfl⟩
  · rw [show kyB L s.k ⟨#[100, 97, 116, 97]⟩ = _ from h1] at H1
    clear h h1
    go_enter Tryz.func128, Tryz.ntmps128
    go_wp2_with fail
    refine H1.out.mono ?_; rintro e w' ⟨rfl, rfl⟩
    go_wp2_with fail
    go_ret
    exact ⟨rfl, HR.out, Kp.refl _ _⟩
  · rw [show kyB L s.k ⟨#[100, 97, 116, 97]⟩ = _ from h1] at H1
    rw [show kyB L s.k ⟨#[114, 101, 99, 111, 114, 100]⟩ = _ from h2] at H2
    clear h h1 h2
    go_enter Tryz.func128, Tryz.ntmps128
    go_wp2_with fail
    refine H1.out.mono ?_; rintro e w' ⟨rfl, rfl⟩
    go_wp2_with fail
    refine H2.out.mono ?_; rintro e w' ⟨rfl, rfl⟩
    go_wp2_with fail
    go_ret
    exact ⟨rfl, HR.out, Kp.refl _ _⟩
  · rw [show kyB L s.k ⟨#[100, 97, 116, 97]⟩ = _ from h1] at H1
    rw [show kyB L s.k ⟨#[114, 101, 99, 111, 114, 100]⟩ = _ from h2] at H2
    rw [show kyB L s.k ⟨#[100, 101, 102]⟩ = _ from h3] at H3
    clear h h1 h2 h3
    go_enter Tryz.func128, Tryz.ntmps128
    go_wp2_with fail
    refine H1.out.mono ?_; rintro e w' ⟨rfl, rfl⟩
    go_wp2_with fail
    refine H2.out.mono ?_; rintro e w' ⟨rfl, rfl⟩
    go_wp2_with fail
    refine H3.out.mono ?_; rintro e w' ⟨rfl, rfl⟩
    go_wp2_with fail
    go_ret
    exact ⟨rfl, HR.out, Kp.refl _ _⟩
  · rw [show kyB L s.k ⟨#[100, 97, 116, 97]⟩ = _ from h1] at H1
    rw [show kyB L s.k ⟨#[114, 101, 99, 111, 114, 100]⟩ = _ from h2] at H2
    rw [show kyB L s.k ⟨#[100, 101, 102]⟩ = _ from h3] at H3
    clear h h1 h2 h3
    go_enter Tryz.func128, Tryz.ntmps128
    go_wp2_with fail
    refine H1.out.mono ?_; rintro e w' ⟨rfl, rfl⟩
    go_wp2_with fail
    refine H2.out.mono ?_; rintro e w' ⟨rfl, rfl⟩
    go_wp2_with fail
    refine H3.out.mono ?_; rintro e w' ⟨rfl, rfl⟩
    go_wp2_with fail
    refine H4.out.mono ?_; rintro e w1 ⟨rfl, hr, hk⟩
    have HRR := Lib.hid hr
    have HKK := Lib.hid hk
    clear hr hk
    go_wp2_with fail
    go_ret
    exact ⟨rfl, HRR.out, HKK.out⟩

/-- A declaration, and the reader moved. -/
def DeclR (x : DT) (r g : Nat) (L : List Tk) (cap : Nat) (s' : St) (w : World) (e : Ending) (w' : World) : Prop :=
  ∃ p, e = .returned (declV x p) ∧ IsDecl w' w.heap.size w'.heap.size x p ∧ Rd w' r g L cap s' ∧ Kp r w w'
def OneD (fn : Nat) (r g : Nat) (L : List Tk) (cap : Nat) (s : St) (x : DT) (s' : St) : Prop := ∀ w, Rd w r g L cap s → Calls Tryz.prog fn #[.pointer (some ⟨r, 0, none⟩)] w (DeclR x r g L cap s' w)

set_option maxHeartbeats 16000000 in
theorem decl_data {r g : Nat} {L : List Tk} {cap : Nat} {s s1 s2 s3 s4 s5 s6 s7 s8 s9 : St} {v : Int} {z : Nat} {te co : List BT} {t : RT} {ro : List CT} (hk : KindR L s v s1) (hs2 : stepS L s1 = s2) (hz : (nameS L s2).k = z) (hs3 : stepS L (nameS L s2) = s3) (ht : ChainX L (OneB 132 r g L cap) (nxOp L) 24 0 s3 te s4) (h5 : takeS L ⟨#[58]⟩ s4 = s5) (he : One 38 r g L cap s5 t s6) (h7 : takeS L ⟨#[123]⟩ s6 = s7) (hl : ChainX L (OneB 137 r g L cap) (nxIn L) 16 0 s7 co s8) (h9 : takeS L ⟨#[125]⟩ s8 = s9) (hv : v ≠ 3) : OneD 87 r g L cap s ⟨v, (tk L s1.k).2.2, (tk L z).2.1, te, t, co, []⟩ s9 := by
  intro w h
  have HR := Lib.hid h
  have hrl := h.bk.lt
  have HTX := Lib.hid (h.txt z)
  have H1 := Lib.hid (fun V (hV : Rd V r g L cap s) => declKind_moves hV hk)
  have H2 := Lib.hid (fun V (hV : Rd V r g L cap s1) => step_moves hV)
  have H3 := Lib.hid (fun V (hV : Rd V r g L cap s2) => takeName_moves hV)
  rw [hs2] at H2
  rw [hz, hs3] at H3
  unfold tkV at H2 H3
  obtain ⟨q, hq⟩ : ∃ q, s1.k = q := ⟨_, rfl⟩
  rw [hq] at H2 ⊢
  have H4 := Lib.hid (fun V (hV : Rd V r g L cap s3) => list_binds hV ht)
  unfold ListBR at H4
  have H5 := Lib.hid (fun V (hV : Rd V r g L cap s4) => take_moves hV ⟨#[58]⟩)
  rw [h5] at H5
  have H6 := Lib.hid he
  unfold One TreeR nodeV at H6
  have H7 := Lib.hid (fun V (hV : Rd V r g L cap s6) => take_moves hV ⟨#[123]⟩)
  rw [h7] at H7
  have H8 := Lib.hid (fun V (hV : Rd V r g L cap s7) => list_cons hV hl)
  unfold ListBR at H8
  have H9 := Lib.hid (fun V (hV : Rd V r g L cap s8) => take_moves hV ⟨#[125]⟩)
  rw [h9] at H9
  have hv1 : (v != 3) = true := by simpa using hv
  have hv2 : (v == 3) = false := by simpa using hv
  unfold DeclR
  clear h hk hs2 hz hs3 ht h5 he h7 hl h9 hq hv
  go_enter Tryz.func87, Tryz.ntmps87
  go_wp2_with fail
  refine (H1.out _ (HR.out.alloc (.cells #[.int .i64 0, .int .i64 0, .string ⟨#[]⟩, .slice none 0 0, .int .i64 0, .int .i64 0, .string ⟨#[]⟩, .int .i64 0, .slice none 0 0, .slice none 0 0, .slice none 0 0] 39))).mono ?_; rintro e w1 ⟨rfl, hr, hk⟩
  have hs1 := hk.size
  simp at hs1
  have HR1 := Lib.hid hr
  have HZ1 := Lib.hid hk
  clear hr hk
  go_wp2_with fail
  refine (H2.out _ HR1.out).mono ?_; rintro e w2 ⟨rfl, hr, hk⟩
  have hs2 := hk.size
  have HR2 := Lib.hid hr
  have HZ2 := Lib.hid (HZ1.out.trans hk)
  clear hr hk
  go_wp2_with fail
  refine (H3.out _ HR2.out).mono ?_; rintro e w3 ⟨rfl, hr, hk⟩
  have hs3 := hk.size
  have HR3a := Lib.hid hr
  have HZ3a := Lib.hid (HZ2.out.trans hk)
  have hB0 : w.heap.size < w3.heap.size := by omega
  clear hr hk
  have BXa : Hid (Bk (w3.alloc (.cells #[.int .i64 v, .int .i64 (tk L q).2.2, .string (tk L z).2.1, .slice none 0 0, .int .i64 0, .int .i64 0, .string ⟨#[]⟩, .int .i64 0, .slice none 0 0, .slice none 0 0, .slice none 0 0] 39)) w3.heap.size 39 #[.int .i64 v, .int .i64 (tk L q).2.2, .string (tk L z).2.1, .slice none 0 0, .int .i64 0, .int .i64 0, .string ⟨#[]⟩, .int .i64 0, .slice none 0 0, .slice none 0 0, .slice none 0 0]) := Lib.hid (Bk.new w3 39 #[.int .i64 v, .int .i64 (tk L q).2.2, .string (tk L z).2.1, .slice none 0 0, .int .i64 0, .int .i64 0, .string ⟨#[]⟩, .int .i64 0, .slice none 0 0, .slice none 0 0, .slice none 0 0])
  have HRa := Lib.hid (HR3a.out.alloc (.cells #[.int .i64 v, .int .i64 (tk L q).2.2, .string (tk L z).2.1, .slice none 0 0, .int .i64 0, .int .i64 0, .string ⟨#[]⟩, .int .i64 0, .slice none 0 0, .slice none 0 0, .slice none 0 0] 39))
  have HZa := Lib.hid (HZ3a.out.alloc (.cells #[.int .i64 v, .int .i64 (tk L q).2.2, .string (tk L z).2.1, .slice none 0 0, .int .i64 0, .int .i64 0, .string ⟨#[]⟩, .int .i64 0, .slice none 0 0, .slice none 0 0, .slice none 0 0] 39))
  have HKa : Hid (Kp r w (w3.alloc (.cells #[.int .i64 v, .int .i64 (tk L q).2.2, .string (tk L z).2.1, .slice none 0 0, .int .i64 0, .int .i64 0, .string ⟨#[]⟩, .int .i64 0, .slice none 0 0, .slice none 0 0, .slice none 0 0] 39))) := Lib.hid (((Kp.refl r w).alloc (.cells #[.int .i64 0, .int .i64 0, .string ⟨#[]⟩, .slice none 0 0, .int .i64 0, .int .i64 0, .string ⟨#[]⟩, .int .i64 0, .slice none 0 0, .slice none 0 0, .slice none 0 0] 39)).trans HZa.out)
  go_wp2_with fail
  refine (H4.out _ HRa.out).mono ?_; rintro e w4 ⟨A4, c4, rfl, hl1, hl2, hns, hr, hk⟩
  have hs4 := hk.size
  try simp at hs4
  have HR4 := Lib.hid hr
  have HK4 := Lib.hid (HKa.out.trans hk)
  have HZ4 := Lib.hid (HZa.out.trans hk)
  have BX4 : Hid (Bk w4 w3.heap.size 39 #[.int .i64 v, .int .i64 (tk L q).2.2, .string (tk L z).2.1, .slice none 0 0, .int .i64 0, .int .i64 0, .string ⟨#[]⟩, .int .i64 0, .slice none 0 0, .slice none 0 0, .slice none 0 0]) := Lib.hid (BXa.out.kp hk (by omega))
  have LA4 := Lib.hid hl1
  have LB4 := Lib.hid hl2
  have TE4 : Hid (BindsAt w4 (w3.heap.size + 1) w4.heap.size A4 te) := Lib.hid (hns.to (fun _ _ _ _ => rfl) (fun b h1 h2 => ⟨by simp at h1; omega, h2⟩))
  clear hl1 hl2 hns
  obtain ⟨y4_0, y4_1, y4_2, y4_3, y4_4, y4_5, y4_6, y4_7, y4_8, y4_9, y4_10⟩ := BX4.out.c11
  have hbl4 := BX4.out.lt
  have hbz4 : ∀ o, w4.frozen? ⟨w3.heap.size, o, none⟩ = false := fun o => BX4.out.cold o
  clear hr hk
  obtain ⟨hp1, hp2, hp3, hp4, hp5⟩ := put_box (w := w) [.slice A4 te.length c4] [.int .i64 v, .int .i64 (tk L q).2.2, .string (tk L z).2.1] [.slice none 0 0] [.int .i64 0, .int .i64 0, .string ⟨#[]⟩, .int .i64 0, .slice none 0 0, .slice none 0 0, .slice none 0 0] 3 rfl HK4.out (by omega) hrl HR4.out rfl BX4.out
  obtain ⟨w5, hw5⟩ : ∃ W, (w4.setCell ⟨w3.heap.size, 3, none⟩ (.slice A4 te.length c4)) = W := ⟨_, rfl⟩
  change Rd (w4.setCell ⟨w3.heap.size, 3, none⟩ (.slice A4 te.length c4)) _ _ _ _ _ at hp1
  change Kp _ _ (w4.setCell ⟨w3.heap.size, 3, none⟩ (.slice A4 te.length c4)) at hp2
  change Bk (w4.setCell ⟨w3.heap.size, 3, none⟩ (.slice A4 te.length c4)) _ _ _ at hp3
  change (w4.setCell ⟨w3.heap.size, 3, none⟩ (.slice A4 te.length c4)).heap.size = _ at hp4
  change ∀ b o, b ≠ w3.heap.size → (w4.setCell ⟨w3.heap.size, 3, none⟩ (.slice A4 te.length c4)).cell? _ = _ at hp5
  rw [hw5] at hp1 hp2 hp3 hp4 hp5
  have HR5 := Lib.hid hp1
  have HK5 := Lib.hid hp2
  have hs5 := hp4
  have BX5 : Hid (Bk w5 w3.heap.size 39 #[.int .i64 v, .int .i64 (tk L q).2.2, .string (tk L z).2.1, .slice A4 te.length c4, .int .i64 0, .int .i64 0, .string ⟨#[]⟩, .int .i64 0, .slice none 0 0, .slice none 0 0, .slice none 0 0]) := Lib.hid hp3
  have HZ5 : Hid (Kp r (w.alloc (.cells #[.int .i64 0, .int .i64 0, .string ⟨#[]⟩, .slice none 0 0, .int .i64 0, .int .i64 0, .string ⟨#[]⟩, .int .i64 0, .slice none 0 0, .slice none 0 0, .slice none 0 0] 39)) w5) := Lib.hid (by rw [← hw5]; exact (HZ4.out.setNew (by simp; omega) _))
  have TE5 : Hid (BindsAt w5 (w3.heap.size + 1) w5.heap.size A4 te) := Lib.hid (TE4.out.to (fun b o h1 h2 => hp5 b o (by omega)) (fun b h1 h2 => ⟨h1, by omega⟩))
  have HW5 := Lib.hid hw5
  clear hp1 hp2 hp3 hp4 hp5 hw5
  obtain ⟨y5_0, y5_1, y5_2, y5_3, y5_4, y5_5, y5_6, y5_7, y5_8, y5_9, y5_10⟩ := BX5.out.c11
  have hbl5 := BX5.out.lt
  have hbz5 : ∀ o, w5.frozen? ⟨w3.heap.size, o, none⟩ = false := fun o => BX5.out.cold o
  go_wp2_with fail
  rw [HW5.out]
  refine (H5.out _ HR5.out).mono ?_; rintro e w6 ⟨rfl, hr, hk⟩
  have hs6 := hk.size
  try simp at hs6
  have HR6 := Lib.hid hr
  have HK6 := Lib.hid (HK5.out.trans hk)
  have HZ6 := Lib.hid (HZ5.out.trans hk)
  have BX6 : Hid (Bk w6 w3.heap.size 39 #[.int .i64 v, .int .i64 (tk L q).2.2, .string (tk L z).2.1, .slice A4 te.length c4, .int .i64 0, .int .i64 0, .string ⟨#[]⟩, .int .i64 0, .slice none 0 0, .slice none 0 0, .slice none 0 0]) := Lib.hid (BX5.out.kp hk (by omega))
  have TE6 : Hid (BindsAt w6 (w3.heap.size + 1) w6.heap.size A4 te) := Lib.hid (TE5.out.to (fun b o h1 h2 => hk.cell o (by omega) (by omega)) (fun b h1 h2 => ⟨h1, by omega⟩))
  obtain ⟨y6_0, y6_1, y6_2, y6_3, y6_4, y6_5, y6_6, y6_7, y6_8, y6_9, y6_10⟩ := BX6.out.c11
  have hbl6 := BX6.out.lt
  have hbz6 : ∀ o, w6.frozen? ⟨w3.heap.size, o, none⟩ = false := fun o => BX6.out.cold o
  clear hr hk
  go_wp2_with fail
  refine (H6.out _ HR6.out).mono ?_; rintro e w7 ⟨A7, c7, rfl, hn, hr, hk⟩
  have hs7 := hk.size
  try simp at hs7
  have HR7 := Lib.hid hr
  have HK7 := Lib.hid (HK6.out.trans hk)
  have HZ7 := Lib.hid (HZ6.out.trans hk)
  have BX7 : Hid (Bk w7 w3.heap.size 39 #[.int .i64 v, .int .i64 (tk L q).2.2, .string (tk L z).2.1, .slice A4 te.length c4, .int .i64 0, .int .i64 0, .string ⟨#[]⟩, .int .i64 0, .slice none 0 0, .slice none 0 0, .slice none 0 0]) := Lib.hid (BX6.out.kp hk (by omega))
  have TE7 : Hid (BindsAt w7 (w3.heap.size + 1) w7.heap.size A4 te) := Lib.hid (TE6.out.to (fun b o h1 h2 => hk.cell o (by omega) (by omega)) (fun b h1 h2 => ⟨h1, by omega⟩))
  have TT7 : Hid (IsNode w7 (w3.heap.size + 1) w7.heap.size t A7 c7) := Lib.hid (hn.to (fun _ _ _ _ => rfl) (fun b h1 h2 => ⟨by omega, h2⟩))
  clear hn
  obtain ⟨y7_0, y7_1, y7_2, y7_3, y7_4, y7_5, y7_6, y7_7, y7_8, y7_9, y7_10⟩ := BX7.out.c11
  have hbl7 := BX7.out.lt
  have hbz7 : ∀ o, w7.frozen? ⟨w3.heap.size, o, none⟩ = false := fun o => BX7.out.cold o
  clear hr hk
  obtain ⟨hp1, hp2, hp3, hp4, hp5⟩ := put_box (w := w) [.int .i64 t.k, .int .i64 t.a, .string t.s, .int .i64 t.n, .slice A7 t.l.length c7] [.int .i64 v, .int .i64 (tk L q).2.2, .string (tk L z).2.1, .slice A4 te.length c4] [.int .i64 0, .int .i64 0, .string ⟨#[]⟩, .int .i64 0, .slice none 0 0] [.slice none 0 0, .slice none 0 0] 4 rfl HK7.out (by omega) hrl HR7.out rfl BX7.out
  obtain ⟨w8, hw8⟩ : ∃ W, (((((w7.setCell ⟨w3.heap.size, 4, none⟩ (.int .i64 t.k)).setCell ⟨w3.heap.size, 5, none⟩ (.int .i64 t.a)).setCell ⟨w3.heap.size, 6, none⟩ (.string t.s)).setCell ⟨w3.heap.size, 7, none⟩ (.int .i64 t.n)).setCell ⟨w3.heap.size, 8, none⟩ (.slice A7 t.l.length c7)) = W := ⟨_, rfl⟩
  change Rd (((((w7.setCell ⟨w3.heap.size, 4, none⟩ (.int .i64 t.k)).setCell ⟨w3.heap.size, 5, none⟩ (.int .i64 t.a)).setCell ⟨w3.heap.size, 6, none⟩ (.string t.s)).setCell ⟨w3.heap.size, 7, none⟩ (.int .i64 t.n)).setCell ⟨w3.heap.size, 8, none⟩ (.slice A7 t.l.length c7)) _ _ _ _ _ at hp1
  change Kp _ _ (((((w7.setCell ⟨w3.heap.size, 4, none⟩ (.int .i64 t.k)).setCell ⟨w3.heap.size, 5, none⟩ (.int .i64 t.a)).setCell ⟨w3.heap.size, 6, none⟩ (.string t.s)).setCell ⟨w3.heap.size, 7, none⟩ (.int .i64 t.n)).setCell ⟨w3.heap.size, 8, none⟩ (.slice A7 t.l.length c7)) at hp2
  change Bk (((((w7.setCell ⟨w3.heap.size, 4, none⟩ (.int .i64 t.k)).setCell ⟨w3.heap.size, 5, none⟩ (.int .i64 t.a)).setCell ⟨w3.heap.size, 6, none⟩ (.string t.s)).setCell ⟨w3.heap.size, 7, none⟩ (.int .i64 t.n)).setCell ⟨w3.heap.size, 8, none⟩ (.slice A7 t.l.length c7)) _ _ _ at hp3
  change (((((w7.setCell ⟨w3.heap.size, 4, none⟩ (.int .i64 t.k)).setCell ⟨w3.heap.size, 5, none⟩ (.int .i64 t.a)).setCell ⟨w3.heap.size, 6, none⟩ (.string t.s)).setCell ⟨w3.heap.size, 7, none⟩ (.int .i64 t.n)).setCell ⟨w3.heap.size, 8, none⟩ (.slice A7 t.l.length c7)).heap.size = _ at hp4
  change ∀ b o, b ≠ w3.heap.size → (((((w7.setCell ⟨w3.heap.size, 4, none⟩ (.int .i64 t.k)).setCell ⟨w3.heap.size, 5, none⟩ (.int .i64 t.a)).setCell ⟨w3.heap.size, 6, none⟩ (.string t.s)).setCell ⟨w3.heap.size, 7, none⟩ (.int .i64 t.n)).setCell ⟨w3.heap.size, 8, none⟩ (.slice A7 t.l.length c7)).cell? _ = _ at hp5
  rw [hw8] at hp1 hp2 hp3 hp4 hp5
  have HR8 := Lib.hid hp1
  have HK8 := Lib.hid hp2
  have hs8 := hp4
  have BX8 : Hid (Bk w8 w3.heap.size 39 #[.int .i64 v, .int .i64 (tk L q).2.2, .string (tk L z).2.1, .slice A4 te.length c4, .int .i64 t.k, .int .i64 t.a, .string t.s, .int .i64 t.n, .slice A7 t.l.length c7, .slice none 0 0, .slice none 0 0]) := Lib.hid hp3
  have HZ8 : Hid (Kp r (w.alloc (.cells #[.int .i64 0, .int .i64 0, .string ⟨#[]⟩, .slice none 0 0, .int .i64 0, .int .i64 0, .string ⟨#[]⟩, .int .i64 0, .slice none 0 0, .slice none 0 0, .slice none 0 0] 39)) w8) := Lib.hid (by rw [← hw8]; exact (((((HZ7.out.setNew (by simp; omega) _).setNew (by simp; omega) _).setNew (by simp; omega) _).setNew (by simp; omega) _).setNew (by simp; omega) _))
  have TE8 : Hid (BindsAt w8 (w3.heap.size + 1) w8.heap.size A4 te) := Lib.hid (TE7.out.to (fun b o h1 h2 => hp5 b o (by omega)) (fun b h1 h2 => ⟨h1, by omega⟩))
  have TT8 : Hid (IsNode w8 (w3.heap.size + 1) w8.heap.size t A7 c7) := Lib.hid (TT7.out.to (fun b o h1 h2 => hp5 b o (by omega)) (fun b h1 h2 => ⟨h1, by omega⟩))
  have HW8 := Lib.hid hw8
  clear hp1 hp2 hp3 hp4 hp5 hw8
  obtain ⟨y8_0, y8_1, y8_2, y8_3, y8_4, y8_5, y8_6, y8_7, y8_8, y8_9, y8_10⟩ := BX8.out.c11
  have hbl8 := BX8.out.lt
  have hbz8 : ∀ o, w8.frozen? ⟨w3.heap.size, o, none⟩ = false := fun o => BX8.out.cold o
  go_wp2_with fail
  rw [HW8.out]
  refine (H7.out _ HR8.out).mono ?_; rintro e w9 ⟨rfl, hr, hk⟩
  have hs9 := hk.size
  try simp at hs9
  have HR9 := Lib.hid hr
  have HK9 := Lib.hid (HK8.out.trans hk)
  have HZ9 := Lib.hid (HZ8.out.trans hk)
  have BX9 : Hid (Bk w9 w3.heap.size 39 #[.int .i64 v, .int .i64 (tk L q).2.2, .string (tk L z).2.1, .slice A4 te.length c4, .int .i64 t.k, .int .i64 t.a, .string t.s, .int .i64 t.n, .slice A7 t.l.length c7, .slice none 0 0, .slice none 0 0]) := Lib.hid (BX8.out.kp hk (by omega))
  have TE9 : Hid (BindsAt w9 (w3.heap.size + 1) w9.heap.size A4 te) := Lib.hid (TE8.out.to (fun b o h1 h2 => hk.cell o (by omega) (by omega)) (fun b h1 h2 => ⟨h1, by omega⟩))
  have TT9 : Hid (IsNode w9 (w3.heap.size + 1) w9.heap.size t A7 c7) := Lib.hid (TT8.out.to (fun b o h1 h2 => hk.cell o (by omega) (by omega)) (fun b h1 h2 => ⟨h1, by omega⟩))
  obtain ⟨y9_0, y9_1, y9_2, y9_3, y9_4, y9_5, y9_6, y9_7, y9_8, y9_9, y9_10⟩ := BX9.out.c11
  have hbl9 := BX9.out.lt
  have hbz9 : ∀ o, w9.frozen? ⟨w3.heap.size, o, none⟩ = false := fun o => BX9.out.cold o
  clear hr hk
  go_wp2_with fail
  refine (H8.out _ HR9.out).mono ?_; rintro e w10 ⟨A10, c10, rfl, hl1, hl2, hns, hr, hk⟩
  have hs10 := hk.size
  try simp at hs10
  have HR10 := Lib.hid hr
  have HK10 := Lib.hid (HK9.out.trans hk)
  have HZ10 := Lib.hid (HZ9.out.trans hk)
  have BX10 : Hid (Bk w10 w3.heap.size 39 #[.int .i64 v, .int .i64 (tk L q).2.2, .string (tk L z).2.1, .slice A4 te.length c4, .int .i64 t.k, .int .i64 t.a, .string t.s, .int .i64 t.n, .slice A7 t.l.length c7, .slice none 0 0, .slice none 0 0]) := Lib.hid (BX9.out.kp hk (by omega))
  have TE10 : Hid (BindsAt w10 (w3.heap.size + 1) w10.heap.size A4 te) := Lib.hid (TE9.out.to (fun b o h1 h2 => hk.cell o (by omega) (by omega)) (fun b h1 h2 => ⟨h1, by omega⟩))
  have TT10 : Hid (IsNode w10 (w3.heap.size + 1) w10.heap.size t A7 c7) := Lib.hid (TT9.out.to (fun b o h1 h2 => hk.cell o (by omega) (by omega)) (fun b h1 h2 => ⟨h1, by omega⟩))
  have LC10 := Lib.hid hl1
  have LD10 := Lib.hid hl2
  have CO10 : Hid (BindsAt w10 (w3.heap.size + 1) w10.heap.size A10 co) := Lib.hid (hns.to (fun _ _ _ _ => rfl) (fun b h1 h2 => ⟨by omega, h2⟩))
  clear hl1 hl2 hns
  obtain ⟨y10_0, y10_1, y10_2, y10_3, y10_4, y10_5, y10_6, y10_7, y10_8, y10_9, y10_10⟩ := BX10.out.c11
  have hbl10 := BX10.out.lt
  have hbz10 : ∀ o, w10.frozen? ⟨w3.heap.size, o, none⟩ = false := fun o => BX10.out.cold o
  clear hr hk
  obtain ⟨hp1, hp2, hp3, hp4, hp5⟩ := put_box (w := w) [.slice A10 co.length c10] [.int .i64 v, .int .i64 (tk L q).2.2, .string (tk L z).2.1, .slice A4 te.length c4, .int .i64 t.k, .int .i64 t.a, .string t.s, .int .i64 t.n, .slice A7 t.l.length c7] [.slice none 0 0] [.slice none 0 0] 9 rfl HK10.out (by omega) hrl HR10.out rfl BX10.out
  obtain ⟨w11, hw11⟩ : ∃ W, (w10.setCell ⟨w3.heap.size, 9, none⟩ (.slice A10 co.length c10)) = W := ⟨_, rfl⟩
  change Rd (w10.setCell ⟨w3.heap.size, 9, none⟩ (.slice A10 co.length c10)) _ _ _ _ _ at hp1
  change Kp _ _ (w10.setCell ⟨w3.heap.size, 9, none⟩ (.slice A10 co.length c10)) at hp2
  change Bk (w10.setCell ⟨w3.heap.size, 9, none⟩ (.slice A10 co.length c10)) _ _ _ at hp3
  change (w10.setCell ⟨w3.heap.size, 9, none⟩ (.slice A10 co.length c10)).heap.size = _ at hp4
  change ∀ b o, b ≠ w3.heap.size → (w10.setCell ⟨w3.heap.size, 9, none⟩ (.slice A10 co.length c10)).cell? _ = _ at hp5
  rw [hw11] at hp1 hp2 hp3 hp4 hp5
  have HR11 := Lib.hid hp1
  have HK11 := Lib.hid hp2
  have hs11 := hp4
  have BX11 : Hid (Bk w11 w3.heap.size 39 #[.int .i64 v, .int .i64 (tk L q).2.2, .string (tk L z).2.1, .slice A4 te.length c4, .int .i64 t.k, .int .i64 t.a, .string t.s, .int .i64 t.n, .slice A7 t.l.length c7, .slice A10 co.length c10, .slice none 0 0]) := Lib.hid hp3
  have HZ11 : Hid (Kp r (w.alloc (.cells #[.int .i64 0, .int .i64 0, .string ⟨#[]⟩, .slice none 0 0, .int .i64 0, .int .i64 0, .string ⟨#[]⟩, .int .i64 0, .slice none 0 0, .slice none 0 0, .slice none 0 0] 39)) w11) := Lib.hid (by rw [← hw11]; exact (HZ10.out.setNew (by simp; omega) _))
  have TE11 : Hid (BindsAt w11 (w3.heap.size + 1) w11.heap.size A4 te) := Lib.hid (TE10.out.to (fun b o h1 h2 => hp5 b o (by omega)) (fun b h1 h2 => ⟨h1, by omega⟩))
  have TT11 : Hid (IsNode w11 (w3.heap.size + 1) w11.heap.size t A7 c7) := Lib.hid (TT10.out.to (fun b o h1 h2 => hp5 b o (by omega)) (fun b h1 h2 => ⟨h1, by omega⟩))
  have CO11 : Hid (BindsAt w11 (w3.heap.size + 1) w11.heap.size A10 co) := Lib.hid (CO10.out.to (fun b o h1 h2 => hp5 b o (by omega)) (fun b h1 h2 => ⟨h1, by omega⟩))
  have HW11 := Lib.hid hw11
  clear hp1 hp2 hp3 hp4 hp5 hw11
  obtain ⟨y11_0, y11_1, y11_2, y11_3, y11_4, y11_5, y11_6, y11_7, y11_8, y11_9, y11_10⟩ := BX11.out.c11
  have hbl11 := BX11.out.lt
  have hbz11 : ∀ o, w11.frozen? ⟨w3.heap.size, o, none⟩ = false := fun o => BX11.out.cold o
  go_wp2_with fail
  rw [HW11.out]
  refine (H9.out _ HR11.out).mono ?_; rintro e w12 ⟨rfl, hr, hk⟩
  have hs12 := hk.size
  try simp at hs12
  have HR12 := Lib.hid hr
  have HK12 := Lib.hid (HK11.out.trans hk)
  have HZ12 := Lib.hid (HZ11.out.trans hk)
  have BX12 : Hid (Bk w12 w3.heap.size 39 #[.int .i64 v, .int .i64 (tk L q).2.2, .string (tk L z).2.1, .slice A4 te.length c4, .int .i64 t.k, .int .i64 t.a, .string t.s, .int .i64 t.n, .slice A7 t.l.length c7, .slice A10 co.length c10, .slice none 0 0]) := Lib.hid (BX11.out.kp hk (by omega))
  have TE12 : Hid (BindsAt w12 (w3.heap.size + 1) w12.heap.size A4 te) := Lib.hid (TE11.out.to (fun b o h1 h2 => hk.cell o (by omega) (by omega)) (fun b h1 h2 => ⟨h1, by omega⟩))
  have TT12 : Hid (IsNode w12 (w3.heap.size + 1) w12.heap.size t A7 c7) := Lib.hid (TT11.out.to (fun b o h1 h2 => hk.cell o (by omega) (by omega)) (fun b h1 h2 => ⟨h1, by omega⟩))
  have CO12 : Hid (BindsAt w12 (w3.heap.size + 1) w12.heap.size A10 co) := Lib.hid (CO11.out.to (fun b o h1 h2 => hk.cell o (by omega) (by omega)) (fun b h1 h2 => ⟨h1, by omega⟩))
  obtain ⟨y12_0, y12_1, y12_2, y12_3, y12_4, y12_5, y12_6, y12_7, y12_8, y12_9, y12_10⟩ := BX12.out.c11
  have hbl12 := BX12.out.lt
  have hbz12 : ∀ o, w12.frozen? ⟨w3.heap.size, o, none⟩ = false := fun o => BX12.out.cold o
  clear hr hk
  have hk := HZ12.out
  obtain ⟨hb0, hbv, hrd, hkp, hl9, hnn, -⟩ := res_box (vs := [.int .i64 v, .int .i64 (tk L q).2.2, .string (tk L z).2.1, .slice A4 te.length c4, .int .i64 t.k, .int .i64 t.a, .string t.s, .int .i64 t.n, .slice A7 t.l.length c7, .slice A10 co.length c10, .slice none 0 0]) (zs := [.int .i64 0, .int .i64 0, .string ⟨#[]⟩, .slice none 0 0, .int .i64 0, .int .i64 0, .string ⟨#[]⟩, .int .i64 0, .slice none 0 0, .slice none 0 0, .slice none 0 0]) HZ12.out hrl HR12.out rfl
  obtain ⟨d0, d1, d2, d3, d4, d5, d6, d7, d8, d9, d10⟩ := Bk.c11 hb0
  have hfz : ∀ o, w12.frozen? ⟨w.heap.size, o, none⟩ = false := fun o => hb0.cold o
  have hoth : ∀ b o, w.heap.size < b → (putL w12 w.heap.size 0 [.int .i64 v, .int .i64 (tk L q).2.2, .string (tk L z).2.1, .slice A4 te.length c4, .int .i64 t.k, .int .i64 t.a, .string t.s, .int .i64 t.n, .slice A7 t.l.length c7, .slice A10 co.length c10, .slice none 0 0]).cell? ⟨b, o, none⟩ = w12.cell? ⟨b, o, none⟩ := fun b o hb => World.cell?_of_block (a := ⟨b, o, none⟩) (putL_other (g := w.heap.size) (k := b) (Nat.ne_of_gt hb) _ _ _)
  have hpz : (putL w12 w.heap.size 0 [.int .i64 v, .int .i64 (tk L q).2.2, .string (tk L z).2.1, .slice A4 te.length c4, .int .i64 t.k, .int .i64 t.a, .string t.s, .int .i64 t.n, .slice A7 t.l.length c7, .slice A10 co.length c10, .slice none 0 0]).heap.size = w12.heap.size := putL_size _ _ _ _
  have HBV : Hid ((((((((((((w12.setCell ⟨w.heap.size, 0, none⟩ (.int .i64 v)).setCell ⟨w.heap.size, 1, none⟩ (.int .i64 (tk L q).2.2)).setCell ⟨w.heap.size, 2, none⟩ (.string (tk L z).2.1)).setCell ⟨w.heap.size, 3, none⟩ (.slice A4 te.length c4)).setCell ⟨w.heap.size, 4, none⟩ (.int .i64 t.k)).setCell ⟨w.heap.size, 5, none⟩ (.int .i64 t.a)).setCell ⟨w.heap.size, 6, none⟩ (.string t.s)).setCell ⟨w.heap.size, 7, none⟩ (.int .i64 t.n)).setCell ⟨w.heap.size, 8, none⟩ (.slice A7 t.l.length c7)).setCell ⟨w.heap.size, 9, none⟩ (.slice A10 co.length c10)).setCell ⟨w.heap.size, 10, none⟩ (.slice none 0 0)).cell? ⟨w.heap.size, 0, none⟩ = some (.int .i64 v) ∧ (((((((((((w12.setCell ⟨w.heap.size, 0, none⟩ (.int .i64 v)).setCell ⟨w.heap.size, 1, none⟩ (.int .i64 (tk L q).2.2)).setCell ⟨w.heap.size, 2, none⟩ (.string (tk L z).2.1)).setCell ⟨w.heap.size, 3, none⟩ (.slice A4 te.length c4)).setCell ⟨w.heap.size, 4, none⟩ (.int .i64 t.k)).setCell ⟨w.heap.size, 5, none⟩ (.int .i64 t.a)).setCell ⟨w.heap.size, 6, none⟩ (.string t.s)).setCell ⟨w.heap.size, 7, none⟩ (.int .i64 t.n)).setCell ⟨w.heap.size, 8, none⟩ (.slice A7 t.l.length c7)).setCell ⟨w.heap.size, 9, none⟩ (.slice A10 co.length c10)).setCell ⟨w.heap.size, 10, none⟩ (.slice none 0 0)).cell? ⟨w.heap.size, 1, none⟩ = some (.int .i64 (tk L q).2.2) ∧ (((((((((((w12.setCell ⟨w.heap.size, 0, none⟩ (.int .i64 v)).setCell ⟨w.heap.size, 1, none⟩ (.int .i64 (tk L q).2.2)).setCell ⟨w.heap.size, 2, none⟩ (.string (tk L z).2.1)).setCell ⟨w.heap.size, 3, none⟩ (.slice A4 te.length c4)).setCell ⟨w.heap.size, 4, none⟩ (.int .i64 t.k)).setCell ⟨w.heap.size, 5, none⟩ (.int .i64 t.a)).setCell ⟨w.heap.size, 6, none⟩ (.string t.s)).setCell ⟨w.heap.size, 7, none⟩ (.int .i64 t.n)).setCell ⟨w.heap.size, 8, none⟩ (.slice A7 t.l.length c7)).setCell ⟨w.heap.size, 9, none⟩ (.slice A10 co.length c10)).setCell ⟨w.heap.size, 10, none⟩ (.slice none 0 0)).cell? ⟨w.heap.size, 2, none⟩ = some (.string (tk L z).2.1) ∧ (((((((((((w12.setCell ⟨w.heap.size, 0, none⟩ (.int .i64 v)).setCell ⟨w.heap.size, 1, none⟩ (.int .i64 (tk L q).2.2)).setCell ⟨w.heap.size, 2, none⟩ (.string (tk L z).2.1)).setCell ⟨w.heap.size, 3, none⟩ (.slice A4 te.length c4)).setCell ⟨w.heap.size, 4, none⟩ (.int .i64 t.k)).setCell ⟨w.heap.size, 5, none⟩ (.int .i64 t.a)).setCell ⟨w.heap.size, 6, none⟩ (.string t.s)).setCell ⟨w.heap.size, 7, none⟩ (.int .i64 t.n)).setCell ⟨w.heap.size, 8, none⟩ (.slice A7 t.l.length c7)).setCell ⟨w.heap.size, 9, none⟩ (.slice A10 co.length c10)).setCell ⟨w.heap.size, 10, none⟩ (.slice none 0 0)).cell? ⟨w.heap.size, 3, none⟩ = some (.slice A4 te.length c4) ∧ (((((((((((w12.setCell ⟨w.heap.size, 0, none⟩ (.int .i64 v)).setCell ⟨w.heap.size, 1, none⟩ (.int .i64 (tk L q).2.2)).setCell ⟨w.heap.size, 2, none⟩ (.string (tk L z).2.1)).setCell ⟨w.heap.size, 3, none⟩ (.slice A4 te.length c4)).setCell ⟨w.heap.size, 4, none⟩ (.int .i64 t.k)).setCell ⟨w.heap.size, 5, none⟩ (.int .i64 t.a)).setCell ⟨w.heap.size, 6, none⟩ (.string t.s)).setCell ⟨w.heap.size, 7, none⟩ (.int .i64 t.n)).setCell ⟨w.heap.size, 8, none⟩ (.slice A7 t.l.length c7)).setCell ⟨w.heap.size, 9, none⟩ (.slice A10 co.length c10)).setCell ⟨w.heap.size, 10, none⟩ (.slice none 0 0)).cell? ⟨w.heap.size, 4, none⟩ = some (.int .i64 t.k) ∧ (((((((((((w12.setCell ⟨w.heap.size, 0, none⟩ (.int .i64 v)).setCell ⟨w.heap.size, 1, none⟩ (.int .i64 (tk L q).2.2)).setCell ⟨w.heap.size, 2, none⟩ (.string (tk L z).2.1)).setCell ⟨w.heap.size, 3, none⟩ (.slice A4 te.length c4)).setCell ⟨w.heap.size, 4, none⟩ (.int .i64 t.k)).setCell ⟨w.heap.size, 5, none⟩ (.int .i64 t.a)).setCell ⟨w.heap.size, 6, none⟩ (.string t.s)).setCell ⟨w.heap.size, 7, none⟩ (.int .i64 t.n)).setCell ⟨w.heap.size, 8, none⟩ (.slice A7 t.l.length c7)).setCell ⟨w.heap.size, 9, none⟩ (.slice A10 co.length c10)).setCell ⟨w.heap.size, 10, none⟩ (.slice none 0 0)).cell? ⟨w.heap.size, 5, none⟩ = some (.int .i64 t.a) ∧ (((((((((((w12.setCell ⟨w.heap.size, 0, none⟩ (.int .i64 v)).setCell ⟨w.heap.size, 1, none⟩ (.int .i64 (tk L q).2.2)).setCell ⟨w.heap.size, 2, none⟩ (.string (tk L z).2.1)).setCell ⟨w.heap.size, 3, none⟩ (.slice A4 te.length c4)).setCell ⟨w.heap.size, 4, none⟩ (.int .i64 t.k)).setCell ⟨w.heap.size, 5, none⟩ (.int .i64 t.a)).setCell ⟨w.heap.size, 6, none⟩ (.string t.s)).setCell ⟨w.heap.size, 7, none⟩ (.int .i64 t.n)).setCell ⟨w.heap.size, 8, none⟩ (.slice A7 t.l.length c7)).setCell ⟨w.heap.size, 9, none⟩ (.slice A10 co.length c10)).setCell ⟨w.heap.size, 10, none⟩ (.slice none 0 0)).cell? ⟨w.heap.size, 6, none⟩ = some (.string t.s) ∧ (((((((((((w12.setCell ⟨w.heap.size, 0, none⟩ (.int .i64 v)).setCell ⟨w.heap.size, 1, none⟩ (.int .i64 (tk L q).2.2)).setCell ⟨w.heap.size, 2, none⟩ (.string (tk L z).2.1)).setCell ⟨w.heap.size, 3, none⟩ (.slice A4 te.length c4)).setCell ⟨w.heap.size, 4, none⟩ (.int .i64 t.k)).setCell ⟨w.heap.size, 5, none⟩ (.int .i64 t.a)).setCell ⟨w.heap.size, 6, none⟩ (.string t.s)).setCell ⟨w.heap.size, 7, none⟩ (.int .i64 t.n)).setCell ⟨w.heap.size, 8, none⟩ (.slice A7 t.l.length c7)).setCell ⟨w.heap.size, 9, none⟩ (.slice A10 co.length c10)).setCell ⟨w.heap.size, 10, none⟩ (.slice none 0 0)).cell? ⟨w.heap.size, 7, none⟩ = some (.int .i64 t.n) ∧ (((((((((((w12.setCell ⟨w.heap.size, 0, none⟩ (.int .i64 v)).setCell ⟨w.heap.size, 1, none⟩ (.int .i64 (tk L q).2.2)).setCell ⟨w.heap.size, 2, none⟩ (.string (tk L z).2.1)).setCell ⟨w.heap.size, 3, none⟩ (.slice A4 te.length c4)).setCell ⟨w.heap.size, 4, none⟩ (.int .i64 t.k)).setCell ⟨w.heap.size, 5, none⟩ (.int .i64 t.a)).setCell ⟨w.heap.size, 6, none⟩ (.string t.s)).setCell ⟨w.heap.size, 7, none⟩ (.int .i64 t.n)).setCell ⟨w.heap.size, 8, none⟩ (.slice A7 t.l.length c7)).setCell ⟨w.heap.size, 9, none⟩ (.slice A10 co.length c10)).setCell ⟨w.heap.size, 10, none⟩ (.slice none 0 0)).cell? ⟨w.heap.size, 8, none⟩ = some (.slice A7 t.l.length c7) ∧ (((((((((((w12.setCell ⟨w.heap.size, 0, none⟩ (.int .i64 v)).setCell ⟨w.heap.size, 1, none⟩ (.int .i64 (tk L q).2.2)).setCell ⟨w.heap.size, 2, none⟩ (.string (tk L z).2.1)).setCell ⟨w.heap.size, 3, none⟩ (.slice A4 te.length c4)).setCell ⟨w.heap.size, 4, none⟩ (.int .i64 t.k)).setCell ⟨w.heap.size, 5, none⟩ (.int .i64 t.a)).setCell ⟨w.heap.size, 6, none⟩ (.string t.s)).setCell ⟨w.heap.size, 7, none⟩ (.int .i64 t.n)).setCell ⟨w.heap.size, 8, none⟩ (.slice A7 t.l.length c7)).setCell ⟨w.heap.size, 9, none⟩ (.slice A10 co.length c10)).setCell ⟨w.heap.size, 10, none⟩ (.slice none 0 0)).cell? ⟨w.heap.size, 9, none⟩ = some (.slice A10 co.length c10) ∧ (((((((((((w12.setCell ⟨w.heap.size, 0, none⟩ (.int .i64 v)).setCell ⟨w.heap.size, 1, none⟩ (.int .i64 (tk L q).2.2)).setCell ⟨w.heap.size, 2, none⟩ (.string (tk L z).2.1)).setCell ⟨w.heap.size, 3, none⟩ (.slice A4 te.length c4)).setCell ⟨w.heap.size, 4, none⟩ (.int .i64 t.k)).setCell ⟨w.heap.size, 5, none⟩ (.int .i64 t.a)).setCell ⟨w.heap.size, 6, none⟩ (.string t.s)).setCell ⟨w.heap.size, 7, none⟩ (.int .i64 t.n)).setCell ⟨w.heap.size, 8, none⟩ (.slice A7 t.l.length c7)).setCell ⟨w.heap.size, 9, none⟩ (.slice A10 co.length c10)).setCell ⟨w.heap.size, 10, none⟩ (.slice none 0 0)).cell? ⟨w.heap.size, 10, none⟩ = some (.slice none 0 0)) := Lib.hid (Bk.c11 hbv)
  have HRF := Lib.hid hrd
  have HKF := Lib.hid hkp
  have TEF : Hid (BindsAt (putL w12 w.heap.size 0 [.int .i64 v, .int .i64 (tk L q).2.2, .string (tk L z).2.1, .slice A4 te.length c4, .int .i64 t.k, .int .i64 t.a, .string t.s, .int .i64 t.n, .slice A7 t.l.length c7, .slice A10 co.length c10, .slice none 0 0]) w.heap.size (putL w12 w.heap.size 0 [.int .i64 v, .int .i64 (tk L q).2.2, .string (tk L z).2.1, .slice A4 te.length c4, .int .i64 t.k, .int .i64 t.a, .string t.s, .int .i64 t.n, .slice A7 t.l.length c7, .slice A10 co.length c10, .slice none 0 0]).heap.size A4 te) := Lib.hid (TE12.out.to (fun b o h1 h2 => hoth b o (by omega)) (fun b h1 h2 => ⟨by omega, by rw [hpz]; exact h2⟩))
  have TTF : Hid (IsNode (putL w12 w.heap.size 0 [.int .i64 v, .int .i64 (tk L q).2.2, .string (tk L z).2.1, .slice A4 te.length c4, .int .i64 t.k, .int .i64 t.a, .string t.s, .int .i64 t.n, .slice A7 t.l.length c7, .slice A10 co.length c10, .slice none 0 0]) w.heap.size (putL w12 w.heap.size 0 [.int .i64 v, .int .i64 (tk L q).2.2, .string (tk L z).2.1, .slice A4 te.length c4, .int .i64 t.k, .int .i64 t.a, .string t.s, .int .i64 t.n, .slice A7 t.l.length c7, .slice A10 co.length c10, .slice none 0 0]).heap.size t A7 c7) := Lib.hid (TT12.out.to (fun b o h1 h2 => hoth b o (by omega)) (fun b h1 h2 => ⟨by omega, by rw [hpz]; exact h2⟩))
  have COF : Hid (BindsAt (putL w12 w.heap.size 0 [.int .i64 v, .int .i64 (tk L q).2.2, .string (tk L z).2.1, .slice A4 te.length c4, .int .i64 t.k, .int .i64 t.a, .string t.s, .int .i64 t.n, .slice A7 t.l.length c7, .slice A10 co.length c10, .slice none 0 0]) w.heap.size (putL w12 w.heap.size 0 [.int .i64 v, .int .i64 (tk L q).2.2, .string (tk L z).2.1, .slice A4 te.length c4, .int .i64 t.k, .int .i64 t.a, .string t.s, .int .i64 t.n, .slice A7 t.l.length c7, .slice A10 co.length c10, .slice none 0 0]).heap.size A10 co) := Lib.hid (CO12.out.to (fun b o h1 h2 => hoth b o (by omega)) (fun b h1 h2 => ⟨by omega, by rw [hpz]; exact h2⟩))
  clear hb0 hbv hrd hkp hnn hk hoth hpz
  go_wp2_with fail
  obtain ⟨u0, u1, u2, u3, u4, u5, u6, u7, u8, u9, u10⟩ := HBV.out
  have HQ0 := Lib.hid u0
  have HQ1 := Lib.hid u1
  have HQ2 := Lib.hid u2
  have HQ3 := Lib.hid u3
  have HQ4 := Lib.hid u4
  have HQ5 := Lib.hid u5
  have HQ6 := Lib.hid u6
  have HQ7 := Lib.hid u7
  have HQ8 := Lib.hid u8
  have HQ9 := Lib.hid u9
  have HQ10 := Lib.hid u10
  clear u0 u1 u2 u3 u4 u5 u6 u7 u8 u9 u10
  refine bodyPost_ret (v := .agg #[.int .i64 v, .int .i64 (tk L q).2.2, .string (tk L z).2.1, .slice A4 te.length c4, .int .i64 t.k, .int .i64 t.a, .string t.s, .int .i64 t.n, .slice A7 t.l.length c7, .slice A10 co.length c10, .slice none 0 0]) (by simp [results, Tryz.results87, go_sem, HQ0.out, HQ1.out, HQ2.out, HQ3.out, HQ4.out, HQ5.out, HQ6.out, HQ7.out, HQ8.out, HQ9.out, HQ10.out]) rfl ?_
  exact ⟨⟨A4, c4, A7, c7, A10, c10, none, 0⟩, rfl, ⟨HTX.out, LA4.out, LB4.out, LC10.out, LD10.out, Nat.le_refl _, Nat.zero_le _, TEF.out, TTF.out, COF.out, (fun i h => absurd h (by simp))⟩, HRF.out, HKF.out⟩

set_option maxHeartbeats 16000000 in
theorem decl_def {r g : Nat} {L : List Tk} {cap : Nat} {s s1 s2 s3 s4 s5 s6 s7 s8 s9 : St} {v : Int} {z : Nat} {te co : List BT} {t : RT} {ro : List CT} (hk : KindR L s v s1) (hs2 : stepS L s1 = s2) (hz : (nameS L s2).k = z) (hs3 : stepS L (nameS L s2) = s3) (h5 : takeS L ⟨#[58]⟩ s3 = s5) (he : One 38 r g L cap s5 t s6) (h7 : takeS L ⟨#[123]⟩ s6 = s7) (hl : ChainX L (OneR 136 r g L cap) (nxIn L) 32 0 s7 ro s8) (h9 : takeS L ⟨#[125]⟩ s8 = s9) (hv : v = 3) : OneD 87 r g L cap s ⟨v, (tk L s1.k).2.2, (tk L z).2.1, [], t, [], ro⟩ s9 := by
  intro w h
  have HR := Lib.hid h
  have hrl := h.bk.lt
  have HTX := Lib.hid (h.txt z)
  have H1 := Lib.hid (fun V (hV : Rd V r g L cap s) => declKind_moves hV hk)
  have H2 := Lib.hid (fun V (hV : Rd V r g L cap s1) => step_moves hV)
  have H3 := Lib.hid (fun V (hV : Rd V r g L cap s2) => takeName_moves hV)
  rw [hs2] at H2
  rw [hz, hs3] at H3
  unfold tkV at H2 H3
  obtain ⟨q, hq⟩ : ∃ q, s1.k = q := ⟨_, rfl⟩
  rw [hq] at H2 ⊢
  have H5 := Lib.hid (fun V (hV : Rd V r g L cap s3) => take_moves hV ⟨#[58]⟩)
  rw [h5] at H5
  have H6 := Lib.hid he
  unfold One TreeR nodeV at H6
  have H7 := Lib.hid (fun V (hV : Rd V r g L cap s6) => take_moves hV ⟨#[123]⟩)
  rw [h7] at H7
  have H8 := Lib.hid (fun V (hV : Rd V r g L cap s7) => list_rows hV hl)
  unfold ListRR at H8
  have H9 := Lib.hid (fun V (hV : Rd V r g L cap s8) => take_moves hV ⟨#[125]⟩)
  rw [h9] at H9
  have hv1 : (v != 3) = false := by simpa using hv
  have hv2 : (v == 3) = true := by simpa using hv
  unfold DeclR
  clear h hk hs2 hz hs3 h5 he h7 hl h9 hq hv
  go_enter Tryz.func87, Tryz.ntmps87
  go_wp2_with fail
  refine (H1.out _ (HR.out.alloc (.cells #[.int .i64 0, .int .i64 0, .string ⟨#[]⟩, .slice none 0 0, .int .i64 0, .int .i64 0, .string ⟨#[]⟩, .int .i64 0, .slice none 0 0, .slice none 0 0, .slice none 0 0] 39))).mono ?_; rintro e w1 ⟨rfl, hr, hk⟩
  have hs1 := hk.size
  simp at hs1
  have HR1 := Lib.hid hr
  have HZ1 := Lib.hid hk
  clear hr hk
  go_wp2_with fail
  refine (H2.out _ HR1.out).mono ?_; rintro e w2 ⟨rfl, hr, hk⟩
  have hs2 := hk.size
  have HR2 := Lib.hid hr
  have HZ2 := Lib.hid (HZ1.out.trans hk)
  clear hr hk
  go_wp2_with fail
  refine (H3.out _ HR2.out).mono ?_; rintro e w3 ⟨rfl, hr, hk⟩
  have hs3 := hk.size
  have HR3a := Lib.hid hr
  have HZ3a := Lib.hid (HZ2.out.trans hk)
  have hB0 : w.heap.size < w3.heap.size := by omega
  clear hr hk
  have BXa : Hid (Bk (w3.alloc (.cells #[.int .i64 v, .int .i64 (tk L q).2.2, .string (tk L z).2.1, .slice none 0 0, .int .i64 0, .int .i64 0, .string ⟨#[]⟩, .int .i64 0, .slice none 0 0, .slice none 0 0, .slice none 0 0] 39)) w3.heap.size 39 #[.int .i64 v, .int .i64 (tk L q).2.2, .string (tk L z).2.1, .slice none 0 0, .int .i64 0, .int .i64 0, .string ⟨#[]⟩, .int .i64 0, .slice none 0 0, .slice none 0 0, .slice none 0 0]) := Lib.hid (Bk.new w3 39 #[.int .i64 v, .int .i64 (tk L q).2.2, .string (tk L z).2.1, .slice none 0 0, .int .i64 0, .int .i64 0, .string ⟨#[]⟩, .int .i64 0, .slice none 0 0, .slice none 0 0, .slice none 0 0])
  have HRa := Lib.hid (HR3a.out.alloc (.cells #[.int .i64 v, .int .i64 (tk L q).2.2, .string (tk L z).2.1, .slice none 0 0, .int .i64 0, .int .i64 0, .string ⟨#[]⟩, .int .i64 0, .slice none 0 0, .slice none 0 0, .slice none 0 0] 39))
  have HZa := Lib.hid (HZ3a.out.alloc (.cells #[.int .i64 v, .int .i64 (tk L q).2.2, .string (tk L z).2.1, .slice none 0 0, .int .i64 0, .int .i64 0, .string ⟨#[]⟩, .int .i64 0, .slice none 0 0, .slice none 0 0, .slice none 0 0] 39))
  have HKa : Hid (Kp r w (w3.alloc (.cells #[.int .i64 v, .int .i64 (tk L q).2.2, .string (tk L z).2.1, .slice none 0 0, .int .i64 0, .int .i64 0, .string ⟨#[]⟩, .int .i64 0, .slice none 0 0, .slice none 0 0, .slice none 0 0] 39))) := Lib.hid (((Kp.refl r w).alloc (.cells #[.int .i64 0, .int .i64 0, .string ⟨#[]⟩, .slice none 0 0, .int .i64 0, .int .i64 0, .string ⟨#[]⟩, .int .i64 0, .slice none 0 0, .slice none 0 0, .slice none 0 0] 39)).trans HZa.out)
  go_wp2_with fail
  refine (H5.out _ HRa.out).mono ?_; rintro e w4 ⟨rfl, hr, hk⟩
  have hs4 := hk.size
  try simp at hs4
  have HR4 := Lib.hid hr
  have HK4 := Lib.hid (HKa.out.trans hk)
  have HZ4 := Lib.hid (HZa.out.trans hk)
  have BX4 : Hid (Bk w4 w3.heap.size 39 #[.int .i64 v, .int .i64 (tk L q).2.2, .string (tk L z).2.1, .slice none 0 0, .int .i64 0, .int .i64 0, .string ⟨#[]⟩, .int .i64 0, .slice none 0 0, .slice none 0 0, .slice none 0 0]) := Lib.hid (BXa.out.kp hk (by omega))
  obtain ⟨y4_0, y4_1, y4_2, y4_3, y4_4, y4_5, y4_6, y4_7, y4_8, y4_9, y4_10⟩ := BX4.out.c11
  have hbl4 := BX4.out.lt
  have hbz4 : ∀ o, w4.frozen? ⟨w3.heap.size, o, none⟩ = false := fun o => BX4.out.cold o
  clear hr hk
  go_wp2_with fail
  refine (H6.out _ HR4.out).mono ?_; rintro e w5 ⟨A5, c5, rfl, hn, hr, hk⟩
  have hs5 := hk.size
  try simp at hs5
  have HR5 := Lib.hid hr
  have HK5 := Lib.hid (HK4.out.trans hk)
  have HZ5 := Lib.hid (HZ4.out.trans hk)
  have BX5 : Hid (Bk w5 w3.heap.size 39 #[.int .i64 v, .int .i64 (tk L q).2.2, .string (tk L z).2.1, .slice none 0 0, .int .i64 0, .int .i64 0, .string ⟨#[]⟩, .int .i64 0, .slice none 0 0, .slice none 0 0, .slice none 0 0]) := Lib.hid (BX4.out.kp hk (by omega))
  have TT5 : Hid (IsNode w5 (w3.heap.size + 1) w5.heap.size t A5 c5) := Lib.hid (hn.to (fun _ _ _ _ => rfl) (fun b h1 h2 => ⟨by omega, h2⟩))
  clear hn
  obtain ⟨y5_0, y5_1, y5_2, y5_3, y5_4, y5_5, y5_6, y5_7, y5_8, y5_9, y5_10⟩ := BX5.out.c11
  have hbl5 := BX5.out.lt
  have hbz5 : ∀ o, w5.frozen? ⟨w3.heap.size, o, none⟩ = false := fun o => BX5.out.cold o
  clear hr hk
  obtain ⟨hp1, hp2, hp3, hp4, hp5⟩ := put_box (w := w) [.int .i64 t.k, .int .i64 t.a, .string t.s, .int .i64 t.n, .slice A5 t.l.length c5] [.int .i64 v, .int .i64 (tk L q).2.2, .string (tk L z).2.1, .slice none 0 0] [.int .i64 0, .int .i64 0, .string ⟨#[]⟩, .int .i64 0, .slice none 0 0] [.slice none 0 0, .slice none 0 0] 4 rfl HK5.out (by omega) hrl HR5.out rfl BX5.out
  obtain ⟨w6, hw6⟩ : ∃ W, (((((w5.setCell ⟨w3.heap.size, 4, none⟩ (.int .i64 t.k)).setCell ⟨w3.heap.size, 5, none⟩ (.int .i64 t.a)).setCell ⟨w3.heap.size, 6, none⟩ (.string t.s)).setCell ⟨w3.heap.size, 7, none⟩ (.int .i64 t.n)).setCell ⟨w3.heap.size, 8, none⟩ (.slice A5 t.l.length c5)) = W := ⟨_, rfl⟩
  change Rd (((((w5.setCell ⟨w3.heap.size, 4, none⟩ (.int .i64 t.k)).setCell ⟨w3.heap.size, 5, none⟩ (.int .i64 t.a)).setCell ⟨w3.heap.size, 6, none⟩ (.string t.s)).setCell ⟨w3.heap.size, 7, none⟩ (.int .i64 t.n)).setCell ⟨w3.heap.size, 8, none⟩ (.slice A5 t.l.length c5)) _ _ _ _ _ at hp1
  change Kp _ _ (((((w5.setCell ⟨w3.heap.size, 4, none⟩ (.int .i64 t.k)).setCell ⟨w3.heap.size, 5, none⟩ (.int .i64 t.a)).setCell ⟨w3.heap.size, 6, none⟩ (.string t.s)).setCell ⟨w3.heap.size, 7, none⟩ (.int .i64 t.n)).setCell ⟨w3.heap.size, 8, none⟩ (.slice A5 t.l.length c5)) at hp2
  change Bk (((((w5.setCell ⟨w3.heap.size, 4, none⟩ (.int .i64 t.k)).setCell ⟨w3.heap.size, 5, none⟩ (.int .i64 t.a)).setCell ⟨w3.heap.size, 6, none⟩ (.string t.s)).setCell ⟨w3.heap.size, 7, none⟩ (.int .i64 t.n)).setCell ⟨w3.heap.size, 8, none⟩ (.slice A5 t.l.length c5)) _ _ _ at hp3
  change (((((w5.setCell ⟨w3.heap.size, 4, none⟩ (.int .i64 t.k)).setCell ⟨w3.heap.size, 5, none⟩ (.int .i64 t.a)).setCell ⟨w3.heap.size, 6, none⟩ (.string t.s)).setCell ⟨w3.heap.size, 7, none⟩ (.int .i64 t.n)).setCell ⟨w3.heap.size, 8, none⟩ (.slice A5 t.l.length c5)).heap.size = _ at hp4
  change ∀ b o, b ≠ w3.heap.size → (((((w5.setCell ⟨w3.heap.size, 4, none⟩ (.int .i64 t.k)).setCell ⟨w3.heap.size, 5, none⟩ (.int .i64 t.a)).setCell ⟨w3.heap.size, 6, none⟩ (.string t.s)).setCell ⟨w3.heap.size, 7, none⟩ (.int .i64 t.n)).setCell ⟨w3.heap.size, 8, none⟩ (.slice A5 t.l.length c5)).cell? _ = _ at hp5
  rw [hw6] at hp1 hp2 hp3 hp4 hp5
  have HR6 := Lib.hid hp1
  have HK6 := Lib.hid hp2
  have hs6 := hp4
  have BX6 : Hid (Bk w6 w3.heap.size 39 #[.int .i64 v, .int .i64 (tk L q).2.2, .string (tk L z).2.1, .slice none 0 0, .int .i64 t.k, .int .i64 t.a, .string t.s, .int .i64 t.n, .slice A5 t.l.length c5, .slice none 0 0, .slice none 0 0]) := Lib.hid hp3
  have HZ6 : Hid (Kp r (w.alloc (.cells #[.int .i64 0, .int .i64 0, .string ⟨#[]⟩, .slice none 0 0, .int .i64 0, .int .i64 0, .string ⟨#[]⟩, .int .i64 0, .slice none 0 0, .slice none 0 0, .slice none 0 0] 39)) w6) := Lib.hid (by rw [← hw6]; exact (((((HZ5.out.setNew (by simp; omega) _).setNew (by simp; omega) _).setNew (by simp; omega) _).setNew (by simp; omega) _).setNew (by simp; omega) _))
  have TT6 : Hid (IsNode w6 (w3.heap.size + 1) w6.heap.size t A5 c5) := Lib.hid (TT5.out.to (fun b o h1 h2 => hp5 b o (by omega)) (fun b h1 h2 => ⟨h1, by omega⟩))
  have HW6 := Lib.hid hw6
  clear hp1 hp2 hp3 hp4 hp5 hw6
  obtain ⟨y6_0, y6_1, y6_2, y6_3, y6_4, y6_5, y6_6, y6_7, y6_8, y6_9, y6_10⟩ := BX6.out.c11
  have hbl6 := BX6.out.lt
  have hbz6 : ∀ o, w6.frozen? ⟨w3.heap.size, o, none⟩ = false := fun o => BX6.out.cold o
  go_wp2_with fail
  rw [HW6.out]
  refine (H7.out _ HR6.out).mono ?_; rintro e w7 ⟨rfl, hr, hk⟩
  have hs7 := hk.size
  try simp at hs7
  have HR7 := Lib.hid hr
  have HK7 := Lib.hid (HK6.out.trans hk)
  have HZ7 := Lib.hid (HZ6.out.trans hk)
  have BX7 : Hid (Bk w7 w3.heap.size 39 #[.int .i64 v, .int .i64 (tk L q).2.2, .string (tk L z).2.1, .slice none 0 0, .int .i64 t.k, .int .i64 t.a, .string t.s, .int .i64 t.n, .slice A5 t.l.length c5, .slice none 0 0, .slice none 0 0]) := Lib.hid (BX6.out.kp hk (by omega))
  have TT7 : Hid (IsNode w7 (w3.heap.size + 1) w7.heap.size t A5 c5) := Lib.hid (TT6.out.to (fun b o h1 h2 => hk.cell o (by omega) (by omega)) (fun b h1 h2 => ⟨h1, by omega⟩))
  obtain ⟨y7_0, y7_1, y7_2, y7_3, y7_4, y7_5, y7_6, y7_7, y7_8, y7_9, y7_10⟩ := BX7.out.c11
  have hbl7 := BX7.out.lt
  have hbz7 : ∀ o, w7.frozen? ⟨w3.heap.size, o, none⟩ = false := fun o => BX7.out.cold o
  clear hr hk
  go_wp2_with fail
  refine (H8.out _ HR7.out).mono ?_; rintro e w8 ⟨A8, c8, rfl, hl1, hl2, hns, hr, hk⟩
  have hs8 := hk.size
  try simp at hs8
  have HR8 := Lib.hid hr
  have HK8 := Lib.hid (HK7.out.trans hk)
  have HZ8 := Lib.hid (HZ7.out.trans hk)
  have BX8 : Hid (Bk w8 w3.heap.size 39 #[.int .i64 v, .int .i64 (tk L q).2.2, .string (tk L z).2.1, .slice none 0 0, .int .i64 t.k, .int .i64 t.a, .string t.s, .int .i64 t.n, .slice A5 t.l.length c5, .slice none 0 0, .slice none 0 0]) := Lib.hid (BX7.out.kp hk (by omega))
  have TT8 : Hid (IsNode w8 (w3.heap.size + 1) w8.heap.size t A5 c5) := Lib.hid (TT7.out.to (fun b o h1 h2 => hk.cell o (by omega) (by omega)) (fun b h1 h2 => ⟨h1, by omega⟩))
  have LC8 := Lib.hid hl1
  have LD8 := Lib.hid hl2
  have RO8 : Hid (RowsAt w8 (w3.heap.size + 1) w8.heap.size A8 ro) := Lib.hid (hns.to (fun _ _ _ _ => rfl) (fun b h1 h2 => ⟨by omega, h2⟩))
  clear hl1 hl2 hns
  obtain ⟨y8_0, y8_1, y8_2, y8_3, y8_4, y8_5, y8_6, y8_7, y8_8, y8_9, y8_10⟩ := BX8.out.c11
  have hbl8 := BX8.out.lt
  have hbz8 : ∀ o, w8.frozen? ⟨w3.heap.size, o, none⟩ = false := fun o => BX8.out.cold o
  clear hr hk
  obtain ⟨hp1, hp2, hp3, hp4, hp5⟩ := put_box (w := w) [.slice A8 ro.length c8] [.int .i64 v, .int .i64 (tk L q).2.2, .string (tk L z).2.1, .slice none 0 0, .int .i64 t.k, .int .i64 t.a, .string t.s, .int .i64 t.n, .slice A5 t.l.length c5, .slice none 0 0] [.slice none 0 0] [] 10 rfl HK8.out (by omega) hrl HR8.out rfl BX8.out
  obtain ⟨w9, hw9⟩ : ∃ W, (w8.setCell ⟨w3.heap.size, 10, none⟩ (.slice A8 ro.length c8)) = W := ⟨_, rfl⟩
  change Rd (w8.setCell ⟨w3.heap.size, 10, none⟩ (.slice A8 ro.length c8)) _ _ _ _ _ at hp1
  change Kp _ _ (w8.setCell ⟨w3.heap.size, 10, none⟩ (.slice A8 ro.length c8)) at hp2
  change Bk (w8.setCell ⟨w3.heap.size, 10, none⟩ (.slice A8 ro.length c8)) _ _ _ at hp3
  change (w8.setCell ⟨w3.heap.size, 10, none⟩ (.slice A8 ro.length c8)).heap.size = _ at hp4
  change ∀ b o, b ≠ w3.heap.size → (w8.setCell ⟨w3.heap.size, 10, none⟩ (.slice A8 ro.length c8)).cell? _ = _ at hp5
  rw [hw9] at hp1 hp2 hp3 hp4 hp5
  have HR9 := Lib.hid hp1
  have HK9 := Lib.hid hp2
  have hs9 := hp4
  have BX9 : Hid (Bk w9 w3.heap.size 39 #[.int .i64 v, .int .i64 (tk L q).2.2, .string (tk L z).2.1, .slice none 0 0, .int .i64 t.k, .int .i64 t.a, .string t.s, .int .i64 t.n, .slice A5 t.l.length c5, .slice none 0 0, .slice A8 ro.length c8]) := Lib.hid hp3
  have HZ9 : Hid (Kp r (w.alloc (.cells #[.int .i64 0, .int .i64 0, .string ⟨#[]⟩, .slice none 0 0, .int .i64 0, .int .i64 0, .string ⟨#[]⟩, .int .i64 0, .slice none 0 0, .slice none 0 0, .slice none 0 0] 39)) w9) := Lib.hid (by rw [← hw9]; exact (HZ8.out.setNew (by simp; omega) _))
  have TT9 : Hid (IsNode w9 (w3.heap.size + 1) w9.heap.size t A5 c5) := Lib.hid (TT8.out.to (fun b o h1 h2 => hp5 b o (by omega)) (fun b h1 h2 => ⟨h1, by omega⟩))
  have RO9 : Hid (RowsAt w9 (w3.heap.size + 1) w9.heap.size A8 ro) := Lib.hid (RO8.out.to (fun b o h1 h2 => hp5 b o (by omega)) (fun b h1 h2 => ⟨h1, by omega⟩))
  have HW9 := Lib.hid hw9
  clear hp1 hp2 hp3 hp4 hp5 hw9
  obtain ⟨y9_0, y9_1, y9_2, y9_3, y9_4, y9_5, y9_6, y9_7, y9_8, y9_9, y9_10⟩ := BX9.out.c11
  have hbl9 := BX9.out.lt
  have hbz9 : ∀ o, w9.frozen? ⟨w3.heap.size, o, none⟩ = false := fun o => BX9.out.cold o
  go_wp2_with fail
  rw [HW9.out]
  refine (H9.out _ HR9.out).mono ?_; rintro e w10 ⟨rfl, hr, hk⟩
  have hs10 := hk.size
  try simp at hs10
  have HR10 := Lib.hid hr
  have HK10 := Lib.hid (HK9.out.trans hk)
  have HZ10 := Lib.hid (HZ9.out.trans hk)
  have BX10 : Hid (Bk w10 w3.heap.size 39 #[.int .i64 v, .int .i64 (tk L q).2.2, .string (tk L z).2.1, .slice none 0 0, .int .i64 t.k, .int .i64 t.a, .string t.s, .int .i64 t.n, .slice A5 t.l.length c5, .slice none 0 0, .slice A8 ro.length c8]) := Lib.hid (BX9.out.kp hk (by omega))
  have TT10 : Hid (IsNode w10 (w3.heap.size + 1) w10.heap.size t A5 c5) := Lib.hid (TT9.out.to (fun b o h1 h2 => hk.cell o (by omega) (by omega)) (fun b h1 h2 => ⟨h1, by omega⟩))
  have RO10 : Hid (RowsAt w10 (w3.heap.size + 1) w10.heap.size A8 ro) := Lib.hid (RO9.out.to (fun b o h1 h2 => hk.cell o (by omega) (by omega)) (fun b h1 h2 => ⟨h1, by omega⟩))
  obtain ⟨y10_0, y10_1, y10_2, y10_3, y10_4, y10_5, y10_6, y10_7, y10_8, y10_9, y10_10⟩ := BX10.out.c11
  have hbl10 := BX10.out.lt
  have hbz10 : ∀ o, w10.frozen? ⟨w3.heap.size, o, none⟩ = false := fun o => BX10.out.cold o
  clear hr hk
  have hk := HZ10.out
  obtain ⟨hb0, hbv, hrd, hkp, hl9, hnn, -⟩ := res_box (vs := [.int .i64 v, .int .i64 (tk L q).2.2, .string (tk L z).2.1, .slice none 0 0, .int .i64 t.k, .int .i64 t.a, .string t.s, .int .i64 t.n, .slice A5 t.l.length c5, .slice none 0 0, .slice A8 ro.length c8]) (zs := [.int .i64 0, .int .i64 0, .string ⟨#[]⟩, .slice none 0 0, .int .i64 0, .int .i64 0, .string ⟨#[]⟩, .int .i64 0, .slice none 0 0, .slice none 0 0, .slice none 0 0]) HZ10.out hrl HR10.out rfl
  obtain ⟨d0, d1, d2, d3, d4, d5, d6, d7, d8, d9, d10⟩ := Bk.c11 hb0
  have hfz : ∀ o, w10.frozen? ⟨w.heap.size, o, none⟩ = false := fun o => hb0.cold o
  have hoth : ∀ b o, w.heap.size < b → (putL w10 w.heap.size 0 [.int .i64 v, .int .i64 (tk L q).2.2, .string (tk L z).2.1, .slice none 0 0, .int .i64 t.k, .int .i64 t.a, .string t.s, .int .i64 t.n, .slice A5 t.l.length c5, .slice none 0 0, .slice A8 ro.length c8]).cell? ⟨b, o, none⟩ = w10.cell? ⟨b, o, none⟩ := fun b o hb => World.cell?_of_block (a := ⟨b, o, none⟩) (putL_other (g := w.heap.size) (k := b) (Nat.ne_of_gt hb) _ _ _)
  have hpz : (putL w10 w.heap.size 0 [.int .i64 v, .int .i64 (tk L q).2.2, .string (tk L z).2.1, .slice none 0 0, .int .i64 t.k, .int .i64 t.a, .string t.s, .int .i64 t.n, .slice A5 t.l.length c5, .slice none 0 0, .slice A8 ro.length c8]).heap.size = w10.heap.size := putL_size _ _ _ _
  have HBV : Hid ((((((((((((w10.setCell ⟨w.heap.size, 0, none⟩ (.int .i64 v)).setCell ⟨w.heap.size, 1, none⟩ (.int .i64 (tk L q).2.2)).setCell ⟨w.heap.size, 2, none⟩ (.string (tk L z).2.1)).setCell ⟨w.heap.size, 3, none⟩ (.slice none 0 0)).setCell ⟨w.heap.size, 4, none⟩ (.int .i64 t.k)).setCell ⟨w.heap.size, 5, none⟩ (.int .i64 t.a)).setCell ⟨w.heap.size, 6, none⟩ (.string t.s)).setCell ⟨w.heap.size, 7, none⟩ (.int .i64 t.n)).setCell ⟨w.heap.size, 8, none⟩ (.slice A5 t.l.length c5)).setCell ⟨w.heap.size, 9, none⟩ (.slice none 0 0)).setCell ⟨w.heap.size, 10, none⟩ (.slice A8 ro.length c8)).cell? ⟨w.heap.size, 0, none⟩ = some (.int .i64 v) ∧ (((((((((((w10.setCell ⟨w.heap.size, 0, none⟩ (.int .i64 v)).setCell ⟨w.heap.size, 1, none⟩ (.int .i64 (tk L q).2.2)).setCell ⟨w.heap.size, 2, none⟩ (.string (tk L z).2.1)).setCell ⟨w.heap.size, 3, none⟩ (.slice none 0 0)).setCell ⟨w.heap.size, 4, none⟩ (.int .i64 t.k)).setCell ⟨w.heap.size, 5, none⟩ (.int .i64 t.a)).setCell ⟨w.heap.size, 6, none⟩ (.string t.s)).setCell ⟨w.heap.size, 7, none⟩ (.int .i64 t.n)).setCell ⟨w.heap.size, 8, none⟩ (.slice A5 t.l.length c5)).setCell ⟨w.heap.size, 9, none⟩ (.slice none 0 0)).setCell ⟨w.heap.size, 10, none⟩ (.slice A8 ro.length c8)).cell? ⟨w.heap.size, 1, none⟩ = some (.int .i64 (tk L q).2.2) ∧ (((((((((((w10.setCell ⟨w.heap.size, 0, none⟩ (.int .i64 v)).setCell ⟨w.heap.size, 1, none⟩ (.int .i64 (tk L q).2.2)).setCell ⟨w.heap.size, 2, none⟩ (.string (tk L z).2.1)).setCell ⟨w.heap.size, 3, none⟩ (.slice none 0 0)).setCell ⟨w.heap.size, 4, none⟩ (.int .i64 t.k)).setCell ⟨w.heap.size, 5, none⟩ (.int .i64 t.a)).setCell ⟨w.heap.size, 6, none⟩ (.string t.s)).setCell ⟨w.heap.size, 7, none⟩ (.int .i64 t.n)).setCell ⟨w.heap.size, 8, none⟩ (.slice A5 t.l.length c5)).setCell ⟨w.heap.size, 9, none⟩ (.slice none 0 0)).setCell ⟨w.heap.size, 10, none⟩ (.slice A8 ro.length c8)).cell? ⟨w.heap.size, 2, none⟩ = some (.string (tk L z).2.1) ∧ (((((((((((w10.setCell ⟨w.heap.size, 0, none⟩ (.int .i64 v)).setCell ⟨w.heap.size, 1, none⟩ (.int .i64 (tk L q).2.2)).setCell ⟨w.heap.size, 2, none⟩ (.string (tk L z).2.1)).setCell ⟨w.heap.size, 3, none⟩ (.slice none 0 0)).setCell ⟨w.heap.size, 4, none⟩ (.int .i64 t.k)).setCell ⟨w.heap.size, 5, none⟩ (.int .i64 t.a)).setCell ⟨w.heap.size, 6, none⟩ (.string t.s)).setCell ⟨w.heap.size, 7, none⟩ (.int .i64 t.n)).setCell ⟨w.heap.size, 8, none⟩ (.slice A5 t.l.length c5)).setCell ⟨w.heap.size, 9, none⟩ (.slice none 0 0)).setCell ⟨w.heap.size, 10, none⟩ (.slice A8 ro.length c8)).cell? ⟨w.heap.size, 3, none⟩ = some (.slice none 0 0) ∧ (((((((((((w10.setCell ⟨w.heap.size, 0, none⟩ (.int .i64 v)).setCell ⟨w.heap.size, 1, none⟩ (.int .i64 (tk L q).2.2)).setCell ⟨w.heap.size, 2, none⟩ (.string (tk L z).2.1)).setCell ⟨w.heap.size, 3, none⟩ (.slice none 0 0)).setCell ⟨w.heap.size, 4, none⟩ (.int .i64 t.k)).setCell ⟨w.heap.size, 5, none⟩ (.int .i64 t.a)).setCell ⟨w.heap.size, 6, none⟩ (.string t.s)).setCell ⟨w.heap.size, 7, none⟩ (.int .i64 t.n)).setCell ⟨w.heap.size, 8, none⟩ (.slice A5 t.l.length c5)).setCell ⟨w.heap.size, 9, none⟩ (.slice none 0 0)).setCell ⟨w.heap.size, 10, none⟩ (.slice A8 ro.length c8)).cell? ⟨w.heap.size, 4, none⟩ = some (.int .i64 t.k) ∧ (((((((((((w10.setCell ⟨w.heap.size, 0, none⟩ (.int .i64 v)).setCell ⟨w.heap.size, 1, none⟩ (.int .i64 (tk L q).2.2)).setCell ⟨w.heap.size, 2, none⟩ (.string (tk L z).2.1)).setCell ⟨w.heap.size, 3, none⟩ (.slice none 0 0)).setCell ⟨w.heap.size, 4, none⟩ (.int .i64 t.k)).setCell ⟨w.heap.size, 5, none⟩ (.int .i64 t.a)).setCell ⟨w.heap.size, 6, none⟩ (.string t.s)).setCell ⟨w.heap.size, 7, none⟩ (.int .i64 t.n)).setCell ⟨w.heap.size, 8, none⟩ (.slice A5 t.l.length c5)).setCell ⟨w.heap.size, 9, none⟩ (.slice none 0 0)).setCell ⟨w.heap.size, 10, none⟩ (.slice A8 ro.length c8)).cell? ⟨w.heap.size, 5, none⟩ = some (.int .i64 t.a) ∧ (((((((((((w10.setCell ⟨w.heap.size, 0, none⟩ (.int .i64 v)).setCell ⟨w.heap.size, 1, none⟩ (.int .i64 (tk L q).2.2)).setCell ⟨w.heap.size, 2, none⟩ (.string (tk L z).2.1)).setCell ⟨w.heap.size, 3, none⟩ (.slice none 0 0)).setCell ⟨w.heap.size, 4, none⟩ (.int .i64 t.k)).setCell ⟨w.heap.size, 5, none⟩ (.int .i64 t.a)).setCell ⟨w.heap.size, 6, none⟩ (.string t.s)).setCell ⟨w.heap.size, 7, none⟩ (.int .i64 t.n)).setCell ⟨w.heap.size, 8, none⟩ (.slice A5 t.l.length c5)).setCell ⟨w.heap.size, 9, none⟩ (.slice none 0 0)).setCell ⟨w.heap.size, 10, none⟩ (.slice A8 ro.length c8)).cell? ⟨w.heap.size, 6, none⟩ = some (.string t.s) ∧ (((((((((((w10.setCell ⟨w.heap.size, 0, none⟩ (.int .i64 v)).setCell ⟨w.heap.size, 1, none⟩ (.int .i64 (tk L q).2.2)).setCell ⟨w.heap.size, 2, none⟩ (.string (tk L z).2.1)).setCell ⟨w.heap.size, 3, none⟩ (.slice none 0 0)).setCell ⟨w.heap.size, 4, none⟩ (.int .i64 t.k)).setCell ⟨w.heap.size, 5, none⟩ (.int .i64 t.a)).setCell ⟨w.heap.size, 6, none⟩ (.string t.s)).setCell ⟨w.heap.size, 7, none⟩ (.int .i64 t.n)).setCell ⟨w.heap.size, 8, none⟩ (.slice A5 t.l.length c5)).setCell ⟨w.heap.size, 9, none⟩ (.slice none 0 0)).setCell ⟨w.heap.size, 10, none⟩ (.slice A8 ro.length c8)).cell? ⟨w.heap.size, 7, none⟩ = some (.int .i64 t.n) ∧ (((((((((((w10.setCell ⟨w.heap.size, 0, none⟩ (.int .i64 v)).setCell ⟨w.heap.size, 1, none⟩ (.int .i64 (tk L q).2.2)).setCell ⟨w.heap.size, 2, none⟩ (.string (tk L z).2.1)).setCell ⟨w.heap.size, 3, none⟩ (.slice none 0 0)).setCell ⟨w.heap.size, 4, none⟩ (.int .i64 t.k)).setCell ⟨w.heap.size, 5, none⟩ (.int .i64 t.a)).setCell ⟨w.heap.size, 6, none⟩ (.string t.s)).setCell ⟨w.heap.size, 7, none⟩ (.int .i64 t.n)).setCell ⟨w.heap.size, 8, none⟩ (.slice A5 t.l.length c5)).setCell ⟨w.heap.size, 9, none⟩ (.slice none 0 0)).setCell ⟨w.heap.size, 10, none⟩ (.slice A8 ro.length c8)).cell? ⟨w.heap.size, 8, none⟩ = some (.slice A5 t.l.length c5) ∧ (((((((((((w10.setCell ⟨w.heap.size, 0, none⟩ (.int .i64 v)).setCell ⟨w.heap.size, 1, none⟩ (.int .i64 (tk L q).2.2)).setCell ⟨w.heap.size, 2, none⟩ (.string (tk L z).2.1)).setCell ⟨w.heap.size, 3, none⟩ (.slice none 0 0)).setCell ⟨w.heap.size, 4, none⟩ (.int .i64 t.k)).setCell ⟨w.heap.size, 5, none⟩ (.int .i64 t.a)).setCell ⟨w.heap.size, 6, none⟩ (.string t.s)).setCell ⟨w.heap.size, 7, none⟩ (.int .i64 t.n)).setCell ⟨w.heap.size, 8, none⟩ (.slice A5 t.l.length c5)).setCell ⟨w.heap.size, 9, none⟩ (.slice none 0 0)).setCell ⟨w.heap.size, 10, none⟩ (.slice A8 ro.length c8)).cell? ⟨w.heap.size, 9, none⟩ = some (.slice none 0 0) ∧ (((((((((((w10.setCell ⟨w.heap.size, 0, none⟩ (.int .i64 v)).setCell ⟨w.heap.size, 1, none⟩ (.int .i64 (tk L q).2.2)).setCell ⟨w.heap.size, 2, none⟩ (.string (tk L z).2.1)).setCell ⟨w.heap.size, 3, none⟩ (.slice none 0 0)).setCell ⟨w.heap.size, 4, none⟩ (.int .i64 t.k)).setCell ⟨w.heap.size, 5, none⟩ (.int .i64 t.a)).setCell ⟨w.heap.size, 6, none⟩ (.string t.s)).setCell ⟨w.heap.size, 7, none⟩ (.int .i64 t.n)).setCell ⟨w.heap.size, 8, none⟩ (.slice A5 t.l.length c5)).setCell ⟨w.heap.size, 9, none⟩ (.slice none 0 0)).setCell ⟨w.heap.size, 10, none⟩ (.slice A8 ro.length c8)).cell? ⟨w.heap.size, 10, none⟩ = some (.slice A8 ro.length c8)) := Lib.hid (Bk.c11 hbv)
  have HRF := Lib.hid hrd
  have HKF := Lib.hid hkp
  have TTF : Hid (IsNode (putL w10 w.heap.size 0 [.int .i64 v, .int .i64 (tk L q).2.2, .string (tk L z).2.1, .slice none 0 0, .int .i64 t.k, .int .i64 t.a, .string t.s, .int .i64 t.n, .slice A5 t.l.length c5, .slice none 0 0, .slice A8 ro.length c8]) w.heap.size (putL w10 w.heap.size 0 [.int .i64 v, .int .i64 (tk L q).2.2, .string (tk L z).2.1, .slice none 0 0, .int .i64 t.k, .int .i64 t.a, .string t.s, .int .i64 t.n, .slice A5 t.l.length c5, .slice none 0 0, .slice A8 ro.length c8]).heap.size t A5 c5) := Lib.hid (TT10.out.to (fun b o h1 h2 => hoth b o (by omega)) (fun b h1 h2 => ⟨by omega, by rw [hpz]; exact h2⟩))
  have ROF : Hid (RowsAt (putL w10 w.heap.size 0 [.int .i64 v, .int .i64 (tk L q).2.2, .string (tk L z).2.1, .slice none 0 0, .int .i64 t.k, .int .i64 t.a, .string t.s, .int .i64 t.n, .slice A5 t.l.length c5, .slice none 0 0, .slice A8 ro.length c8]) w.heap.size (putL w10 w.heap.size 0 [.int .i64 v, .int .i64 (tk L q).2.2, .string (tk L z).2.1, .slice none 0 0, .int .i64 t.k, .int .i64 t.a, .string t.s, .int .i64 t.n, .slice A5 t.l.length c5, .slice none 0 0, .slice A8 ro.length c8]).heap.size A8 ro) := Lib.hid (RO10.out.to (fun b o h1 h2 => hoth b o (by omega)) (fun b h1 h2 => ⟨by omega, by rw [hpz]; exact h2⟩))
  clear hb0 hbv hrd hkp hnn hk hoth hpz
  go_wp2_with fail
  obtain ⟨u0, u1, u2, u3, u4, u5, u6, u7, u8, u9, u10⟩ := HBV.out
  have HQ0 := Lib.hid u0
  have HQ1 := Lib.hid u1
  have HQ2 := Lib.hid u2
  have HQ3 := Lib.hid u3
  have HQ4 := Lib.hid u4
  have HQ5 := Lib.hid u5
  have HQ6 := Lib.hid u6
  have HQ7 := Lib.hid u7
  have HQ8 := Lib.hid u8
  have HQ9 := Lib.hid u9
  have HQ10 := Lib.hid u10
  clear u0 u1 u2 u3 u4 u5 u6 u7 u8 u9 u10
  refine bodyPost_ret (v := .agg #[.int .i64 v, .int .i64 (tk L q).2.2, .string (tk L z).2.1, .slice none 0 0, .int .i64 t.k, .int .i64 t.a, .string t.s, .int .i64 t.n, .slice A5 t.l.length c5, .slice none 0 0, .slice A8 ro.length c8]) (by simp [results, Tryz.results87, go_sem, HQ0.out, HQ1.out, HQ2.out, HQ3.out, HQ4.out, HQ5.out, HQ6.out, HQ7.out, HQ8.out, HQ9.out, HQ10.out]) rfl ?_
  exact ⟨⟨none, 0, A5, c5, none, 0, A8, c8⟩, rfl, ⟨HTX.out, Nat.le_refl _, Nat.zero_le _, Nat.le_refl _, Nat.zero_le _, LC8.out, LD8.out, (fun i h => absurd h (by simp)), TTF.out, (fun i h => absurd h (by simp)), ROF.out⟩, HRF.out, HKF.out⟩

end Go.Proofs.YteaojmcfppbgiaaGreatDoor

/- parse.list over declarations; decls. The reader alone is written. -/
namespace Go.Proofs.YteaojmcfppbgiaaGreatDoor
open Go.RowKit
set_option linter.unusedVariables false
set_option maxRecDepth 100000

/-- Declarations as they lie one behind the other. -/
def DeclAt (w : World) (lo hi : Nat) (A : Option Addr) (l : List DT) (i : Nat) (h : i < l.length) : Prop :=
  ∃ b o p, A = some ⟨b, o, none⟩ ∧ lo ≤ b ∧ b < hi ∧ (∀ r, r < 11 → w.cell? ⟨b, o + i * 11 + r, none⟩ = (kdD.cells (l[i], p))[r]?) ∧ IsDecl w lo hi l[i] p
def DeclsAt (w : World) (lo hi : Nat) (A : Option Addr) (l : List DT) : Prop := ∀ i (h : i < l.length), DeclAt w lo hi A l i h
theorem decls_of {w : World} {base : Nat} {e : TypeId} {A : Option Addr} {c : Nat} {ps : List (DT × DP)} {P : Nat → Prop} (h : RowX kdD w base e (.slice A ps.length c) ps P) (hP : ∀ b, P b → base ≤ b) : DeclsAt w base w.heap.size A (ps.map (·.1)) := by
  intro i hi
  have hi' : i < ps.length := by simpa using hi
  obtain ⟨b, hA, h1, h2, hc, lo, hi2, h3, h4⟩ := h.at_ i hi'
  have hx : (ps.map (·.1))[i] = ps[i].1 := List.getElem_map _
  refine ⟨b, 0, ps[i].2, hA, h1, h2, fun r hr => ?_, by rw [hx]; exact h4.to (fun _ _ _ _ => rfl) (inp_wide hP (fun b hb => (h.far b hb).1) h3)⟩
  rw [hx, Nat.zero_add]
  exact hc r hr
def nxGo (L : List Tk) (k : Nat) : Bool := !enB L k

theorem infoDx : (Tryz.prog.info? 39).map (fun i => (i.zero, i.size, i.bytes)) = some (some (.agg #[.int .i64 0, .int .i64 0, .string ⟨#[]⟩, .slice none 0 0, .int .i64 0, .int .i64 0, .string ⟨#[]⟩, .int .i64 0, .slice none 0 0, .slice none 0 0, .slice none 0 0]), 11, 168) := by kernel_rfl
/-- A row of them, and the reader moved. -/
def ListDR (l : List DT) (r g : Nat) (L : List Tk) (cap : Nat) (s' : St) (w : World) (e : Ending) (w' : World) : Prop :=
  ∃ A c, e = .returned (.slice A l.length c) ∧ l.length ≤ c ∧ c ≤ maxLen ∧ DeclsAt w' w.heap.size w'.heap.size A l ∧ Rd w' r g L cap s' ∧ Kp r w w'

set_option maxHeartbeats 4000000 in
theorem list_decls {w : World} {r g : Nat} {L : List Tk} {cap : Nat} {s s' : St} {l : List DT} (h : Rd w r g L cap s) (hc : ChainX L (OneD 87 r g L cap) (nxGo L) 8192 0 s l s') :
    Calls Tryz.prog 86 #[.pointer (some ⟨r, 0, none⟩), .int .i64 8192, .func (.func 74) #[.pointer (some ⟨r, 0, none⟩)] #[], .func (.func 87) #[.pointer (some ⟨r, 0, none⟩)] #[]] w (ListDR l r g L cap s' w) := by
  obtain ⟨i0, hi0, hz0, hz1, hz2⟩ := info_parts infoDx
  have HR := Lib.hid h
  have HC := Lib.hid hc
  have HM := Lib.hid (chainX_most hc (Nat.zero_le _))
  have hrl := h.bk.lt
  clear h hc
  go_enter Tryz.func86, Tryz.ntmps86
  go_wp2_with fail
  go_loopw [9] (fun v wr => ∃ (pre l2 : List DT) (sx : St) (ps : List (DT × DP)) (P : Nat → Prop), Hid (l = pre ++ l2) ∧ Hid (ChainX L (OneD 87 r g L cap) (nxGo L) 8192 ps.length sx l2 s') ∧ Hid (RowX kdD wr w.heap.size 39 v ps P) ∧ Hid (∀ b, P b → w.heap.size ≤ b) ∧ Hid (ps.map (·.1) = pre) ∧ Hid (Rd wr r g L cap sx) ∧ Hid (Kp r w wr))
    (fun v _ => l.length - vlen v)
  case atStart => exact ⟨[], l, s, [], fun _ => False, Lib.hid rfl, HC, Lib.hid (RowX.nil _ _ _ _), Lib.hid (fun _ h => h.elim), Lib.hid rfl, HR, Lib.hid (Kp.refl r w)⟩
  case round =>
    clear HR HC
    obtain ⟨pre, l2, sx, ps, P, HL, HC, HROW, HPP, HPS, HRD, HKP⟩ := hrel
    obtain ⟨A, c, hv⟩ := own_shapeX HROW.out.row
    subst hv
    have hrz := HKP.out.size
    have HLN : Hid (ps.length + l2.length = l.length) := Lib.hid (by rw [HL.out, List.length_append, ← HPS.out, List.length_map])
    obtain ⟨m, cc, h0, h1, h2, h3, hm, hcc⟩ := HRD.out.sz
    obtain ⟨c0, c1, c2, t0, t1, t2⟩ := HRD.out.cells hm hcc
    have hm0 : (0 : Int) < (m : Int) := by omega
    unfold maxLen at h3
    obtain ⟨k3, hk3⟩ : ∃ x, sx.k * 3 = x := ⟨_, rfl⟩
    rw [hk3] at c0 t0 t1 t2
    clear hm hcc hk3
    have hinv := chainX_inv HC.out
    have HMT : Hid (Calls Tryz.prog 74 #[.pointer (some ⟨r, 0, none⟩)] wr (Tells (nxGo L sx.k) wr)) := Lib.hid (goesOn_tells HRD.out)
    have HOUT : Hid (∀ (W : World) (z : St), Hid (RowX kdD W w.heap.size 39 (.slice A ps.length c) ps P) → l2 = [] → Rd W r g L cap z → z = s' → Kp r w W → ListDR l r g L cap s' w (.returned (.slice A ps.length c)) W) := Lib.hid (by
      rintro W z hrow rfl hrd rfl hk
      have hl : ps.map (·.1) = l := by rw [HPS.out, HL.out, List.append_nil]
      have hn : ps.length = l.length := by rw [← hl, List.length_map]
      have hb := hrow.out.bounds
      exact ⟨A, c, by rw [hn], by rw [← hn]; exact hb.1, hb.2, by rw [← hl]; exact decls_of hrow.out HPP.out, hrd, hk⟩)
    have HI := Lib.hid hinv
    clear hinv
    rcases HI.out with ⟨hx, hy, hz⟩ | ⟨hx1, hx2, hx3, hy, hz⟩ | ⟨hx1, hx2, hx3, t, l', s1, hy, hone, hch⟩
    · have HF := Lib.hid (HOUT.out wr sx HROW hy HRD.out hz HKP.out)
      by_cases he : sx.e = 0
      · have hmf : nxGo L sx.k = false := by
          cases hq : nxGo L sx.k with
          | false => rfl
          | true => exact absurd ⟨he, hq⟩ hx
        rw [hmf] at HMT
        have hb : (sx.e == 0) = true := by simpa using he
        clear hx hy hz HOUT HI HC HL HROW HPP HPS HKP HRD HLN hmf he
        go_wp2_with fail
        refine HMT.out.mono ?_; rintro e w' ⟨rfl, rfl⟩
        go_wp2_with fail
        go_ret
        exact HF.out
      · have hb : (sx.e == 0) = false := by simpa using he
        clear hx hy hz HOUT HI HC HL HROW HPP HPS HKP HRD HLN he HMT
        go_wp2_with fail
        go_ret
        exact HF.out
    · have hb : (sx.e == 0) = true := by simpa using hx1
      rw [hx2] at HMT
      have hfull : ((ps.length : Int) == 8192) = true := by rw [hx3]; decide
      obtain ⟨y, hyy⟩ : ∃ x, (tk L sx.k).2.2 = x := ⟨_, rfl⟩
      have HFM := Lib.hid (fail_moves HRD.out (tk L sx.k).2.2 2)
      rw [hz, hyy] at HFM
      rw [hyy] at t2
      have HK2 := Lib.hid (fun (V : World) (hk : Kp r wr V) (hrd : Rd V r g L cap s') => HOUT.out V s' (Lib.hid (HROW.out.kp hk hrl HPP.out)) hy hrd rfl (HKP.out.trans hk))
      clear hx1 hx2 hx3 hy hz HOUT HI HC HL HROW HPP HPS HKP HRD HLN hyy
      go_wp2_with fail
      refine HMT.out.mono ?_; rintro e w' ⟨rfl, rfl⟩
      go_wp2_with fail
      refine HFM.out.mono ?_; rintro e w2 ⟨rfl, hr2, hk2⟩
      have HF := Lib.hid (HK2.out w2 hk2 hr2)
      clear hr2 hk2
      go_wp2_with fail
      go_ret
      exact HF.out
    · have hb : (sx.e == 0) = true := by simpa using hx1
      rw [hx2] at HMT
      have hmost : ps.length ≤ 8192 := by have := HLN.out; have := HM.out; omega
      have hfull : ((ps.length : Int) == 8192) = false := by simp; omega
      have HONE := Lib.hid (hone wr HRD.out)
      unfold DeclR declV at HONE
      have HLL : Hid (l = (pre ++ [t]) ++ l') := Lib.hid (by rw [HL.out, hy]; simp)
      have HCH := Lib.hid hch
      have HPM := Lib.hid hmost
      have HLT : Hid (ps.length < l.length) := Lib.hid (by have := HLN.out; rw [hy] at this; simp at this; omega)
      clear hx1 hx2 hx3 hy hone hch HOUT HI HC HL HLN hmost
      go_wp2_with fail
      refine HMT.out.mono ?_; rintro e w' ⟨rfl, rfl⟩
      go_wp2_with fail
      refine HONE.out.mono ?_; rintro e w1 ⟨p, rfl, hn1, hr1, hk1⟩
      have hsz1 := hk1.size
      have HLT0 := Lib.hid HROW.out.row.lt
      have R1 := (HROW.out.kp hk1 hrl HPP.out).alloc (.cells #[.int .i64 t.k, .int .i64 t.a, .string t.s, .slice p.A t.te.length p.a, .int .i64 t.t.k, .int .i64 t.t.a, .string t.t.s, .int .i64 t.t.n, .slice p.F t.t.l.length p.C, .slice p.B t.co.length p.b, .slice p.D t.ro.length p.d] 39)
      have HR1 := Lib.hid R1
      have HN1 : Hid (kdD.inn (w1.alloc (.cells #[.int .i64 t.k, .int .i64 t.a, .string t.s, .slice p.A t.te.length p.a, .int .i64 t.t.k, .int .i64 t.t.a, .string t.t.s, .int .i64 t.t.n, .slice p.F t.t.l.length p.C, .slice p.B t.co.length p.b, .slice p.D t.ro.length p.d] 39)) (fun b => wr.heap.size ≤ b ∧ b < w1.heap.size) (t, p)) := Lib.hid ⟨wr.heap.size, w1.heap.size, fun b h1 h2 => ⟨h1, h2⟩, hn1.to (fun b o h1 h2 => ((Below.refl w1.heap.size w1).alloc (Nat.le_refl _) _).cell (p := ⟨b, o, none⟩) h2) (fun b h1 h2 => ⟨h1, h2⟩)⟩
      have HRD1 := Lib.hid hr1
      have HK1 := Lib.hid (HKP.out.trans hk1)
      clear R1 hn1 hr1 hk1 HROW HKP HRD
      go_wp2_with (at_builtin; refine wpList_app rfl _ _ 22 rfl w.heap.size 39 i0 (.agg #[.int .i64 0, .int .i64 0, .string ⟨#[]⟩, .slice none 0 0, .int .i64 0, .int .i64 0, .string ⟨#[]⟩, .int .i64 0, .slice none 0 0, .slice none 0 0, .slice none 0 0]) 11 168 Tryz.underlying22 hi0 hz0 hz1 hz2 rfl (by decide) _ _ _ rfl (show World.ownsRow _ _ _ 11 _ _ _ from HR1.out.row) (some ⟨w1.heap.size, 0, none⟩) 1 1 [.int .i64 t.k, .int .i64 t.a, .string t.s, .slice p.A t.te.length p.a, .int .i64 t.t.k, .int .i64 t.t.a, .string t.t.s, .int .i64 t.t.n, .slice p.F t.t.l.length p.C, .slice p.B t.co.length p.b, .slice p.D t.ro.length p.d] rfl (src_at _ _ _ rfl rfl) (by intro u hu; simp at hu; rcases hu with rfl | rfl | rfl | rfl | rfl | rfl | rfl | rfl | rfl | rfl | rfl <;> rfl) ?c3 ?c4 ?c5 ?_)
      case c3 => have := HPM.out; unfold maxLen; omega
      case c4 => have := HPM.out; omega
      case c5 => simp; omega
      rintro v2 w3 ⟨hown3, hg3, ho3⟩
      have hsz3 := hg3.size
      simp at hsz3
      have hown0 := HR1.out.row.lt
      have HB3 := Lib.hid ((Below.refl w.heap.size (w1.alloc (.cells #[.int .i64 t.k, .int .i64 t.a, .string t.s, .slice p.A t.te.length p.a, .int .i64 t.t.k, .int .i64 t.t.a, .string t.t.s, .int .i64 t.t.n, .slice p.F t.t.l.length p.C, .slice p.B t.co.length p.b, .slice p.D t.ro.length p.d] 39))).grown hg3 (by simp; omega) (fun k hk => (hown0 k hk).1))
      have HRow := Lib.hid (HR1.out.push (Pn := fun b => wr.heap.size ≤ b ∧ b < w1.heap.size) (p := (t, p)) HN1.out (fun b hb => ⟨by simp; omega, fun e => by
        have := (HLT0.out b e).2
        omega⟩) hown3 hg3 ho3)
      obtain ⟨a2, c2', hv2⟩ := own_shapeX hown3
      subst hv2
      clear hown3 hg3 ho3 hown0
      go_wp2_with fail
      go_roundw
      case rel =>
        refine ⟨pre ++ [t], l', s1, ps ++ [(t, p)], fun b => P b ∨ (wr.heap.size ≤ b ∧ b < w1.heap.size), HLL, Lib.hid (by rw [List.length_append]; exact HCH.out), HRow, Lib.hid ?_, Lib.hid (by rw [List.map_append, HPS.out]; rfl), Lib.hid ((HRD1.out.alloc _).under HB3.out hrl), Lib.hid ((HK1.out.alloc _).next HB3.out)⟩
        intro b hb
        rcases hb with hb | hb
        · exact HPP.out b hb
        · omega
      case measure =>
        have := HLT.out
        simp [vlen]; omega

set_option maxHeartbeats 1000000 in
theorem decls_c {w : World} {r g : Nat} {L : List Tk} {cap : Nat} {s s' : St} {l : List DT} (h : Rd w r g L cap s) (hc : ChainX L (OneD 87 r g L cap) (nxGo L) 8192 0 s l s') :
    Calls Tryz.prog 48 #[.pointer (some ⟨r, 0, none⟩)] w (ListDR l r g L cap s' w) := by
  have HL := Lib.hid (list_decls h hc)
  clear h hc
  go_enter Tryz.func48, Tryz.ntmps48
  go_wp2_with fail
  refine HL.out.mono ?_; rintro e w1 hx
  have HX := Lib.hid hx
  obtain ⟨A, c, rfl, -⟩ := hx
  go_wp2_with fail
  go_ret
  exact HX.out

end Go.Proofs.YteaojmcfppbgiaaGreatDoor
