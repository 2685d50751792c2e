/- tree.renew, tree.Copy: a node in new memory. -/
import Derived.Test.YtmnhpaidaomfbaaDoorApp
import Derived.Test.YtmnhpaidaomfbaaDoorDeep
namespace Go.Proofs.YtmnhpaidaomfbaaDoor
open Go.RowKit
set_option linter.unusedVariables false
set_option maxRecDepth 100000

theorem infoN : (Tryd.prog.info? 24).map (fun i => (i.zero, i.size, i.bytes)) = some (some (.agg #[.int .i64 0, .int .i64 0, .string ⟨#[]⟩, .int .i64 0, .slice none 0 0]), 5, 64) := by kernel_rfl
theorem own_slice2 {w : World} {base : Nat} {e : TypeId} {size : Nat} {v : Value} {n : Nat} {xs : List Value} (h : w.ownsRow base e size v n xs) : ∃ a cap, v = .slice a n cap := by
  rcases h.2 with ⟨rfl, rfl⟩ | ⟨g, cap, cur, rfl, _⟩
  · exact ⟨_, _, rfl⟩
  · exact ⟨_, _, rfl⟩

theorem IsNode.setFar {w : World} {lo hi : Nat} {t : RT} {A : Option Addr} {cap : Nat} (h : IsNode w lo hi t A cap) {a : Addr} (ha : a.block < lo) (u : Value) : IsNode (w.setCell a u) lo hi t A cap :=
  h.imp (fun b o h1 _ => World.cell?_setCell_other _ _ _ _ (fun e => by
    have := congrArg Addr.block e
    simp at this
    omega)) (Nat.le_refl _) (Nat.le_refl _)

theorem NodeRow.parentQ {w : World} {base : Nat} {e : TypeId} {A : Option Addr} {cap : Nat} {ps : List (RT × Option Addr × Nat)} {P Q : Nat → Prop} (h : NodeRow w base e (.slice A ps.length cap) ps P) (hP : ∀ b, P b → Q b) (hQ : ∀ b, (Value.slice A ps.length cap).ownBlock = some b → Q b)
    (k a : Int) (s : ByteArray) (n : Int) (hs : s.size ≤ maxLen) : NodeIn w Q (.node k a s n (ps.map (·.1))) A cap := by
  have h0 := h.parent (lo := 0) (Nat.zero_le _) (fun _ _ => Nat.zero_le _) k a s n hs
  cases h0 with
  | mk k a s n l A cap F C hs hl hm hc hn =>
    refine NodeIn.mk k a s n _ A cap (fun i => (ps[i]?.map fun p => p.2.1).getD none) (fun i => (ps[i]?.map fun p => p.2.2).getD 0) hs hl hm (fun h0 => ?_) (fun i hi => ?_)
    · have hi' : 0 < ps.length := by simpa using h0
      obtain ⟨g, c, hv, _, _⟩ := h.row.form hi'
      injection hv with hv _ _
      subst hv
      refine ⟨g, 0, rfl, hQ g rfl, fun i hi => ?_⟩
      have hi' : i < ps.length := by simpa using hi
      have hat := fun r (hr : r < 5) => (h.row.cellAt (i * 5 + r) (by omega)).trans (flatP_at ps i r hi' hr)
      have e : (ps.map (·.1))[i] = ps[i].1 := List.getElem_map _
      rw [e, List.getElem?_eq_getElem hi']
      have a0 := hat 0 (by omega)
      rw [Nat.add_zero] at a0
      exact ⟨by rw [Nat.zero_add, a0]; rfl, by rw [Nat.zero_add, hat 1 (by omega)]; rfl, by rw [Nat.zero_add, hat 2 (by omega)]; rfl, by rw [Nat.zero_add, hat 3 (by omega)]; rfl, by rw [Nat.zero_add, hat 4 (by omega)]; rfl⟩
    · have hi' : i < ps.length := by simpa using hi
      rw [List.getElem?_eq_getElem hi', List.getElem_map]
      exact (h.node _ (List.getElem_mem hi')).imp (fun _ _ _ => rfl) hP
/-- Blocks of which none is frozen. -/
def Cold (w : World) (P : Nat → Prop) : Prop := ∀ b, P b → ∀ q, w.frozen? ⟨b, q, none⟩ = false
theorem Cold.kept {w w' : World} {P : Nat → Prop} (h : Cold w P) (hb : ∀ b, P b → w'.heap[b]? = w.heap[b]?) : Cold w' P := fun b hp q => (World.frozen?_of_block (a := ⟨b, q, none⟩) (hb b hp)).trans (h b hp q)
theorem own_cold {w : World} {base : Nat} {e : TypeId} {size : Nat} {v : Value} {n : Nat} {xs : List Value} (h : w.ownsRow base e size v n xs) : Cold w fun b => v.ownBlock = some b := by
  intro b hb q
  rcases h.2 with ⟨rfl, _⟩ | ⟨g, cap, cur, rfl, _, hg, _⟩
  · simp [Value.ownBlock] at hb
  · have e : g = b := by simpa [Value.ownBlock] using hb
    subst e
    simp [World.frozen?, hg]
theorem NodeIn.five {w : World} {P : Nat → Prop} {g : Nat} {t : RT} {A : Option Addr} {cap : Nat} (h : NodeIn w P t A cap) (hg : ∀ b, P b → b ≠ g) (v0 v1 v2 v3 v4 : Value) :
    NodeIn (((((w.setCell ⟨g, 0, none⟩ v0).setCell ⟨g, 1, none⟩ v1).setCell ⟨g, 2, none⟩ v2).setCell ⟨g, 3, none⟩ v3).setCell ⟨g, 4, none⟩ v4) P t A cap := by
  refine h.imp (fun b o hb => ?_) (fun _ h => h)
  have hne : ∀ o', (⟨g, o', none⟩ : Addr) ≠ ⟨b, o, none⟩ := fun o' e => by
    have := congrArg Addr.block e
    exact hg b hb this.symm
  rw [World.cell?_setCell_other _ _ _ _ (hne _), World.cell?_setCell_other _ _ _ _ (hne _), World.cell?_setCell_other _ _ _ _ (hne _), World.cell?_setCell_other _ _ _ _ (hne _), World.cell?_setCell_other _ _ _ _ (hne _)]
theorem block_five (w : World) (g b : Nat) (h : b ≠ g) (v0 v1 v2 v3 v4 : Value) : (((((w.setCell ⟨g, 0, none⟩ v0).setCell ⟨g, 1, none⟩ v1).setCell ⟨g, 2, none⟩ v2).setCell ⟨g, 3, none⟩ v3).setCell ⟨g, 4, none⟩ v4).heap[b]? = w.heap[b]? := by
  rw [Below.heap_setCell _ _ _ _ (by exact h), Below.heap_setCell _ _ _ _ (by exact h), Below.heap_setCell _ _ _ _ (by exact h), Below.heap_setCell _ _ _ _ (by exact h), Below.heap_setCell _ _ _ _ (by exact h)]

def RenewIs (t : RT) (w : World) (e : Ending) (w' : World) : Prop :=
  ∃ A cap P, e = .returned (nodeV t A cap) ∧ NodeIn w' P t A cap ∧ (∀ b, P b → w.heap.size ≤ b ∧ b < w'.heap.size) ∧ Cold w' P ∧ Below w.heap.size w w'
def RenewRel (w : World) (k a : Int) (s : ByteArray) (n : Int) (l : List RT) (A : Option Addr) (cap : Nat) (nv iv : Value) (wr : World) : Prop :=
  ∃ (i : Nat) (ps : List (RT × Option Addr × Nat)) (P : Nat → Prop), i ≤ l.length ∧ iv = .int .i64 i ∧ Below w.heap.size w wr ∧
    Bk wr w.heap.size 24 #[.int .i64 k, .int .i64 a, .string s, .int .i64 n, .slice A l.length cap] ∧ Bk wr (w.heap.size + 1) 24 #[.int .i64 0, .int .i64 0, .string ⟨#[]⟩, .int .i64 0, .slice none 0 0] ∧
    NodeRow wr (w.heap.size + 2) 24 nv ps P ∧ (∀ b, P b → w.heap.size + 2 ≤ b) ∧ Cold wr P ∧ ps.map (·.1) = l.take i

set_option maxHeartbeats 2000000 in
theorem renew_any : ∀ (t : RT) (lo hi : Nat) (A : Option Addr) (cap : Nat) (w : World), IsNode w lo hi t A cap → hi ≤ w.heap.size → t.size ≤ 8192 →
    Calls Tryd.prog 40 #[nodeV t A cap] w (RenewIs t w) := by
  intro t
  induction t using RT.ind with
  | h k a s n l ih =>
    intro lo hi A cap w h hhi hsz
    obtain ⟨i0, hi0, hz0, hz1, hz2⟩ := info_parts infoN
    obtain ⟨hs, hl, hm⟩ := h.bounds
    rw [size_node] at hsz
    have hll := sizeL_len l
    have hl9 : l.length ≤ 8192 := by omega
    have HSZ := Lib.hid hsz
    have HSS := Lib.hid hs
    have IH := Lib.hid ih
    have HN := Lib.hid h.sub
    unfold maxLen at hm hs
    clear ih h hsz hll
    rw [nodeV_node]
    go_enter Tryd.func40, Tryd.ntmps40
    go_wp2_with fail
    go_loopw [3, 9] (RenewRel w k a s n l A cap) (fun _ iv _ => l.length - (intOf iv).toNat)
    case atStart =>
      refine ⟨0, [], fun _ => False, Nat.zero_le _, rfl, ((Below.refl _ _).alloc (Nat.le_refl _) _).alloc (by simp) _, (Bk.new w 24 _).alloc _, ?_, NodeRow.nil _ _ _, fun _ h => h.elim, fun _ h => h.elim, by rw [List.take_zero]; rfl⟩
      have := Bk.new (w.alloc (.cells #[.int .i64 k, .int .i64 a, .string s, .int .i64 n, .slice A l.length cap] 24)) 24 #[.int .i64 0, .int .i64 0, .string ⟨#[]⟩, .int .i64 0, .slice none 0 0]
      simpa using this
    case round =>
      obtain ⟨i, ps, P, hi1, rfl, hB, b1, b2, hrow, hP, hcold, hpl⟩ := hrel
      have HC := Lib.hid hcold
      clear hcold
      have hz := hB.size
      have hlt2 := b2.lt
      obtain ⟨a1, c1, rfl⟩ := own_slice2 hrow.row
      have hps : ps.length = i := by
        have := congrArg List.length hpl
        rw [List.length_map, List.length_take] at this
        omega
      have HPS := Lib.hid hps
      have HB1 := Lib.hid b1
      have HB2 := Lib.hid b2
      have HROW := Lib.hid hrow
      have HPP := Lib.hid hP
      have HPL := Lib.hid hpl
      clear b1 b2 hrow hP hpl hps
      by_cases hil : i < l.length
      · obtain ⟨b, o, F, C, hA, hb1, hb2, hx, hnode⟩ := (HN.out i hil).kept hB hhi
        subst hA
        obtain ⟨x0', x1', x2', x3', x4'⟩ := hx
        have hsm : l[i].size ≤ 8192 := by have h1 := size_mem (List.getElem_mem hil); have h2 := HSZ.out; omega
        have HIH := Lib.hid (IH.out l[i] (List.getElem_mem hil) lo hi F C)
        have hi1' : (i : Int) < (l.length : Int) := by omega
        have HST : Hid ((ps ++ [(l[i], F, C)]).map (·.1) = l.take (i + 1)) := Lib.hid (by rw [List.map_append, HPL.out, take_snoc hil]; rfl)
        obtain ⟨u, hu⟩ : ∃ u, l[i] = u := ⟨_, rfl⟩
        unfold RenewIs at HIH
        rw [hu] at HIH hnode x0' x1' x2' x3' x4' HST hsm
        have HSM := Lib.hid hsm
        clear hu hsm
        go_wp2_with fail
        refine (HIH.out _ (hnode.alloc (by omega) _) (by simp; omega) HSM.out).mono ?_
        rintro e w1 ⟨F', C', Pn, rfl, hn1, hpn, hcn, hb1⟩
        rw [nodeV]
        have HPN := Lib.hid hpn
        have HCN := Lib.hid hcn
        have hsz1 := hb1.size
        simp at hsz1
        have B1 := (HB1.out.alloc (.cells #[.int .i64 u.k, .int .i64 u.a, .string u.s, .int .i64 u.n, .slice F u.l.length C] 24)).below hb1 (by simp; omega)
        have B2 := (HB2.out.alloc (.cells #[.int .i64 u.k, .int .i64 u.a, .string u.s, .int .i64 u.n, .slice F u.l.length C] 24)).below hb1 (by simp; omega)
        have R1 := ((HROW.out.alloc (.cells #[.int .i64 u.k, .int .i64 u.a, .string u.s, .int .i64 u.n, .slice F u.l.length C] 24)).below hb1).alloc (.cells #[.int .i64 u.k, .int .i64 u.a, .string u.s, .int .i64 u.n, .slice F' u.l.length C'] 24)
        have HR1 := Lib.hid R1
        have HBB1 := Lib.hid B1
        have HBB2 := Lib.hid B2
        have HN1 := Lib.hid hn1
        have HOW := Lib.hid R1.row
        have hq1 : ∀ b, P b → w1.heap[b]? = wr.heap[b]? := fun b hb => by
          have := (HROW.out.far b hb).1
          rw [hb1.block b (by simp; omega), Below.heap_alloc _ _ _ this]
        have HQ1 := Lib.hid hq1
        clear R1 B1 B2 hn1 hpn hcn hq1
        go_wp2_with (at_builtin; refine wpList_app rfl _ _ 22 rfl (w.heap.size + 2) 24 i0 (.agg #[.int .i64 0, .int .i64 0, .string ⟨#[]⟩, .int .i64 0, .slice none 0 0]) 5 64 Tryd.underlying22 hi0 hz0 hz1 hz2 rfl (by decide) _ _ _ rfl HOW.out (some ⟨w1.heap.size, 0, none⟩) 1 1 (cellsP (u, F', C')) rfl (src_at _ _ _ (by simp) rfl) (cellsP_one _) ?c3 ?c4 ?c5 ?_)
        case c3 => have := HPS.out; unfold maxLen; omega
        case c4 => have := HPS.out; omega
        case c5 => simp; omega
        rintro v2 w3 ⟨hown3, hg3, ho3⟩
        have hsz3 := hg3.size
        simp at hsz3
        have hown0 := HR1.out.row.lt
        have HRow := Lib.hid (HR1.out.push (Pn := Pn) (p := (u, F', C')) (HN1.out.imp (fun b o hb => World.cell?_alloc_lt _ _ _ (HPN.out b hb).2) (fun _ h => h)) (fun b hb => ⟨by have := (HPN.out b hb).2; simp; omega, fun e => by
          have h1 := HROW.out.row.lt b e
          have h2 := (HPN.out b hb).1
          simp at h2
          omega⟩) hown3 hg3 ho3)
        have HCC : Hid (Cold w3 fun b => P b ∨ Pn b) := by
          show ∀ b, _
          intro b hb q
          rcases hb with hb | hb
          · have h1 := HROW.out.far b hb
            rw [World.frozen?_of_block (a := ⟨b, q, none⟩) ((hg3.block b (by simp; omega) (fun e => h1.2 e.symm)).trans ((Below.heap_alloc _ _ _ (by omega)).trans (HQ1.out b hb)))]
            exact HC.out b hb q
          · have h1 := HPN.out b hb
            simp at h1
            rw [World.frozen?_of_block (a := ⟨b, q, none⟩) ((hg3.block b (by simp; omega) (fun e => by have := HROW.out.row.lt b e.symm; omega)).trans (Below.heap_alloc _ _ _ (by omega)))]
            exact HCN.out b hb q
        have hne : ∀ g, g < w.heap.size + 2 → some g ≠ (Value.slice a1 ps.length c1).ownBlock := fun g hg e => by
          have := hown0 g e.symm
          omega
        have B1 := Lib.hid ((HBB1.out.alloc _).grown hg3 (hne _ (by omega)))
        have B2 := Lib.hid ((HBB2.out.alloc _).grown hg3 (hne _ (by omega)))
        have hbb := ((hB.alloc hz (.cells #[.int .i64 u.k, .int .i64 u.a, .string u.s, .int .i64 u.n, .slice F u.l.length C] 24)).trans (hb1.mono (by simp; omega))).alloc (by omega) (.cells #[.int .i64 u.k, .int .i64 u.a, .string u.s, .int .i64 u.n, .slice F' u.l.length C'] 24)
        have HB4 := Lib.hid (hbb.grown hg3 (by simp; omega) (fun g e => by have := hown0 g e; omega))
        clear hown3 hg3 ho3 hown0 hne hbb hb1
        go_wp2_with fail
        go_roundw
        case rel =>
          refine ⟨i + 1, ps ++ [(u, F', C')], fun b => P b ∨ Pn b, by omega, rfl, HB4.out, B1.out, B2.out, HRow.out, ?_, HCC.out, ?_⟩
          · intro b hb
            rcases hb with hb | hb
            · exact HPP.out b hb
            · have := (HPN.out b hb).1; simp at this; omega
          · have := HST.out
            rw [List.map_append] at this ⊢
            exact this
        case measure => simp [intOf]; omega
      · obtain rfl : i = l.length := by omega
        have hfull : ps.map (·.1) = l := by rw [HPL.out, List.take_length]
        have hpar := HROW.out.parentQ (Q := fun b => P b ∨ (Value.slice a1 ps.length c1).ownBlock = some b) (fun b h => .inl h) (fun b h => .inr h) k a s n HSS.out
        rw [hfull] at hpar
        have hqr : ∀ b, (P b ∨ (Value.slice a1 ps.length c1).ownBlock = some b) → w.heap.size + 2 ≤ b ∧ b < wr.heap.size := fun b hb => by
          rcases hb with hb | hb
          · exact ⟨HPP.out b hb, (HROW.out.far b hb).1⟩
          · exact HROW.out.row.lt b hb
        have hqc : Cold wr fun b => P b ∨ (Value.slice a1 ps.length c1).ownBlock = some b := fun b hb q => by
          rcases hb with hb | hb
          · exact HC.out b hb q
          · exact own_cold HROW.out.row b hb q
        have HQR := Lib.hid hqr
        have HQC := Lib.hid hqc
        clear hqr hqc
        have HPAR := Lib.hid hpar
        have hfz : ∀ o, wr.frozen? ⟨w.heap.size + 1, o, none⟩ = false := fun o => HB2.out.cold o
        have hfz1 : wr.frozen? ⟨w.heap.size, 4, none⟩ = false := HB1.out.cold 4
        have d0 : wr.cell? ⟨w.heap.size + 1, 0, none⟩ = some (.int .i64 0) := HB2.out.cell 0
        have d1 : wr.cell? ⟨w.heap.size + 1, 1, none⟩ = some (.int .i64 0) := HB2.out.cell 1
        have d2 : wr.cell? ⟨w.heap.size + 1, 2, none⟩ = some (.string ⟨#[]⟩) := HB2.out.cell 2
        have d3 : wr.cell? ⟨w.heap.size + 1, 3, none⟩ = some (.int .i64 0) := HB2.out.cell 3
        have d4 : wr.cell? ⟨w.heap.size + 1, 4, none⟩ = some (.slice none 0 0) := HB2.out.cell 4
        have e0 : wr.cell? ⟨w.heap.size, 0, none⟩ = some (.int .i64 k) := HB1.out.cell 0
        have e1 : wr.cell? ⟨w.heap.size, 1, none⟩ = some (.int .i64 a) := HB1.out.cell 1
        have e2 : wr.cell? ⟨w.heap.size, 2, none⟩ = some (.string s) := HB1.out.cell 2
        have e3 : wr.cell? ⟨w.heap.size, 3, none⟩ = some (.int .i64 n) := HB1.out.cell 3
        have e4 : wr.cell? ⟨w.heap.size, 4, none⟩ = some (.slice A l.length cap) := HB1.out.cell 4
        have B5 := (((((HB2.out.far (a := ⟨w.heap.size, 4, none⟩) (by simp) (.slice a1 ps.length c1)).at_ 0 (.int .i64 k)).at_ 1 (.int .i64 a)).at_ 2 (.string s)).at_ 3 (.int .i64 n)).at_ 4 (.slice a1 ps.length c1)
        have HS0 := Lib.hid (B5.cell 0)
        have HS1 := Lib.hid (B5.cell 1)
        have HS2 := Lib.hid (B5.cell 2)
        have HS3 := Lib.hid (B5.cell 3)
        have HS4 := Lib.hid (B5.cell 4)
        have HLL : Hid (ps.length = l.length) := Lib.hid (by have := congrArg List.length hfull; rw [List.length_map] at this; exact this)
        clear hfull hpar B5
        go_wp2_with fail
        refine bodyPost_ret (v := .agg #[.int .i64 k, .int .i64 a, .string s, .int .i64 n, .slice a1 ps.length c1]) (by simp [results, Tryd.results40, go_sem, HS0.out, HS1.out, HS2.out, HS3.out, HS4.out]) rfl ?_
        refine ⟨a1, c1, fun b => P b ∨ (Value.slice a1 ps.length c1).ownBlock = some b, by rw [nodeV_node, HLL.out], ?_, ?_, ?_, ?_⟩
        · exact (HPAR.out.imp (fun b o hb => World.cell?_setCell_other _ _ _ _ (fun e => by
            have h1 := congrArg Addr.block e
            have h2 := HQR.out b hb
            simp at h1
            omega)) (fun _ h => h)).five (fun b hb e => by have := HQR.out b hb; omega) _ _ _ _ _
        · intro b hb
          have := HQR.out b hb
          exact ⟨by omega, by rw [size_five]; simp [World.setCell]; omega⟩
        · refine HQC.out.kept (fun b hb => ?_)
          have := HQR.out b hb
          rw [block_five _ _ _ (by omega), Below.heap_setCell _ _ _ _ (by show b ≠ w.heap.size; omega)]
        · exact (((((hB.setCell (by simp) _).setCell (by simp) _).setCell (by simp) _).setCell (by simp) _).setCell (by simp) _).setCell (by simp) _

def CopyIs (t : RT) (w : World) (e : Ending) (w' : World) : Prop :=
  (fitB t = true ∧ RenewIs t w e w') ∨ (fitB t = false ∧ e = .returned (.agg #[.int .i64 0, .int .i64 0, .string ⟨#[]⟩, .int .i64 0, .slice none 0 0]) ∧ Below w.heap.size w w')

set_option maxHeartbeats 1000000 in
theorem copy_any (t : RT) (lo hi : Nat) (A : Option Addr) (cap : Nat) (w : World) (h : IsNode w lo hi t A cap) (hhi : hi ≤ w.heap.size) :
    Calls Tryd.prog 21 #[nodeV t A cap] w (CopyIs t w) := by
  have hf := fits_any t lo hi A cap
  obtain ⟨x, hx⟩ : ∃ x, fitB t = x := ⟨_, rfl⟩
  rw [hx] at hf
  have HF := Lib.hid hf
  have HX := Lib.hid hx
  have hren : x = true → ∀ (W : World), IsNode W lo hi t A cap → hi ≤ W.heap.size → Calls Tryd.prog 40 #[nodeV t A cap] W (RenewIs t W) := fun e W h1 h2 => renew_any t lo hi A cap W h1 h2 (fitB_true.1 (hx.trans e)).1
  have HREN := Lib.hid hren
  clear hf hx hren
  unfold nodeV at HF HREN ⊢
  go_enter Tryd.func21, Tryd.ntmps21
  go_wp2_with fail
  refine (HF.out _ ((h.alloc hhi _).alloc (by simp; omega) _) (by simp; omega)).mono ?_
  rintro e w1 ⟨rfl, hb1⟩
  have hsz1 := hb1.size
  simp at hsz1
  have B1 : Bk w1 (w.heap.size + 1) 24 #[.int .i64 0, .int .i64 0, .string ⟨#[]⟩, .int .i64 0, .slice none 0 0] := by
    have := (Bk.new (w.alloc (.cells #[.int .i64 t.k, .int .i64 t.a, .string t.s, .int .i64 t.n, .slice A t.l.length cap] 24)) 24 #[.int .i64 0, .int .i64 0, .string ⟨#[]⟩, .int .i64 0, .slice none 0 0]).below hb1 (by simp)
    simpa using this
  have B0 : Bk w1 w.heap.size 24 #[.int .i64 t.k, .int .i64 t.a, .string t.s, .int .i64 t.n, .slice A t.l.length cap] := ((Bk.new w 24 _).alloc _).below hb1 (by simp; omega)
  have HB1 := Lib.hid ((((Below.refl _ _).alloc (Nat.le_refl _) (.cells #[.int .i64 t.k, .int .i64 t.a, .string t.s, .int .i64 t.n, .slice A t.l.length cap] 24)).alloc (by simp) (.cells #[.int .i64 0, .int .i64 0, .string ⟨#[]⟩, .int .i64 0, .slice none 0 0] 24)).trans (hb1.mono (by simp; omega)))
  have HN1 := Lib.hid (((h.alloc hhi (.cells #[.int .i64 t.k, .int .i64 t.a, .string t.s, .int .i64 t.n, .slice A t.l.length cap] 24)).alloc (by simp; omega) (.cells #[.int .i64 0, .int .i64 0, .string ⟨#[]⟩, .int .i64 0, .slice none 0 0] 24)).kept hb1 (by simp; omega))
  have k0 : w1.cell? ⟨w.heap.size, 0, none⟩ = some (.int .i64 t.k) := B0.cell 0
  have k1 : w1.cell? ⟨w.heap.size, 1, none⟩ = some (.int .i64 t.a) := B0.cell 1
  have k2 : w1.cell? ⟨w.heap.size, 2, none⟩ = some (.string t.s) := B0.cell 2
  have k3 : w1.cell? ⟨w.heap.size, 3, none⟩ = some (.int .i64 t.n) := B0.cell 3
  have k4 : w1.cell? ⟨w.heap.size, 4, none⟩ = some (.slice A t.l.length cap) := B0.cell 4
  have HBK := Lib.hid B1
  clear hb1 B0 B1
  cases x with
  | false =>
    have hfz : ∀ o, w1.frozen? ⟨w.heap.size + 1, o, none⟩ = false := fun o => HBK.out.cold o
    have d0 : w1.cell? ⟨w.heap.size + 1, 0, none⟩ = some (.int .i64 0) := HBK.out.cell 0
    have d1 : w1.cell? ⟨w.heap.size + 1, 1, none⟩ = some (.int .i64 0) := HBK.out.cell 1
    have d2 : w1.cell? ⟨w.heap.size + 1, 2, none⟩ = some (.string ⟨#[]⟩) := HBK.out.cell 2
    have d3 : w1.cell? ⟨w.heap.size + 1, 3, none⟩ = some (.int .i64 0) := HBK.out.cell 3
    have d4 : w1.cell? ⟨w.heap.size + 1, 4, none⟩ = some (.slice none 0 0) := HBK.out.cell 4
    have B5 := ((((HBK.out.at_ 0 (.int .i64 0)).at_ 1 (.int .i64 0)).at_ 2 (.string ⟨#[]⟩)).at_ 3 (.int .i64 0)).at_ 4 (.slice none 0 0)
    have HS0 := Lib.hid (B5.cell 0)
    have HS1 := Lib.hid (B5.cell 1)
    have HS2 := Lib.hid (B5.cell 2)
    have HS3 := Lib.hid (B5.cell 3)
    have HS4 := Lib.hid (B5.cell 4)
    clear B5
    go_wp2_with fail
    refine bodyPost_ret (v := .agg #[.int .i64 0, .int .i64 0, .string ⟨#[]⟩, .int .i64 0, .slice none 0 0]) (by simp [results, Tryd.results21, go_sem, HS0.out, HS1.out, HS2.out, HS3.out, HS4.out]) rfl ?_
    exact .inr ⟨HX.out, rfl, ((((HB1.out.setCell (by simp) _).setCell (by simp) _).setCell (by simp) _).setCell (by simp) _).setCell (by simp) _⟩
  | true =>
    have HR2 := Lib.hid (HREN.out rfl)
    clear HREN
    go_wp2_with fail
    refine (HR2.out _ HN1.out (by omega)).mono ?_
    rintro e w2 ⟨A', cap', P, rfl, hn2, hp2, hc2, hb2⟩
    rw [nodeV]
    have HP2 := Lib.hid hp2
    have HC2 := Lib.hid hc2
    have hsz2 := hb2.size
    have HB2 := Lib.hid (HB1.out.trans (hb2.mono (by omega)))
    have BK2 := HBK.out.below hb2 (by omega)
    have hfz : ∀ o, w2.frozen? ⟨w.heap.size + 1, o, none⟩ = false := fun o => BK2.cold o
    have d0 : w2.cell? ⟨w.heap.size + 1, 0, none⟩ = some (.int .i64 0) := BK2.cell 0
    have d1 : w2.cell? ⟨w.heap.size + 1, 1, none⟩ = some (.int .i64 0) := BK2.cell 1
    have d2 : w2.cell? ⟨w.heap.size + 1, 2, none⟩ = some (.string ⟨#[]⟩) := BK2.cell 2
    have d3 : w2.cell? ⟨w.heap.size + 1, 3, none⟩ = some (.int .i64 0) := BK2.cell 3
    have d4 : w2.cell? ⟨w.heap.size + 1, 4, none⟩ = some (.slice none 0 0) := BK2.cell 4
    have B5 := ((((BK2.at_ 0 (.int .i64 t.k)).at_ 1 (.int .i64 t.a)).at_ 2 (.string t.s)).at_ 3 (.int .i64 t.n)).at_ 4 (.slice A' t.l.length cap')
    have HS0 := Lib.hid (B5.cell 0)
    have HS1 := Lib.hid (B5.cell 1)
    have HS2 := Lib.hid (B5.cell 2)
    have HS3 := Lib.hid (B5.cell 3)
    have HS4 := Lib.hid (B5.cell 4)
    have HN2 := Lib.hid hn2
    clear B5 BK2 hb2 hn2 hp2 hc2
    go_wp2_with fail
    refine bodyPost_ret (v := .agg #[.int .i64 t.k, .int .i64 t.a, .string t.s, .int .i64 t.n, .slice A' t.l.length cap']) (by simp [results, Tryd.results21, go_sem, HS0.out, HS1.out, HS2.out, HS3.out, HS4.out]) rfl ?_
    refine .inl ⟨HX.out, A', cap', P, rfl, ?_, ?_, ?_, ((((HB2.out.setCell (by simp) _).setCell (by simp) _).setCell (by simp) _).setCell (by simp) _).setCell (by simp) _⟩
    · exact HN2.out.five (fun b hb e => by have := HP2.out b hb; omega) _ _ _ _ _
    · intro b hb
      have := HP2.out b hb
      exact ⟨by omega, by rw [size_five]; omega⟩
    · refine HC2.out.kept (fun b hb => ?_)
      have := HP2.out b hb
      rw [block_five _ _ _ (by omega)]

end Go.Proofs.YtmnhpaidaomfbaaDoor
