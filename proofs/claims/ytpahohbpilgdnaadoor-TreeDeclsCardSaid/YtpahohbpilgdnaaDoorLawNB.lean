/- scholiumlaw04.nodes: the document's nodes, or that one is very great. -/
import Derived.Test.YtpahohbpilgdnaaDoorOf
import Derived.Test.YtpahohbpilgdnaaDoorIdx
import Derived.Test.YtpahohbpilgdnaaDoorDecV
import Derived.Deep.RegionHeld3
namespace Go.Proofs.YtpahohbpilgdnaaDoor
open Go.RowKit
set_option linter.unusedVariables false
set_option maxRecDepth 100000

/-- A list's copy, where it is told to be one. -/
def CopyN (l : List RT) (w w' : World) (ok : Bool) (n : Nat) (A : Option Addr) (cap : Nat) : Prop :=
  ok = true → n = l.length ∧ l.length ≤ cap ∧ cap ≤ maxLen ∧ NodesAt w' w.heap.size w'.heap.size A l
def NsIs (l : List RT) (w : World) (e : Ending) (w' : World) : Prop :=
  ∃ ok n A cap, e = .returned (.tuple #[.slice A n cap, .bool ok]) ∧ CopyN l w w' ok n A cap ∧ Below w.heap.size w w'

set_option maxHeartbeats 4000000 in
theorem nodes_any (l : List RT) (A : Option Addr) (cap lo hi : Nat) (w : World) (hl : l.length ≤ 30) (hn : NodesAt w lo hi A l) (hhi : hi ≤ w.heap.size) :
    Calls Tryd.prog 43 #[.slice A l.length cap] w (NsIs l w) := by
  have HN := Lib.hid hn
  have HO := Lib.hid (fun t lo hi A cap W h1 h2 => of_any t lo hi A cap W h1 h2)
  unfold OfIs at HO
  have HL := Lib.hid hl
  clear hn hl
  obtain ⟨hi0, hz0, hz9⟩ : ∃ i0 : TypeInfo, Tryd.prog.info? 27 = some i0 ∧ i0.zero = some (.agg #[.int .i64 0, .int .i64 0, .string ⟨#[]⟩, .int .i64 0, .slice none 0 0]) ∧ i0.size = 5 ∧ i0.bytes = 64 := by
    have h := infoR
    cases hh : Tryd.prog.info? 27 with
    | none => rw [hh] at h; cases h
    | some i => rw [hh] at h; simp at h; exact ⟨i, rfl, h.1, h.2.1, h.2.2⟩
  obtain ⟨hzA, hzB, hzC⟩ := hz9
  go_enter Tryd.func43, Tryd.ntmps43
  go_wp2_with fail
  go_loopw [4, 5] (fun v iv wr => ∃ (i : Nat) (ps : List (RT × Option Addr × Nat)) (P : Nat → Prop), i ≤ l.length ∧ iv = .int .i64 i ∧ Below w.heap.size w wr ∧ NodeRow wr w.heap.size 27 v ps P ∧ (∀ b, P b → w.heap.size ≤ b) ∧ ps.length = i ∧ ps.map (·.1) = l.take i) (fun _ iv _ => l.length - (intOf iv).toNat)
  case atStart =>
    refine ⟨0, [], fun _ => False, Nat.zero_le _, rfl, (Below.refl _ _).alloc (Nat.le_refl _) _, ⟨?_, fun b hb => hb.elim, fun p hp => by cases hp⟩, fun _ h => h.elim, rfl, by rw [List.take_zero]; rfl⟩
    have := World.ownsRow_lit (base := w.heap.size) (e := 27) (size := 5) w #[] 0 (Nat.le_refl _) (by decide) rfl
    simp at this
    exact this
  case round =>
    obtain ⟨i, ps, P, hi1, rfl, hB, hrow, hP, hpl, hps⟩ := hrel
    have hz := hB.size
    obtain ⟨a1, c1, hv⟩ := own_slice hrow.row
    subst hv
    have HROW := Lib.hid hrow
    have HPP := Lib.hid hP
    have HPL := Lib.hid hpl
    have HPS := Lib.hid hps
    clear hrow hP hpl hps
    by_cases hil : i < l.length
    case neg =>
      obtain rfl : i = l.length := by omega
      have hpar := HROW.out.parent (lo := w.heap.size) (Nat.le_refl _) HPP.out 0 0 ⟨#[]⟩ 0 (by decide)
      have e : ps.map (·.1) = l := by rw [HPS.out, List.take_length]
      rw [e] at hpar
      have HPAR := Lib.hid hpar
      have hln := HPL.out
      have HBB := Lib.hid hB
      clear hpar HN HO hB
      go_wp2_with fail
      refine bodyPost_ret (v := .tuple #[.slice a1 ps.length c1, .bool true]) (by simp [results, Tryd.results43, go_sem]) rfl ?_
      exact ⟨true, _, a1, c1, rfl, fun _ => ⟨hln, HPAR.out.bounds.2.1, HPAR.out.bounds.2.2, HPAR.out.sub⟩, HBB.out⟩
    obtain ⟨b, o, F, C, hA, hb1, hb2, hx, hnode⟩ := (HN.out i hil).kept hB hhi
    subst hA
    obtain ⟨x0, x1, x2, x3, x4⟩ := hx
    have HOI := Lib.hid (HO.out l[i] lo hi F C wr hnode (by omega))
    have hi1' : (i : Int) < (l.length : Int) := by omega
    have hi30 : i ≤ 30 := by have := HL.out; omega
    have HY : Hid (ofB l[i] = true → ofT l[i] = l[i]) := Lib.hid (fun h => (of_yes h).1)
    have HTK : Hid (l.take (i + 1) = l.take i ++ [l[i]]) := Lib.hid (take_snoc hil)
    obtain ⟨u, hu⟩ : ∃ u, ofT l[i] = u := ⟨_, rfl⟩
    obtain ⟨ok, hok⟩ : ∃ ok, ofB l[i] = ok := ⟨_, rfl⟩
    rw [hu, hok] at HOI HY
    have HBB := Lib.hid hB
    clear hu hok hnode HN HO hB
    unfold nodeV at HOI
    cases ok with
    | false =>
      clear HY
      go_wp2_with fail
      refine HOI.out.mono ?_
      rintro e w1 ⟨F', C', rfl, hn1, hb1'⟩
      go_wp2_with fail
      refine bodyPost_ret (v := .tuple #[.slice none 0 0, .bool false]) (by simp [results, Tryd.results43, go_sem]) rfl ?_
      exact ⟨false, 0, none, 0, rfl, (fun h => by cases h), (HBB.out.trans (hb1'.mono hz)).alloc (by have := hb1'.size; omega) _⟩
    | true =>
      have huu := HY.out rfl
      go_wp2_with fail
      refine HOI.out.mono ?_
      rintro e w1 ⟨F', C', rfl, hn1, hb1'⟩
      have hsz1 := hb1'.size
      have R1 := ((HROW.out.below hb1').alloc (.cells #[.int .i64 u.k, .int .i64 u.a, .string u.s, .int .i64 u.n, .slice F' u.l.length C'] 27)).alloc (.cells #[.int .i64 u.k, .int .i64 u.a, .string u.s, .int .i64 u.n, .slice F' u.l.length C'] 27)
      have HR1 := Lib.hid R1
      have HN1 := Lib.hid hn1
      have hpn : ps.length ≤ 30 := by have := HPL.out; have := HL.out; omega
      have HPN := Lib.hid hpn
      have HBW := Lib.hid (HBB.out.trans (hb1'.mono hz))
      have HUU := Lib.hid huu
      clear R1 hn1 hpn huu hb1'
      go_wp2_with (at_builtin; refine wpList_app rfl _ _ 25 rfl w.heap.size 27 hi0 (.agg #[.int .i64 0, .int .i64 0, .string ⟨#[]⟩, .int .i64 0, .slice none 0 0]) 5 64 Tryd.underlying25 hz0 hzA hzB hzC rfl (by decide) _ _ _ rfl HR1.out.row (some ⟨w1.heap.size + 1, 0, none⟩) 1 1 (cellsP (u, F', C')) rfl (src_at _ _ _ (by simp) rfl) (cellsP_one _) ?c3 ?c4 ?c5 ?_)
      case c3 => have := HPN.out; unfold maxLen; omega
      case c4 => have := HPN.out; omega
      case c5 => simp; omega
      rintro v2 w3 ⟨hown3, hg3, ho3⟩
      have hsz3 := hg3.size
      simp at hsz3
      have hown0 := HR1.out.row.lt
      have HRow := Lib.hid (HR1.out.push (Pn := fun b => wr.heap.size ≤ b ∧ b < w1.heap.size) (p := (u, F', C')) (((HN1.out.alloc (Nat.le_refl _) _).alloc (by simp) _)) (fun b hb => ⟨by simp; omega, fun e => by
        have := HROW.out.row.lt b e
        omega⟩) hown3 hg3 ho3)
      have hbb := (HBW.out.alloc (by omega) (.cells #[.int .i64 u.k, .int .i64 u.a, .string u.s, .int .i64 u.n, .slice F' u.l.length C'] 27)).alloc (by simp; omega) (.cells #[.int .i64 u.k, .int .i64 u.a, .string u.s, .int .i64 u.n, .slice F' u.l.length C'] 27)
      have HB4 := Lib.hid (hbb.grown hg3 (by simp; omega) (fun g e => by have := hown0 g e; omega))
      obtain ⟨a2, c2, rfl⟩ := own_slice hown3
      clear hown3 hg3 ho3 hown0 hbb
      go_wp2_with fail
      go_roundw
      case rel =>
        refine ⟨i + 1, ps ++ [(u, F', C')], fun b => P b ∨ (wr.heap.size ≤ b ∧ b < w1.heap.size), by omega, rfl, HB4.out, HRow.out, ?_, ?_, ?_⟩
        · intro b hb
          rcases hb with hb | hb
          · exact HPP.out b hb
          · omega
        · rw [List.length_append]; simp; exact HPL.out
        · rw [HTK.out, List.map_append, HPS.out, HUU.out]; rfl
      case measure => simp [intOf]; omega

end Go.Proofs.YtpahohbpilgdnaaDoor

/- A row of structs that a call makes, of any kind of struct: as NodeRow, for bindings and rows too. No program. -/
namespace Go.Proofs.YtpahohbpilgdnaaDoor
open Go.RowKit
set_option linter.unusedVariables false

/-- A kind of struct: its cells, what is behind it. -/
structure KindX (α : Type) where
  sz : Nat
  cells : α → List Value
  len : ∀ p, (cells p).length = sz
  inn : World → (Nat → Prop) → α → Prop
  imp : ∀ {w w' : World} {P P' : Nat → Prop}, (∀ b o, P b → w'.cell? ⟨b, o, none⟩ = w.cell? ⟨b, o, none⟩) → (∀ b, P b → P' b) → ∀ p, inn w P p → inn w' P' p

def flatX {α : Type} (K : KindX α) (ps : List α) : List Value := ps.flatMap K.cells
theorem flatX_snoc {α : Type} (K : KindX α) (ps : List α) (p : α) : flatX K (ps ++ [p]) = flatX K ps ++ K.cells p := by
  unfold flatX; rw [List.flatMap_append]; simp
theorem flatX_at {α : Type} (K : KindX α) : ∀ (ps : List α) (j r : Nat) (h : j < ps.length), r < K.sz → (flatX K ps)[j * K.sz + r]? = (K.cells ps[j])[r]?
  | p :: ps, 0, r, _, hr => by
    show (K.cells p ++ flatX K ps)[0 * K.sz + r]? = _
    rw [List.getElem?_append_left (by rw [K.len]; omega)]
    simp
  | p :: ps, j + 1, r, h, hr => by
    show (K.cells p ++ flatX K ps)[(j + 1) * K.sz + r]? = _
    have e0 : (j + 1) * K.sz = j * K.sz + K.sz := by rw [Nat.add_mul, Nat.one_mul]
    rw [List.getElem?_append_right (by rw [K.len]; omega)]
    have e : (j + 1) * K.sz + r - (K.cells p).length = j * K.sz + r := by rw [K.len]; omega
    rw [e, flatX_at K ps j r (by simpa using h) hr]
    rfl

structure RowX {α : Type} (K : KindX α) (w : World) (base : Nat) (e : TypeId) (v : Value) (ps : List α) (P : Nat → Prop) : Prop where
  row : w.ownsRow base e K.sz v ps.length (flatX K ps)
  far : ∀ b, P b → b < w.heap.size ∧ v.ownBlock ≠ some b
  node : ∀ p ∈ ps, K.inn w P p
theorem RowX.kept {α : Type} {K : KindX α} {w w' : World} {base : Nat} {e : TypeId} {v : Value} {ps : List α} {P : Nat → Prop} (h : RowX K w base e v ps P) (hz : w.heap.size ≤ w'.heap.size)
    (hr : w'.ownsRow base e K.sz v ps.length (flatX K ps)) (hc : ∀ b, P b → w'.heap[b]? = w.heap[b]?) : RowX K w' base e v ps P :=
  ⟨hr, fun b hb => ⟨Nat.lt_of_lt_of_le (h.far b hb).1 hz, (h.far b hb).2⟩, fun p hp => K.imp (fun b o hb => World.cell?_of_block (a := ⟨b, o, none⟩) (hc b hb)) (fun _ h => h) p (h.node p hp)⟩
theorem RowX.below {α : Type} {K : KindX α} {w w' : World} {base : Nat} {e : TypeId} {v : Value} {ps : List α} {P : Nat → Prop} (h : RowX K w base e v ps P) (hb : Below w.heap.size w w') : RowX K w' base e v ps P :=
  h.kept hb.size (h.row.kept (row := none) ⟨hb.os, hb.tape, hb.output, hb.size, fun k hk _ => hb.block k hk⟩ (by cases hv : v.ownBlock <;> simp)) (fun b hb' => hb.block b (h.far b hb').1)
theorem RowX.alloc {α : Type} {K : KindX α} {w : World} {base : Nat} {e : TypeId} {v : Value} {ps : List α} {P : Nat → Prop} (h : RowX K w base e v ps P) (o : Obj) : RowX K (w.alloc o) base e v ps P :=
  h.below ((Below.refl _ _).alloc (Nat.le_refl _) _)
theorem RowX.setCell {α : Type} {K : KindX α} {w : World} {base : Nat} {e : TypeId} {v : Value} {ps : List α} {P : Nat → Prop} (h : RowX K w base e v ps P) {a : Addr} (ha : a.block < base) (hP : ∀ b, P b → b ≠ a.block) (u : Value) : RowX K (w.setCell a u) base e v ps P :=
  h.kept (by simp [World.setCell]) (ownsRow_setCell_below h.row ha u) (fun b hb => Below.heap_setCell w a u b (hP b hb))
theorem RowX.push {α : Type} {K : KindX α} {w w' : World} {base : Nat} {e : TypeId} {v v' : Value} {ps : List α} {P Pn : Nat → Prop} {p : α} (h : RowX K w base e v ps P)
    (hn : K.inn w Pn p) (hf : ∀ b, Pn b → b < w.heap.size ∧ v.ownBlock ≠ some b)
    (hr : w'.ownsRow base e K.sz v' (ps.length + 1) (flatX K ps ++ K.cells p)) (hg : w.grownBy w' v.ownBlock) (ho : v'.ownBlock = v.ownBlock ∨ v'.ownBlock = some w.heap.size) : RowX K w' base e v' (ps ++ [p]) (fun b => P b ∨ Pn b) := by
  have hb : ∀ b, P b ∨ Pn b → b < w.heap.size ∧ v.ownBlock ≠ some b := fun b hb => hb.elim (h.far b) (hf b)
  have hcell : ∀ b o, P b ∨ Pn b → w'.cell? ⟨b, o, none⟩ = w.cell? ⟨b, o, none⟩ := fun b o hb' => World.cell?_of_block (a := ⟨b, o, none⟩) (hg.block b (hb b hb').1 (fun e => (hb b hb').2 e.symm))
  refine ⟨by rw [flatX_snoc, List.length_append]; exact hr, fun b hb' => ⟨Nat.lt_of_lt_of_le (hb b hb').1 hg.size, fun e => ?_⟩, fun q hq => ?_⟩
  · rcases ho with ho | ho
    · exact (hb b hb').2 (ho.symm.trans e)
    · have := (hb b hb').1
      rw [ho] at e
      injection e with e
      omega
  · rcases List.mem_append.1 hq with hq | hq
    · exact K.imp (fun b o hb' => hcell b o (.inl hb')) (fun b hb' => .inl hb') q (h.node q hq)
    · obtain rfl : q = p := by simpa using hq
      exact K.imp (fun b o hb' => hcell b o (.inr hb')) (fun b hb' => .inr hb') q hn
/-- What stands at each place. -/
theorem RowX.bounds {α : Type} {K : KindX α} {w : World} {base : Nat} {e : TypeId} {A : Option Addr} {cap : Nat} {ps : List α} {P : Nat → Prop} (h : RowX K w base e (.slice A ps.length cap) ps P) : ps.length ≤ cap ∧ cap ≤ maxLen := by
  rcases h.row.2 with ⟨h1, h2⟩ | ⟨g, c, cur, h1, _, _, h2, h3, _⟩
  · injection h1 with _ h3 h4
    subst h4; omega
  · injection h1 with _ _ h4
    subst h4; exact ⟨h2, h3⟩
theorem RowX.at_ {α : Type} {K : KindX α} {w : World} {base : Nat} {e : TypeId} {A : Option Addr} {cap : Nat} {ps : List α} {P : Nat → Prop} (h : RowX K w base e (.slice A ps.length cap) ps P) (i : Nat) (hi : i < ps.length) :
    ∃ b, A = some ⟨b, 0, none⟩ ∧ base ≤ b ∧ b < w.heap.size ∧ (∀ r, r < K.sz → w.cell? ⟨b, i * K.sz + r, none⟩ = (K.cells ps[i])[r]?) ∧ K.inn w P ps[i] := by
  have hin := h.node _ (List.getElem_mem hi)
  have hrow := h.row
  rcases h.row.2 with ⟨h1, h2⟩ | ⟨g, c, cur, h1, hbg, hg, _⟩
  · omega
  · injection h1 with h1 _ _
    subst h1
    refine ⟨g, rfl, hbg, ?_, fun r hr => ?_, hin⟩
    · rcases Nat.lt_or_ge g w.heap.size with hlt | hge
      · exact hlt
      · rw [Array.getElem?_eq_none hge] at hg; cases hg
    · have hlt : i * K.sz + r < ps.length * K.sz := by
        have : (i + 1) * K.sz ≤ ps.length * K.sz := Nat.mul_le_mul_right _ hi
        rw [Nat.add_mul, Nat.one_mul] at this
        omega
      exact (hrow.cellAt (i * K.sz + r) hlt).trans (flatX_at K ps i r hi hr)

/-- Bindings; rows. -/
def kindB : KindX (BT × Option Addr × Nat) where
  sz := 7
  cells p := [.string p.1.s, .int .i64 p.1.a, .int .i64 p.1.t.k, .int .i64 p.1.t.a, .string p.1.t.s, .int .i64 p.1.t.n, .slice p.2.1 p.1.t.l.length p.2.2]
  len p := rfl
  inn w P p := p.1.s.size ≤ maxLen ∧ NodeIn w P p.1.t p.2.1 p.2.2
  imp hw hP p h := ⟨h.1, h.2.imp hw hP⟩

end Go.Proofs.YtpahohbpilgdnaaDoor

/- scholiumlaw04.binds: the document's bindings, or that one is very great. -/
namespace Go.Proofs.YtpahohbpilgdnaaDoor
open Go.RowKit
set_option linter.unusedVariables false
set_option maxRecDepth 100000

theorem infoB : (Tryd.prog.info? 100).map (fun i => (i.zero, i.size, i.bytes)) = some (some (.agg #[.string ⟨#[]⟩, .int .i64 0, .int .i64 0, .int .i64 0, .string ⟨#[]⟩, .int .i64 0, .slice none 0 0]), 7, 88) := by kernel_rfl
/-- A list's copy, where it is told to be one. -/
def CopyB (l : List BT) (w w' : World) (ok : Bool) (n : Nat) (A : Option Addr) (cap : Nat) : Prop :=
  ok = true → n = l.length ∧ l.length ≤ cap ∧ cap ≤ maxLen ∧ BindsAt w' w.heap.size w'.heap.size A l
def BsIs (l : List BT) (w : World) (e : Ending) (w' : World) : Prop :=
  ∃ ok n A cap, e = .returned (.tuple #[.slice A n cap, .bool ok]) ∧ CopyB l w w' ok n A cap ∧ Below w.heap.size w w'
theorem RowX.binds {w : World} {base : Nat} {e : TypeId} {A : Option Addr} {cap : Nat} {ps : List (BT × Option Addr × Nat)} {P : Nat → Prop} (h : RowX kindB w base e (.slice A ps.length cap) ps P) (hP : ∀ b, P b → base ≤ b) {l : List BT} (hl : ps.map (·.1) = l) : BindsAt w base w.heap.size A l := by
  subst hl
  intro i hi
  have hi' : i < ps.length := by simpa using hi
  obtain ⟨b, hA, h1, h2, hc, h3, h4⟩ := h.at_ i hi'
  have e : (ps.map (·.1))[i] = ps[i].1 := List.getElem_map _
  refine ⟨b, 0, ps[i].2.1, ps[i].2.2, hA, h1, h2, ?_, ?_⟩
  · rw [e]
    have c := fun r (hr : r < 7) => hc r hr
    have c0 := c 0 (by omega)
    rw [Nat.add_zero] at c0
    exact ⟨by rw [Nat.zero_add]; exact c0, by rw [Nat.zero_add]; exact c 1 (by omega), by rw [Nat.zero_add]; exact c 2 (by omega), by rw [Nat.zero_add]; exact c 3 (by omega), by rw [Nat.zero_add]; exact c 4 (by omega), by rw [Nat.zero_add]; exact c 5 (by omega), by rw [Nat.zero_add]; exact c 6 (by omega)⟩
  · rw [e]
    exact ⟨h3, h4.imp (fun _ _ _ => rfl) (fun b hb => ⟨hP b hb, (h.far b hb).1⟩)⟩

end Go.Proofs.YtpahohbpilgdnaaDoor

/- scholiumlaw04.binds: the document's bindings, or that one is very great. -/
namespace Go.Proofs.YtpahohbpilgdnaaDoor
open Go.RowKit
set_option linter.unusedVariables false
set_option maxRecDepth 100000

theorem cellsB_one (p : BT × Option Addr × Nat) : ∀ u ∈ kindB.cells p, u.oneCell' = true := by
  intro u hu
  simp [kindB] at hu
  rcases hu with rfl | rfl | rfl | rfl | rfl | rfl | rfl <;> rfl

set_option maxHeartbeats 4000000 in
theorem binds_any (l : List BT) (A : Option Addr) (cap lo hi : Nat) (w : World) (hl : l.length ≤ 30) (hn : BindsAt w lo hi A l) (hhi : hi ≤ w.heap.size) :
    Calls Tryd.prog 42 #[.slice A l.length cap] w (BsIs l w) := by
  have HN := Lib.hid hn
  have HO := Lib.hid (fun t lo hi A cap W h1 h2 => of_any t lo hi A cap W h1 h2)
  unfold OfIs at HO
  have HL := Lib.hid hl
  clear hn hl
  obtain ⟨i0, hi0, hz0, hz1, hz2⟩ := info_parts infoB
  go_enter Tryd.func42, Tryd.ntmps42
  go_wp2_with fail
  go_loopw [4, 5] (fun v iv wr => ∃ (i : Nat) (ps : List (BT × Option Addr × Nat)) (P : Nat → Prop), i ≤ l.length ∧ iv = .int .i64 i ∧ Below w.heap.size w wr ∧ RowX kindB wr w.heap.size 100 v ps P ∧ (∀ b, P b → w.heap.size ≤ b) ∧ ps.length = i ∧ ps.map (·.1) = l.take i) (fun _ iv _ => l.length - (intOf iv).toNat)
  case atStart =>
    refine ⟨0, [], fun _ => False, Nat.zero_le _, rfl, (Below.refl _ _).alloc (Nat.le_refl _) _, ⟨?_, fun b hb => hb.elim, fun p hp => by cases hp⟩, fun _ h => h.elim, rfl, by rw [List.take_zero]; rfl⟩
    have := World.ownsRow_lit (base := w.heap.size) (e := 100) (size := 7) w #[] 0 (Nat.le_refl _) (by decide) rfl
    simp at this
    exact this
  case round =>
    obtain ⟨i, ps, P, hi1, rfl, hB, hrow, hP, hpl, hps⟩ := hrel
    have hz := hB.size
    obtain ⟨a1, c1, hv⟩ := own_slice hrow.row
    subst hv
    have HROW := Lib.hid hrow
    have HPP := Lib.hid hP
    have HPL := Lib.hid hpl
    have HPS := Lib.hid hps
    clear hrow hP hpl hps
    by_cases hil : i < l.length
    case neg =>
      obtain rfl : i = l.length := by omega
      have HPAR := Lib.hid (HROW.out.binds HPP.out (by rw [HPS.out, List.take_length]))
      have HBD := Lib.hid HROW.out.bounds
      have hln := HPL.out
      have HBB := Lib.hid hB
      clear HN HO hB
      go_wp2_with fail
      refine bodyPost_ret (v := .tuple #[.slice a1 ps.length c1, .bool true]) (by simp [results, Tryd.results42, go_sem]) rfl ?_
      exact ⟨true, _, a1, c1, rfl, fun _ => ⟨hln, hln ▸ HBD.out.1, HBD.out.2, HPAR.out⟩, HBB.out⟩
    obtain ⟨b, o, F, C, hA, hb1, hb2, hx, hbind⟩ := (HN.out i hil).kept hB hhi
    subst hA
    obtain ⟨x0, x1, x2, x3, x4, x5, x6⟩ := hx
    have hnode := hbind.hn
    have HSS := Lib.hid hbind.hs
    have hlb : b < wr.heap.size := by omega
    have HOI := Lib.hid (HO.out l[i].t lo hi F C wr hnode (by omega))
    have hi1' : (i : Int) < (l.length : Int) := by omega
    have hi30 : i ≤ 30 := by have := HL.out; omega
    have HY : Hid (ofB l[i].t = true → ofT l[i].t = l[i].t) := Lib.hid (fun h => (of_yes h).1)
    have HTK : Hid (l.take (i + 1) = l.take i ++ [l[i]]) := Lib.hid (by rw [List.take_succ_eq_append_getElem hil])
    obtain ⟨u, hu⟩ : ∃ u, ofT l[i].t = u := ⟨_, rfl⟩
    obtain ⟨ok, hok⟩ : ∃ ok, ofB l[i].t = ok := ⟨_, rfl⟩
    rw [hu, hok] at HOI HY
    have HBB := Lib.hid hB
    obtain ⟨y, hy⟩ : ∃ y, l[i] = y := ⟨_, rfl⟩
    rw [hy] at HOI HY HTK HSS x0 x1 x2 x3 x4 x5 x6
    clear hu hok hnode hbind hy HN HO hB
    unfold nodeV at HOI
    cases ok with
    | false =>
      clear HY
      go_wp2_with fail
      refine HOI.out.mono ?_
      rintro e w1 ⟨F', C', rfl, hn1, hb1'⟩
      go_wp2_with fail
      refine bodyPost_ret (v := .tuple #[.slice none 0 0, .bool false]) (by simp [results, Tryd.results42, go_sem]) rfl ?_
      exact ⟨false, 0, none, 0, rfl, (fun h => by cases h), (HBB.out.trans (hb1'.mono hz)).alloc (by have := hb1'.size; omega) _⟩
    | true =>
      have huu := HY.out rfl
      go_wp2_with fail
      refine HOI.out.mono ?_
      rintro e w1 ⟨F', C', rfl, hn1, hb1'⟩
      have hsz1 := hb1'.size
      have HBW1 := Lib.hid (Below.refl w1.heap.size w1 |>.alloc (Nat.le_refl _) (.cells #[.int .i64 u.k, .int .i64 u.a, .string u.s, .int .i64 u.n, .slice F' u.l.length C'] 27) |>.drew)
      have HBW2 := Lib.hid ((HBW1.out).alloc (by simp) (.cells #[.string y.s, .int .i64 y.a, .int .i64 u.k, .int .i64 u.a, .string u.s, .int .i64 u.n, .slice F' u.l.length C'] 100))
      have HR1 := Lib.hid ((HROW.out.below hb1').below HBW2.out)
      have HN1 := Lib.hid (hn1.kept HBW2.out (Nat.le_refl _))
      have hpn : ps.length ≤ 30 := by have := HPL.out; have := HL.out; omega
      have HPN := Lib.hid hpn
      have HBW := Lib.hid ((HBB.out.trans (hb1'.mono hz)).trans (HBW2.out.mono (by omega)))
      have HUU := Lib.hid huu
      have hcx := fun q => hb1'.cell (p := ⟨b, q, none⟩) hlb
      have z0 := (hcx (o + i * 7)).trans x0
      have z1 := (hcx (o + i * 7 + 1)).trans x1
      have hlb1 : b < w1.heap.size := by omega
      have HPZ := Lib.hid hsz1
      have hbs : b < w.heap.size := by omega
      have HF : Hid (∀ v2 w3, AppTo ((w1.alloc (.cells #[.int .i64 u.k, .int .i64 u.a, .string u.s, .int .i64 u.n, .slice F' u.l.length C'] 27)).drew.alloc (.cells #[.string y.s, .int .i64 y.a, .int .i64 u.k, .int .i64 u.a, .string u.s, .int .i64 u.n, .slice F' u.l.length C'] 100)) w.heap.size 100 7 (.slice a1 ps.length c1) (ps.length + 1) (flatX kindB ps ++ kindB.cells (⟨y.s, y.a, u⟩, F', C')) v2 w3 →
          w3.cell? ⟨b, o + i * 7, none⟩ = some (.string y.s) ∧ w3.cell? ⟨b, o + i * 7 + 1, none⟩ = some (.int .i64 y.a) ∧ w3.cell? ⟨w1.heap.size, 0, none⟩ = some (.int .i64 u.k) ∧ w3.cell? ⟨w1.heap.size, 1, none⟩ = some (.int .i64 u.a) ∧ w3.cell? ⟨w1.heap.size, 2, none⟩ = some (.string u.s) ∧ w3.cell? ⟨w1.heap.size, 3, none⟩ = some (.int .i64 u.n) ∧ w3.cell? ⟨w1.heap.size, 4, none⟩ = some (.slice F' u.l.length C') ∧
          Hid (RowX kindB w3 w.heap.size 100 v2 (ps ++ [(⟨y.s, y.a, u⟩, F', C')]) (fun b => P b ∨ (wr.heap.size ≤ b ∧ b < w1.heap.size))) ∧ Hid (Below w.heap.size w w3) ∧ Hid (∃ a2 c2, v2 = .slice a2 (ps.length + 1) c2)) := Lib.hid (by
        intro v2 w3 ha
        have hlt0 := HROW.out.row.lt
        have BKn : Bk ((w1.alloc (.cells #[.int .i64 u.k, .int .i64 u.a, .string u.s, .int .i64 u.n, .slice F' u.l.length C'] 27)).drew.alloc (.cells #[.string y.s, .int .i64 y.a, .int .i64 u.k, .int .i64 u.a, .string u.s, .int .i64 u.n, .slice F' u.l.length C'] 100)) w1.heap.size 27 #[.int .i64 u.k, .int .i64 u.a, .string u.s, .int .i64 u.n, .slice F' u.l.length C'] := Bk.alloc (show Bk ((w1.alloc (.cells #[.int .i64 u.k, .int .i64 u.a, .string u.s, .int .i64 u.n, .slice F' u.l.length C'] 27)).drew) _ _ _ from Bk.new w1 27 _) _
        have BK3 := BKn.grown ha.2.1 (fun e => by have := hlt0 _ e.symm; omega)
        have far := fun q => ha.2.1.cell_far ⟨b, q, none⟩ (by show b < _; simp; omega) (fun e => by have := hlt0 b e.symm; omega)
        have cb := fun q => HBW2.out.cell (p := ⟨b, q, none⟩) hlb1
        refine ⟨(far _).trans ((cb _).trans z0), (far _).trans ((cb _).trans z1), BK3.cell 0, BK3.cell 1, BK3.cell 2, BK3.cell 3, BK3.cell 4, ?_, ?_, own_slice ha.1⟩
        · exact HR1.out.push (Pn := fun b => wr.heap.size ≤ b ∧ b < w1.heap.size) ⟨HSS.out, HN1.out⟩ (fun b hb => ⟨by simp; omega, fun e => by have := hlt0 b e; omega⟩) ha.1 ha.2.1 ha.2.2
        · exact HBW.out.grown ha.2.1 (by simp; omega) (fun k hk => by have := hlt0 k hk; omega))
      clear hcx x0 x1 x2 x3 x4 x5 x6 hn1 hpn huu hb1'
      go_wp2_with fail
      go_region_held3 (fun w' => w'.cell? ⟨b, o + i * 7, none⟩ = some (.string y.s) ∧ w'.cell? ⟨b, o + i * 7 + 1, none⟩ = some (.int .i64 y.a) ∧ w'.cell? ⟨w1.heap.size, 0, none⟩ = some (.int .i64 u.k) ∧ w'.cell? ⟨w1.heap.size, 1, none⟩ = some (.int .i64 u.a) ∧ w'.cell? ⟨w1.heap.size, 2, none⟩ = some (.string u.s) ∧ w'.cell? ⟨w1.heap.size, 3, none⟩ = some (.int .i64 u.n) ∧ w'.cell? ⟨w1.heap.size, 4, none⟩ = some (.slice F' u.l.length C'))
          (first | go_keep)
          (first
            | (refine step_app rfl (.tmp 26) (.tmp 39) 49 rfl w.heap.size 100 i0 (.agg #[.string ⟨#[]⟩, .int .i64 0, .int .i64 0, .int .i64 0, .string ⟨#[]⟩, .int .i64 0, .slice none 0 0]) 7 88 Tryd.underlying49 hi0 hz0 hz1 hz2 rfl (by decide) (.slice a1 ps.length c1) ps.length (flatX kindB ps) rfl HR1.out.row (some ⟨w1.heap.size + 1, 0, none⟩) 1 1 (kindB.cells (⟨y.s, y.a, u⟩, F', C')) rfl (src_at _ _ _ (by simp) rfl) (cellsB_one _) (by have := HPN.out; unfold maxLen; omega) (by have := HPN.out; omega) (by simp; omega) ?_
               rintro v2 w3 ha3
               obtain ⟨g0, g1, g2, g3, g4, g5, g6, HRW, HBL, HSL⟩ := HF.out v2 w3 ha3
               clear ha3))
      all_goals
        obtain ⟨a2, c2, rfl⟩ := HSL.out
        go_wp2_with fail
        go_roundw
        case rel =>
          refine ⟨i + 1, _, _, by omega, rfl, HBL.out, HRW.out, ?_, ?_, ?_⟩
          · intro b hb
            rcases hb with hb | hb
            · exact HPP.out b hb
            · omega
          · rw [List.length_append]; simp; exact HPL.out
          · rw [HTK.out, List.map_append, HPS.out, HUU.out]; rfl
        case measure => simp [intOf]; omega

end Go.Proofs.YtpahohbpilgdnaaDoor
