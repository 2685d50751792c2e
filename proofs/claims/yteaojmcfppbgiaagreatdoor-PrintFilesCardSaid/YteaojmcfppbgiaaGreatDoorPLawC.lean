/- scholiumlaw06.decl: rows that it makes, its copy's cells; what is asked of it. -/
import Derived.Test.YteaojmcfppbgiaaGreatDoorPLawB2
import Derived.Deep.RegionHeld3
namespace Go.Proofs.YteaojmcfppbgiaaGreatDoor
open Go.RowKit
set_option linter.unusedVariables false
set_option maxRecDepth 100000

theorem infoC : (Tryz.prog.info? 66).map (fun i => (i.zero, i.size, i.bytes)) = some (some (.agg #[.int .i64 0, .slice none 0 0, .bool false, .int .i64 0, .int .i64 0, .string ⟨#[]⟩, .int .i64 0, .slice none 0 0]), 8, 104) := by kernel_rfl

/-- Nodes in blocks of which P speaks. -/
def NodesP (w : World) (P : Nat → Prop) (A : Option Addr) (l : List RT) : Prop :=
  ∀ i (h : i < l.length), ∃ b o F C, A = some ⟨b, o, none⟩ ∧ P b ∧ Cells5 w b (o + i * 5) l[i] F C ∧ NodeIn w P l[i] F C
theorem NodesP.imp {w w' : World} {P P' : Nat → Prop} (hw : ∀ b o, P b → w'.cell? ⟨b, o, none⟩ = w.cell? ⟨b, o, none⟩) (hP : ∀ b, P b → P' b) {A : Option Addr} {l : List RT} (h : NodesP w P A l) : NodesP w' P' A l := by
  intro i hi
  obtain ⟨b, o, F, C, hA, h1, ⟨x0, x1, x2, x3, x4⟩, h3⟩ := h i hi
  exact ⟨b, o, F, C, hA, hP b h1, ⟨by rw [hw _ _ h1, x0], by rw [hw _ _ h1, x1], by rw [hw _ _ h1, x2], by rw [hw _ _ h1, x3], by rw [hw _ _ h1, x4]⟩, h3.imp hw hP⟩
theorem NodesAt.pred {w : World} {lo hi : Nat} {A : Option Addr} {l : List RT} (h : NodesAt w lo hi A l) : NodesP w (fun b => lo ≤ b ∧ b < hi) A l := by
  intro i hi'
  obtain ⟨b, o, F, C, hA, h1, h2, h3, h4⟩ := h i hi'
  exact ⟨b, o, F, C, hA, ⟨h1, h2⟩, h3, h4⟩
theorem NodesP.at_ {w : World} {P : Nat → Prop} {lo hi : Nat} (hP : ∀ b, P b → lo ≤ b ∧ b < hi) {A : Option Addr} {l : List RT} (h : NodesP w P A l) : NodesAt w lo hi A l := by
  intro i hi'
  obtain ⟨b, o, F, C, hA, h1, h3, h4⟩ := h i hi'
  exact ⟨b, o, F, C, hA, (hP b h1).1, (hP b h1).2, h3, h4.imp (fun _ _ _ => rfl) hP⟩

abbrev RP := CT × Option Addr × Nat × Option Addr × Nat
/-- A row, of which something is known where the flag says so. -/
def kindR (ok : Bool) : KindX RP where
  sz := 8
  cells p := [.int .i64 p.1.a, .slice p.2.1 p.1.ps.length p.2.2.1, .bool p.1.h, .int .i64 p.1.t.k, .int .i64 p.1.t.a, .string p.1.t.s, .int .i64 p.1.t.n, .slice p.2.2.2.1 p.1.t.l.length p.2.2.2.2]
  len p := rfl
  inn w P p := ok = true → p.1.ps.length ≤ p.2.2.1 ∧ p.2.2.1 ≤ maxLen ∧ NodesP w P p.2.1 p.1.ps ∧ NodeIn w P p.1.t p.2.2.2.1 p.2.2.2.2
  imp hw hP p h := fun e => ⟨(h e).1, (h e).2.1, (h e).2.2.1.imp hw hP, (h e).2.2.2.imp hw hP⟩
theorem RowX.weak {w : World} {base : Nat} {e : TypeId} {v : Value} {ps : List RP} {P : Nat → Prop} {a a' : Bool} (h : RowX (kindR a) w base e v ps P) (ha : a' = true → a = true) : RowX (kindR a') w base e v ps P :=
  ⟨h.row, h.far, fun p hp e => h.node p hp (ha e)⟩
theorem RowX.rows {w : World} {base : Nat} {e : TypeId} {A : Option Addr} {cap : Nat} {ps : List RP} {P : Nat → Prop} (h : RowX (kindR true) w base e (.slice A ps.length cap) ps P) (hP : ∀ b, P b → base ≤ b) {l : List CT} (hl : ps.map (·.1) = l) : RowsAt w base w.heap.size A l := by
  subst hl
  intro i hi
  have hi' : i < ps.length := by simpa using hi
  obtain ⟨b, hA, h1, h2, hc, h3⟩ := h.at_ i hi'
  obtain ⟨k1, k2, k3, k4⟩ := h3 rfl
  have e : (ps.map (·.1))[i] = ps[i].1 := List.getElem_map _
  have hQ : ∀ b, P b → base ≤ b ∧ b < w.heap.size := fun b hb => ⟨hP b hb, (h.far b hb).1⟩
  refine ⟨b, 0, ps[i].2.1, ps[i].2.2.1, ps[i].2.2.2.1, ps[i].2.2.2.2, hA, h1, h2, ?_, ?_⟩
  · rw [e]
    have c := fun r (hr : r < 8) => hc r hr
    have c0 := c 0 (by omega)
    rw [Nat.add_zero] at c0
    exact ⟨by rw [Nat.zero_add]; exact c0, by rw [Nat.zero_add]; exact c 1 (by omega), by rw [Nat.zero_add]; exact c 2 (by omega), by rw [Nat.zero_add]; exact c 3 (by omega), by rw [Nat.zero_add]; exact c 4 (by omega), by rw [Nat.zero_add]; exact c 5 (by omega), by rw [Nat.zero_add]; exact c 6 (by omega), by rw [Nat.zero_add]; exact c 7 (by omega)⟩
  · rw [e]
    exact ⟨k1, k2, k3.at_ hQ, k4.imp (fun _ _ _ => rfl) hQ⟩

theorem BindsAt.imp {w w' : World} {lo hi lo' hi' : Nat} (hw : ∀ b o, lo ≤ b → b < hi → w'.cell? ⟨b, o, none⟩ = w.cell? ⟨b, o, none⟩) (h1 : lo' ≤ lo) (h2 : hi ≤ hi') {A : Option Addr} {l : List BT} (h : BindsAt w lo hi A l) : BindsAt w' lo' hi' A l := by
  intro i hi0
  obtain ⟨b, o, F, C, hA, h3, h4, ⟨x0, x1, x2, x3, x4, x5, x6⟩, h6⟩ := h i hi0
  have e := fun q => hw b q h3 h4
  exact ⟨b, o, F, C, hA, by omega, by omega, ⟨by rw [e, x0], by rw [e, x1], by rw [e, x2], by rw [e, x3], by rw [e, x4], by rw [e, x5], by rw [e, x6]⟩, ⟨h6.hs, IsNode.imp hw h1 h2 h6.hn⟩⟩
theorem NodesAt.imp {w w' : World} {lo hi lo' hi' : Nat} (hw : ∀ b o, lo ≤ b → b < hi → w'.cell? ⟨b, o, none⟩ = w.cell? ⟨b, o, none⟩) (h1 : lo' ≤ lo) (h2 : hi ≤ hi') {A : Option Addr} {l : List RT} (h : NodesAt w lo hi A l) : NodesAt w' lo' hi' A l :=
  (h.pred.imp (fun b o hb => hw b o hb.1 hb.2) (fun b hb => hb)).at_ (fun b hb => ⟨by omega, by omega⟩)
theorem RowsAt.imp {w w' : World} {lo hi lo' hi' : Nat} (hw : ∀ b o, lo ≤ b → b < hi → w'.cell? ⟨b, o, none⟩ = w.cell? ⟨b, o, none⟩) (h1 : lo' ≤ lo) (h2 : hi ≤ hi') {A : Option Addr} {l : List CT} (h : RowsAt w lo hi A l) : RowsAt w' lo' hi' A l := by
  intro i hi0
  obtain ⟨b, o, A', c, F, C, hA, h3, h4, ⟨x0, x1, x2, x3, x4, x5, x6, x7⟩, h6⟩ := h i hi0
  have e := fun q => hw b q h3 h4
  exact ⟨b, o, A', c, F, C, hA, by omega, by omega, ⟨by rw [e, x0], by rw [e, x1], by rw [e, x2], by rw [e, x3], by rw [e, x4], by rw [e, x5], by rw [e, x6], by rw [e, x7]⟩, ⟨h6.hl, h6.hc, NodesAt.imp hw h1 h2 h6.hp, IsNode.imp hw h1 h2 h6.hn⟩⟩

/-- Stores into a block, one behind the other. -/
def setsL (w : World) (g : Nat) : Nat → List Value → World
  | _, [] => w
  | i, v :: vs => setsL (w.setCell ⟨g, i, none⟩ v) g (i + 1) vs
theorem setsL_size (g : Nat) : ∀ (vs : List Value) (i : Nat) (w : World), (setsL w g i vs).heap.size = w.heap.size
  | [], _, _ => rfl
  | v :: vs, i, w => by rw [setsL, setsL_size g vs]; simp [World.setCell]
theorem setsL_far (g b o : Nat) (h : g ≠ b) : ∀ (vs : List Value) (i : Nat) (w : World), (setsL w g i vs).cell? ⟨b, o, none⟩ = w.cell? ⟨b, o, none⟩
  | [], _, _ => rfl
  | v :: vs, i, w => by
    rw [setsL, setsL_far g b o h vs]
    exact World.cell?_setCell_other _ _ _ _ (fun e => h (by injection e))
theorem setsL_below {B g : Nat} {w w' : World} (h : Below B w w') (hg : B ≤ g) : ∀ (vs : List Value) (i : Nat), Below B w (setsL w' g i vs) := by
  intro vs
  induction vs generalizing w' with
  | nil => intro i; exact h
  | cons v vs ih => intro i; rw [setsL]; exact ih (h.setCell hg v) _
theorem setsL_bk {g : Nat} {e : TypeId} : ∀ (vs : List Value) (i : Nat) (w : World) (cs : Array Value), Bk w g e cs → ∃ cs', Bk (setsL w g i vs) g e cs' ∧ cs'.size = cs.size ∧ (∀ j, j < i → cs'[j]? = cs[j]?) ∧ ∀ j, i ≤ j → j < i + vs.length → j < cs.size → cs'[j]? = vs[j - i]?
  | [], i, w, cs, h => ⟨cs, h, rfl, fun _ _ => rfl, fun j h1 h2 => by simp at h2; omega⟩
  | v :: vs, i, w, cs, h => by
    obtain ⟨cs', h1, h2, h3, h4⟩ := setsL_bk vs (i + 1) _ _ (h.at_ i v)
    refine ⟨cs', h1, by simpa using h2, fun j hj => ?_, fun j h5 h6 h7 => ?_⟩
    · rw [h3 j (by omega)]
      rw [Array.getElem?_setIfInBounds_ne (by omega)]
    · by_cases hj : j = i
      · subst hj
        rw [h3 j (by omega), Array.getElem?_setIfInBounds_self_of_lt h7]
        simp
      · rw [h4 j (by omega) (by simp at h6; omega) (by simpa using h7)]
        have e : j - i = (j - (i + 1)) + 1 := by omega
        rw [e]; simp
/-- All cells of a block, stored one behind the other. -/
theorem setsL_all {g : Nat} {e : TypeId} {w : World} {cs : Array Value} (h : Bk w g e cs) (vs : List Value) (hv : vs.length = cs.size) : ∀ j, j < vs.length → (setsL w g 0 vs).cell? ⟨g, j, none⟩ = vs[j]? := by
  intro j hj
  obtain ⟨cs', h1, h2, h3, h4⟩ := setsL_bk vs 0 w cs h
  rw [h1.cell j, h4 j (Nat.zero_le _) (by omega) (by omega)]
  simp

/-- What the law's copying comes back with. -/
def DeclIs (x : DT) (w : World) (e : Ending) (w' : World) : Prop :=
  ∃ ok x' q', e = .returned (.tuple #[declV x' q', .bool ok]) ∧ (ok = true → x' = x ∧ IsDecl w' w.heap.size w'.heap.size x q') ∧ Below w.heap.size w w'

theorem cellsR_one (ok : Bool) (p : RP) : ∀ u ∈ (kindR ok).cells p, u.oneCell' = true := by
  intro u hu
  simp [kindR] at hu
  rcases hu with rfl | rfl | rfl | rfl | rfl | rfl | rfl | rfl <;> rfl

instance : Inhabited BT := ⟨⟨⟨#[]⟩, 0, .node 0 0 ⟨#[]⟩ 0 []⟩⟩
instance : Inhabited CT := ⟨⟨0, [], false, .node 0 0 ⟨#[]⟩ 0 []⟩⟩
instance : Inhabited RT := ⟨.node 0 0 ⟨#[]⟩ 0 []⟩
/-- Eleven stores, one behind the other, into a block of eleven cells. -/
theorem Bk.eleven {w : World} {g : Nat} {e : TypeId} {a0 a1 a2 a3 a4 a5 a6 a7 a8 a9 a10 : Value} (h : Bk w g e #[a0, a1, a2, a3, a4, a5, a6, a7, a8, a9, a10]) (v0 v1 v2 v3 v4 v5 v6 v7 v8 v9 v10 : Value) :
    (((((((((((w.setCell ⟨g, 0, none⟩ v0).setCell ⟨g, 1, none⟩ v1).setCell ⟨g, 2, none⟩ v2).setCell ⟨g, 3, none⟩ v3).setCell ⟨g, 4, none⟩ v4).setCell ⟨g, 5, none⟩ v5).setCell ⟨g, 6, none⟩ v6).setCell ⟨g, 7, none⟩ v7).setCell ⟨g, 8, none⟩ v8).setCell ⟨g, 9, none⟩ v9).setCell ⟨g, 10, none⟩ v10).cell? ⟨g, 0, none⟩ = some v0 ∧
    (((((((((((w.setCell ⟨g, 0, none⟩ v0).setCell ⟨g, 1, none⟩ v1).setCell ⟨g, 2, none⟩ v2).setCell ⟨g, 3, none⟩ v3).setCell ⟨g, 4, none⟩ v4).setCell ⟨g, 5, none⟩ v5).setCell ⟨g, 6, none⟩ v6).setCell ⟨g, 7, none⟩ v7).setCell ⟨g, 8, none⟩ v8).setCell ⟨g, 9, none⟩ v9).setCell ⟨g, 10, none⟩ v10).cell? ⟨g, 1, none⟩ = some v1 ∧
    (((((((((((w.setCell ⟨g, 0, none⟩ v0).setCell ⟨g, 1, none⟩ v1).setCell ⟨g, 2, none⟩ v2).setCell ⟨g, 3, none⟩ v3).setCell ⟨g, 4, none⟩ v4).setCell ⟨g, 5, none⟩ v5).setCell ⟨g, 6, none⟩ v6).setCell ⟨g, 7, none⟩ v7).setCell ⟨g, 8, none⟩ v8).setCell ⟨g, 9, none⟩ v9).setCell ⟨g, 10, none⟩ v10).cell? ⟨g, 2, none⟩ = some v2 ∧
    (((((((((((w.setCell ⟨g, 0, none⟩ v0).setCell ⟨g, 1, none⟩ v1).setCell ⟨g, 2, none⟩ v2).setCell ⟨g, 3, none⟩ v3).setCell ⟨g, 4, none⟩ v4).setCell ⟨g, 5, none⟩ v5).setCell ⟨g, 6, none⟩ v6).setCell ⟨g, 7, none⟩ v7).setCell ⟨g, 8, none⟩ v8).setCell ⟨g, 9, none⟩ v9).setCell ⟨g, 10, none⟩ v10).cell? ⟨g, 3, none⟩ = some v3 ∧
    (((((((((((w.setCell ⟨g, 0, none⟩ v0).setCell ⟨g, 1, none⟩ v1).setCell ⟨g, 2, none⟩ v2).setCell ⟨g, 3, none⟩ v3).setCell ⟨g, 4, none⟩ v4).setCell ⟨g, 5, none⟩ v5).setCell ⟨g, 6, none⟩ v6).setCell ⟨g, 7, none⟩ v7).setCell ⟨g, 8, none⟩ v8).setCell ⟨g, 9, none⟩ v9).setCell ⟨g, 10, none⟩ v10).cell? ⟨g, 4, none⟩ = some v4 ∧
    (((((((((((w.setCell ⟨g, 0, none⟩ v0).setCell ⟨g, 1, none⟩ v1).setCell ⟨g, 2, none⟩ v2).setCell ⟨g, 3, none⟩ v3).setCell ⟨g, 4, none⟩ v4).setCell ⟨g, 5, none⟩ v5).setCell ⟨g, 6, none⟩ v6).setCell ⟨g, 7, none⟩ v7).setCell ⟨g, 8, none⟩ v8).setCell ⟨g, 9, none⟩ v9).setCell ⟨g, 10, none⟩ v10).cell? ⟨g, 5, none⟩ = some v5 ∧
    (((((((((((w.setCell ⟨g, 0, none⟩ v0).setCell ⟨g, 1, none⟩ v1).setCell ⟨g, 2, none⟩ v2).setCell ⟨g, 3, none⟩ v3).setCell ⟨g, 4, none⟩ v4).setCell ⟨g, 5, none⟩ v5).setCell ⟨g, 6, none⟩ v6).setCell ⟨g, 7, none⟩ v7).setCell ⟨g, 8, none⟩ v8).setCell ⟨g, 9, none⟩ v9).setCell ⟨g, 10, none⟩ v10).cell? ⟨g, 6, none⟩ = some v6 ∧
    (((((((((((w.setCell ⟨g, 0, none⟩ v0).setCell ⟨g, 1, none⟩ v1).setCell ⟨g, 2, none⟩ v2).setCell ⟨g, 3, none⟩ v3).setCell ⟨g, 4, none⟩ v4).setCell ⟨g, 5, none⟩ v5).setCell ⟨g, 6, none⟩ v6).setCell ⟨g, 7, none⟩ v7).setCell ⟨g, 8, none⟩ v8).setCell ⟨g, 9, none⟩ v9).setCell ⟨g, 10, none⟩ v10).cell? ⟨g, 7, none⟩ = some v7 ∧
    (((((((((((w.setCell ⟨g, 0, none⟩ v0).setCell ⟨g, 1, none⟩ v1).setCell ⟨g, 2, none⟩ v2).setCell ⟨g, 3, none⟩ v3).setCell ⟨g, 4, none⟩ v4).setCell ⟨g, 5, none⟩ v5).setCell ⟨g, 6, none⟩ v6).setCell ⟨g, 7, none⟩ v7).setCell ⟨g, 8, none⟩ v8).setCell ⟨g, 9, none⟩ v9).setCell ⟨g, 10, none⟩ v10).cell? ⟨g, 8, none⟩ = some v8 ∧
    (((((((((((w.setCell ⟨g, 0, none⟩ v0).setCell ⟨g, 1, none⟩ v1).setCell ⟨g, 2, none⟩ v2).setCell ⟨g, 3, none⟩ v3).setCell ⟨g, 4, none⟩ v4).setCell ⟨g, 5, none⟩ v5).setCell ⟨g, 6, none⟩ v6).setCell ⟨g, 7, none⟩ v7).setCell ⟨g, 8, none⟩ v8).setCell ⟨g, 9, none⟩ v9).setCell ⟨g, 10, none⟩ v10).cell? ⟨g, 9, none⟩ = some v9 ∧
    (((((((((((w.setCell ⟨g, 0, none⟩ v0).setCell ⟨g, 1, none⟩ v1).setCell ⟨g, 2, none⟩ v2).setCell ⟨g, 3, none⟩ v3).setCell ⟨g, 4, none⟩ v4).setCell ⟨g, 5, none⟩ v5).setCell ⟨g, 6, none⟩ v6).setCell ⟨g, 7, none⟩ v7).setCell ⟨g, 8, none⟩ v8).setCell ⟨g, 9, none⟩ v9).setCell ⟨g, 10, none⟩ v10).cell? ⟨g, 10, none⟩ = some v10 := by
  exact ⟨setsL_all h [v0, v1, v2, v3, v4, v5, v6, v7, v8, v9, v10] rfl 0 (by simp), setsL_all h [v0, v1, v2, v3, v4, v5, v6, v7, v8, v9, v10] rfl 1 (by simp), setsL_all h [v0, v1, v2, v3, v4, v5, v6, v7, v8, v9, v10] rfl 2 (by simp), setsL_all h [v0, v1, v2, v3, v4, v5, v6, v7, v8, v9, v10] rfl 3 (by simp), setsL_all h [v0, v1, v2, v3, v4, v5, v6, v7, v8, v9, v10] rfl 4 (by simp), setsL_all h [v0, v1, v2, v3, v4, v5, v6, v7, v8, v9, v10] rfl 5 (by simp), setsL_all h [v0, v1, v2, v3, v4, v5, v6, v7, v8, v9, v10] rfl 6 (by simp), setsL_all h [v0, v1, v2, v3, v4, v5, v6, v7, v8, v9, v10] rfl 7 (by simp), setsL_all h [v0, v1, v2, v3, v4, v5, v6, v7, v8, v9, v10] rfl 8 (by simp), setsL_all h [v0, v1, v2, v3, v4, v5, v6, v7, v8, v9, v10] rfl 9 (by simp), setsL_all h [v0, v1, v2, v3, v4, v5, v6, v7, v8, v9, v10] rfl 10 (by simp)⟩
/-- The copy is the declaration, where all went well. -/
theorem decl_fin {xk xa : Int} {xs : ByteArray} {te : List BT} {t u : RT} {co : List BT} {ro : List CT} {A2 F2 A3 A : Option Addr} {n1 c2 C2 n2 c3 c : Nat} {ps : List RP} {P : Nat → Prop} {a ok1 ok2 okt : Bool} {h : Nat} {Wa w1 w2 w3 W0 wr V : World}
    (hs : xs.size ≤ maxLen) (h0 : Wa.heap.size = h + 2) (hz1 : Wa.heap.size ≤ w1.heap.size) (hz2 : w1.heap.size ≤ w2.heap.size) (hz3 : w2.heap.size ≤ w3.heap.size)
    (hc1 : CopyB te Wa w1 ok1 n1 A2 c2) (hc2 : CopyB co w1 w2 ok2 n2 A3 c3) (hy : okt = true → u = t) (hn3 : IsNode w3 w2.heap.size w3.heap.size u F2 C2)
    (hd2 : Below w1.heap.size w1 w2) (hd3 : Below w2.heap.size w2 w3) (hd0 : Below w3.heap.size w3 W0) (hB : Below (w3.heap.size + 1) W0 wr) (hsr : w3.heap.size + 2 ≤ wr.heap.size)
    (hrow : RowX (kindR a) wr (w3.heap.size + 2) 66 (.slice A ps.length c) ps P) (hP : ∀ b, P b → w3.heap.size + 2 ≤ b) (hpl : ps.length = ro.length) (hps : a = true → ok1 = true ∧ ps.map (·.1) = ro.take ro.length)
    (hV : ∀ b o, h + 2 ≤ b → V.cell? ⟨b, o, none⟩ = wr.cell? ⟨b, o, none⟩) (hVs : V.heap.size = wr.heap.size) (hall : a = true ∧ ok2 = true ∧ okt = true) :
    (.agg #[.int .i64 xk, .int .i64 xa, .string xs, .slice A2 n1 c2, .int .i64 u.k, .int .i64 u.a, .string u.s, .int .i64 u.n, .slice F2 u.l.length C2, .slice A3 n2 c3, .slice A ps.length c] : Value) = declV ⟨xk, xa, xs, te, t, co, ro⟩ ⟨A2, c2, F2, C2, A3, c3, A, c⟩ ∧ IsDecl V h V.heap.size ⟨xk, xa, xs, te, t, co, ro⟩ ⟨A2, c2, F2, C2, A3, c3, A, c⟩ := by
  obtain ⟨ha, hk2, hkt⟩ := hall
  obtain ⟨hk1, hmap⟩ := hps ha
  subst ha hk2 hkt hk1
  obtain rfl := hy rfl
  obtain ⟨rfl, h11, h12, h13⟩ := hc1 rfl
  obtain ⟨rfl, h21, h22, h23⟩ := hc2 rfl
  have hrows := hrow.rows hP (by rw [hmap, List.take_length])
  have q13 := (((h13.kept hd2 (Nat.le_refl _)).kept hd3 (by omega)).kept hd0 (by omega)).kept hB (by omega)
  have q23 := ((h23.kept hd3 (Nat.le_refl _)).kept hd0 (by omega)).kept hB (by omega)
  have q33 := (hn3.kept hd0 (Nat.le_refl _)).kept hB (by omega)
  have hbn := hrow.bounds
  refine ⟨by unfold declV; rw [← hpl], ⟨hs, h11, h12, h21, h22, ?_, hbn.2, ?_, ?_, ?_, ?_⟩⟩
  · show ro.length ≤ c
    rw [← hpl]; exact hbn.1
  · exact BindsAt.imp (w := wr) (fun b o h1 h2 => hV b o (by omega)) (by omega) (by omega) q13
  · exact IsNode.imp (w := wr) (fun b o h1 h2 => hV b o (by omega)) (by omega) (by omega) q33
  · exact BindsAt.imp (w := wr) (fun b o h1 h2 => hV b o (by omega)) (by omega) (by omega) q23
  · exact RowsAt.imp (w := wr) (fun b o h1 h2 => hV b o (by omega)) (by omega) (by omega) hrows
/-- Whatever it told. -/
theorem decl_out {xk xa : Int} {xs : ByteArray} {te : List BT} {t u : RT} {co : List BT} {ro : List CT} {A2 F2 A3 A : Option Addr} {n1 c2 C2 n2 c3 c n3 : Nat} {w V : World} {r : Bool} (hb : Below w.heap.size w V)
    (h : r = true → (.agg #[.int .i64 xk, .int .i64 xa, .string xs, .slice A2 n1 c2, .int .i64 u.k, .int .i64 u.a, .string u.s, .int .i64 u.n, .slice F2 u.l.length C2, .slice A3 n2 c3, .slice A n3 c] : Value) = declV ⟨xk, xa, xs, te, t, co, ro⟩ ⟨A2, c2, F2, C2, A3, c3, A, c⟩ ∧ IsDecl V w.heap.size V.heap.size ⟨xk, xa, xs, te, t, co, ro⟩ ⟨A2, c2, F2, C2, A3, c3, A, c⟩) :
    DeclIs ⟨xk, xa, xs, te, t, co, ro⟩ w (.returned (.tuple #[.agg #[.int .i64 xk, .int .i64 xa, .string xs, .slice A2 n1 c2, .int .i64 u.k, .int .i64 u.a, .string u.s, .int .i64 u.n, .slice F2 u.l.length C2, .slice A3 n2 c3, .slice A n3 c], .bool r])) V := by
  cases r with
  | false =>
    refine ⟨false, ⟨xk, xa, xs, List.replicate n1 default, u, List.replicate n2 default, List.replicate n3 default⟩, ⟨A2, c2, F2, C2, A3, c3, A, c⟩, ?_, (fun h => by cases h), hb⟩
    unfold declV
    simp only [List.length_replicate]
  | true =>
    obtain ⟨h3, h5⟩ := h rfl
    exact ⟨true, _, _, by rw [h3], fun _ => ⟨rfl, h5⟩, hb⟩

def zeroD : DT := ⟨0, 0, ⟨#[]⟩, [], .node 0 0 ⟨#[]⟩ 0 [], [], []⟩
def zeroQ : DP := ⟨none, 0, none, 0, none, 0, none, 0⟩
theorem decl_false {w w' : World} {x : DT} (hb : Below w.heap.size w w') : DeclIs x w (.returned (.tuple #[declV zeroD zeroQ, .bool false])) w' :=
  ⟨false, zeroD, zeroQ, rfl, (fun h => by cases h), hb⟩

set_option maxHeartbeats 4000000 in
theorem decl_big (x : DT) (q : DP) (w : World) (h : 30 < x.te.length ∨ 30 < x.co.length ∨ 40 < x.ro.length) :
    Calls Tryz.prog 6 #[declV x q] w (DeclIs x w) := by
  have HF := Lib.hid (fun (w' : World) hb => decl_false (w := w) (w' := w') (x := x) hb)
  have HB : Hid (Below w.heap.size w ((w.alloc (.cells #[.int .i64 x.k, .int .i64 x.a, .string x.s, .slice q.A x.te.length q.a, .int .i64 x.t.k, .int .i64 x.t.a, .string x.t.s, .int .i64 x.t.n, .slice q.F x.t.l.length q.C, .slice q.B x.co.length q.b, .slice q.D x.ro.length q.d] 39)).alloc (.cells #[.int .i64 0, .int .i64 0, .string ⟨#[]⟩, .slice none 0 0, .int .i64 0, .int .i64 0, .string ⟨#[]⟩, .int .i64 0, .slice none 0 0, .slice none 0 0, .slice none 0 0] 30))) :=
    Lib.hid (((Below.refl _ _).alloc (Nat.le_refl _) _).alloc (by simp) _)
  unfold declV
  rcases Nat.lt_or_ge 30 x.te.length with h1 | h1
  · clear h
    go_enter Tryz.func6, Tryz.ntmps6
    go_wp2_with fail
    refine bodyPost_ret (v := .tuple #[declV zeroD zeroQ, .bool false]) (by simp [results, Tryz.results6, go_sem, declV, zeroD, zeroQ, RT.k, RT.a, RT.s, RT.n, RT.l]) rfl ?_
    exact HF.out _ HB.out
  have h1' : ¬ 30 < x.te.length := by omega
  rcases Nat.lt_or_ge 30 x.co.length with h2 | h2
  · clear h h1
    go_enter Tryz.func6, Tryz.ntmps6
    go_wp2_with fail
    refine bodyPost_ret (v := .tuple #[declV zeroD zeroQ, .bool false]) (by simp [results, Tryz.results6, go_sem, declV, zeroD, zeroQ, RT.k, RT.a, RT.s, RT.n, RT.l]) rfl ?_
    exact HF.out _ HB.out
  have h2' : ¬ 30 < x.co.length := by omega
  have h3 : 40 < x.ro.length := by omega
  clear h h1 h2
  go_enter Tryz.func6, Tryz.ntmps6
  go_wp2_with fail
  refine bodyPost_ret (v := .tuple #[declV zeroD zeroQ, .bool false]) (by simp [results, Tryz.results6, go_sem, declV, zeroD, zeroQ, RT.k, RT.a, RT.s, RT.n, RT.l]) rfl ?_
  exact HF.out _ HB.out

end Go.Proofs.YteaojmcfppbgiaaGreatDoor
