/- term.Frees, term.Entries: the numbers of a term's nodes of some kinds, rising, each once; with the library's Contains, Index, Sort, Compact. -/
import Derived.Test.YtodmnollgejgeaaDoorTHas
import Derived.Test.YtodmnollgejgeaaDoorTSet
import Derived.Test.YtodmnollgejgeaaDoorTLib
import Derived.Test.YtodmnollgejgeaaDoorTInfoR
import Derived.Shelf.Slices.In.SortAlone
import Derived.Shelf.Slices.In.SortNone
import Derived.Shelf.Slices.CompactI
import Derived.Sort.OwnSortedInts
import Derived.Lib.OwnBridge
namespace Go.Proofs.YtodmnollgejgeaaDoor
open Go.RowKit Go.Shelf Go.Sort
set_option linter.unusedVariables false
set_option maxRecDepth 100000

/-- The cells of a slice of ints. -/
def IntsAt (w : World) (b o : Nat) (ks : List Int) : Prop := ∀ i (h : i < ks.length), w.cell? ⟨b, o + i, none⟩ = some (.int .i64 ks[i])
theorem IntsAt.kept {w w' : World} {b o B : Nat} {ks : List Int} (h : IntsAt w b o ks) (hb : Below B w w') (hB : b < B) : IntsAt w' b o ks := fun i hi => (hb.cell (p := ⟨b, o + i, none⟩) hB).trans (h i hi)

def IdxI (ks : List Int) (z : Int) (w : World) (e : Ending) (w' : World) : Prop := ∃ r : Int, e = .returned (.int .i64 r) ∧ decide (0 ≤ r) = ks.contains z ∧ w' = w
theorem own_len (a : Option Addr) (n m c : Nat) : (Value.slice a n c).ownBlock = (Value.slice a m c).ownBlock := by cases a <;> rfl
theorem idxI_any (ks : List Int) (b o cap : Nat) (z : Int) (w : World) (hl : ks.length ≤ maxLen) (hc : IntsAt w b o ks) :
    Calls Tryd.prog 78 #[.slice (some ⟨b, o, none⟩) ks.length cap, .int .i64 z] w (IdxI ks z w) := by
  have HC := Lib.hid hc
  unfold maxLen at hl
  clear hc
  go_enter Tryd.func78, Tryd.ntmps78
  go_wp2_with fail
  go_loopw [8] (fun iv wr => ∃ i : Nat, i ≤ ks.length ∧ iv = .int .i64 i ∧ wr = w ∧ Hid (∀ j (h : j < ks.length), j < i → ks[j] ≠ z)) (fun iv _ => ks.length - (intOf iv).toNat)
  case atStart => exact ⟨0, Nat.zero_le _, rfl, rfl, Lib.hid (fun j h hj => by omega)⟩
  case round =>
    obtain ⟨i, hi1, rfl, hw, HQ⟩ := hrel
    by_cases hil : i < ks.length
    · have hx := HC.out i hil
      obtain ⟨x, hx'⟩ : ∃ x, ks[i] = x := ⟨_, rfl⟩
      rw [hx'] at hx
      have HX := Lib.hid hx'
      have hil' : (i : Int) < (ks.length : Int) := by omega
      have hi0 : (0 : Int) ≤ (i : Int) := by omega
      clear hx'
      subst hw
      by_cases hz : z = x
      · have e1 : (z == x) = true := by simpa using hz
        have HIN : Hid (ks.contains z = true) := Lib.hid (by rw [List.contains_iff_mem, hz, ← HX.out]; exact List.getElem_mem hil)
        clear hz HC
        go_wp2_with fail
        go_ret
        exact ⟨_, rfl, by rw [HIN.out]; exact decide_eq_true (by omega), rfl⟩
      · have e1 : (z == x) = false := by simpa using hz
        have HN : Hid (x ≠ z) := Lib.hid (fun e => hz e.symm)
        clear hz HC
        go_wp2_with fail
        go_roundw
        case rel =>
          refine ⟨i + 1, by omega, rfl, by first | rfl | trivial, Lib.hid (fun j h hj => ?_)⟩
          by_cases e : j < i
          · exact HQ.out j h e
          · obtain rfl : j = i := by omega
            rw [HX.out]; exact HN.out
        case measure => simp [intOf]; omega
    · obtain rfl : i = ks.length := by omega
      subst hw
      have HNO : Hid (ks.contains z = false) := Lib.hid (by
        cases e : ks.contains z with
        | false => rfl
        | true =>
          obtain ⟨j, hj, e2⟩ := List.getElem_of_mem (List.contains_iff_mem.1 e)
          exact (HQ.out j hj hj e2).elim)
      clear HC HQ
      go_wp2_with fail
      go_ret
      exact ⟨_, rfl, by rw [HNO.out]; rfl, rfl⟩

theorem contI_any (ks : List Int) (b o cap : Nat) (z : Int) (w : World) (hl : ks.length ≤ maxLen) (hc : IntsAt w b o ks) :
    Calls Tryd.prog 69 #[.slice (some ⟨b, o, none⟩) ks.length cap, .int .i64 z] w fun e w' => e = .returned (.bool (ks.contains z)) ∧ w' = w := by
  have HI := Lib.hid (idxI_any ks b o cap z w hl hc)
  unfold IdxI at HI
  obtain ⟨x, hx⟩ : ∃ x, ks.contains z = x := ⟨_, rfl⟩
  rw [hx] at HI ⊢
  clear hc hx
  go_enter Tryd.func69, Tryd.ntmps69
  go_wp2_with fail
  refine HI.out.mono ?_
  rintro e w1 ⟨r, rfl, hr, rfl⟩
  go_wp2_with fail
  go_ret
  exact ⟨by rw [← hr]; rfl, rfl⟩

theorem infoI : (Tryd.prog.info? 3).map (fun i => (i.zero, i.size, i.bytes)) = some (some (.int .i64 0), 1, 8) := by kernel_rfl

/-- What the telling of numbers keeps. -/
def NumI (B g q kb kc : Nat) (ks : List Int) (p : List Int) (v : Value) (w : World) : Prop :=
  Bk w g 26 #[v] ∧ w.ownsRow B 3 1 v p.length (p.map (Value.int .i64)) ∧ v.ownBlock ≠ some g ∧ w.cell? ⟨q, 0, none⟩ = some (.slice (some ⟨kb, 0, none⟩) ks.length kc) ∧ IntsAt w kb 0 ks
def NumT (g : Nat) (v : Value) (k : Nat) : Prop := k = g ∨ v.ownBlock = some k

theorem grown_set (w : World) (g q : Nat) (u : Value) : w.grownBy (w.setCell ⟨g, q, none⟩ u) (some g) :=
  ⟨rfl, rfl, rfl, by simp [World.setCell], fun k _ hk => Below.heap_setCell _ _ _ _ (fun e => hk (by rw [e]))⟩

set_option maxHeartbeats 1000000 in
theorem tell_num (B g q kb kc : Nat) (ks : List Int) (hg : B ≤ g) (hq : q < B) (hk : kb < B) (hkl : ks.length ≤ 2) :
    Teller B 68 [.pointer (some ⟨q, 0, none⟩), .pointer (some ⟨g, 0, none⟩)] (NumI B g q kb kc ks) (NumT g) (numF (fun k => ks.contains k)) List.length where
  cnt := fun p t x => by unfold numF; split <;> simp
  keep := fun p v w w' h hb => by
    obtain ⟨h1, h2, h3, h4, h5⟩ := h
    have hlt := World.block_lt_of_cell? w _ h4
    have hkw : ∀ i (hi : i < ks.length), kb < w.heap.size := fun i hi => World.block_lt_of_cell? w _ (h5 i hi)
    refine ⟨h1.below hb h1.lt, h2.kept (row := none) ⟨hb.os, hb.tape, hb.output, hb.size, fun k hk _ => hb.block k hk⟩ (by cases hv : v.ownBlock <;> simp), h3, (hb.cell (p := ⟨q, 0, none⟩) hlt).trans h4, fun i hi => (hb.cell (p := ⟨kb, 0 + i, none⟩) (hkw i hi)).trans (h5 i hi)⟩
  lt := fun p v w h k hk => by
    obtain ⟨h1, h2, _⟩ := h
    rcases hk with rfl | hk
    · exact ⟨hg, h1.lt⟩
    · exact h2.lt k hk
  call := by
    intro t x lo hi A cap p v w h hn hhi hB hx0 hx1 hn0 hn1 hcp
    obtain ⟨i0, hi0, hz0, hz1, hz2⟩ := info_parts infoI
    obtain ⟨b1, b2, b3, b4, b5⟩ := h
    have hlt := b1.lt
    have hqw := World.block_lt_of_cell? w _ b4
    simp only at hqw
    have c1 := b1.cell 0
    simp at c1
    have HB1 := Lib.hid b1
    have HB2 := Lib.hid b2
    have HB3 := Lib.hid b3
    have HB4 := Lib.hid b4
    have HB5 := Lib.hid b5
    have HW1 := Lib.hid (fun o1 => (Below.refl w.heap.size w).alloc (Nat.le_refl _) o1)
    have HCT := Lib.hid (fun o1 => contI_any ks kb 0 kc t.k (w.alloc o1) (by unfold maxLen; omega) (fun i hi => (World.cell?_alloc_lt _ _ _ (World.block_lt_of_cell? w _ (HB5.out i hi))).trans (HB5.out i hi)))
    have HNF := Lib.hid (show numF (fun k => ks.contains k) p t x = if ks.contains t.k = true then p ++ [t.n] else p from rfl)
    have HCP := Lib.hid hcp
    obtain ⟨a1, cc1, rfl⟩ := own_sliceM b2
    obtain ⟨y, hy⟩ : ∃ y, ks.contains t.k = y := ⟨_, rfl⟩
    rw [hy] at HCT HNF
    clear b1 b2 b3 b5 hy hcp
    show Calls _ _ #[termV t A cap, .int .i64 x, .pointer (some ⟨q, 0, none⟩), .pointer (some ⟨g, 0, none⟩)] _ _
    unfold termV
    cases y with
    | false =>
      have HF2 := Lib.hid (show numF (fun k => ks.contains k) p t x = p by rw [HNF.out]; rfl)
      go_enter Tryd.func68, Tryd.ntmps68
      go_wp2_with fail
      refine (HCT.out _).mono ?_
      rintro e w1 ⟨rfl, rfl⟩
      go_wp2_with fail
      go_end0
      refine ⟨rfl, .slice a1 p.length cc1, ?_, Aside.none _, fun k hk => .inl hk⟩
      rw [HF2.out]
      refine ⟨HB1.out.alloc _, HB2.out.kept (row := none) ⟨rfl, rfl, rfl, by simp, fun k hk _ => Below.heap_alloc _ _ _ hk⟩ (by cases hv : (Value.slice a1 p.length cc1).ownBlock <;> simp), HB3.out, (World.cell?_alloc_lt _ _ _ hqw).trans HB4.out, fun i hi => (World.cell?_alloc_lt _ _ _ (World.block_lt_of_cell? w _ (HB5.out i hi))).trans (HB5.out i hi)⟩
    | true =>
      have HF2 := Lib.hid (show numF (fun k => ks.contains k) p t x = p ++ [t.n] by rw [HNF.out]; rfl)
      obtain ⟨M, hM⟩ : ∃ M, p.length = M := ⟨_, rfl⟩
      have HM := Lib.hid hM
      have hM9 : M ≤ 8191 := by have := HCP.out; omega
      have HM9 := Lib.hid hM9
      rw [hM] at c1
      have HOW := Lib.hid (fun (o1 o2 : Obj) => (show ((w.alloc o1).alloc o2).ownsRow B 3 1 (.slice a1 M cc1) M (p.map (Value.int .i64)) from by
        have := HB2.out.kept (w' := (w.alloc o1).alloc o2) (row := none) ⟨rfl, rfl, rfl, by simp; omega, fun k hk _ => (Below.heap_alloc _ _ _ (by simp; omega)).trans (Below.heap_alloc _ _ _ hk)⟩ (by cases hv : (Value.slice a1 p.length cc1).ownBlock <;> simp)
        rw [HM.out] at this
        exact this))
      have hown1 : (Value.slice a1 M cc1).ownBlock ≠ some g := by rw [own_len a1 M p.length]; exact HB3.out
      have hlb : ∀ k, (Value.slice a1 M cc1).ownBlock = some k → k < w.heap.size := fun k hk => (HB2.out.lt k (by rw [own_len a1 p.length M]; exact hk)).2
      have HOB := Lib.hid hown1
      have HLB := Lib.hid hlb
      have hTv : ∀ k, NumT g (Value.slice a1 p.length cc1) k ↔ k = g ∨ (Value.slice a1 M cc1).ownBlock = some k := fun k => by unfold NumT; rw [own_len a1 p.length M]
      have HTV := Lib.hid hTv
      clear hM hM9 hown1 hlb hTv
      go_enter Tryd.func68, Tryd.ntmps68
      go_wp2_with fail
      refine (HCT.out _).mono ?_
      rintro e w1 ⟨rfl, rfl⟩
      go_wp2_with (at_builtin; refine wpList_app rfl _ _ 26 rfl B 3 i0 (.int .i64 0) 1 8 Tryd.underlying26 hi0 hz0 hz1 hz2 rfl (by decide) _ _ _ rfl (HOW.out _ _) (some ⟨w.heap.size + 1, 0, none⟩) 1 1 [.int .i64 t.n] rfl (src_at _ _ _ (by simp) rfl) (by simp [Value.oneCell']) ?c3 ?c4 ?c5 ?_)
      case c3 => have := HM9.out; unfold maxLen; omega
      case c4 => have := HM9.out; omega
      case c5 => simp; omega
      rintro v2 w3 ⟨hown3, hg3, ho3⟩
      obtain ⟨a2, cc2, rfl⟩ := own_sliceM hown3
      have hsz3 := hg3.size
      simp at hsz3
      have hlt3 : g < w3.heap.size := by omega
      have b3 : Bk w3 g 26 #[.slice a1 M cc1] := by
        have h1 := HB1.out
        rw [HM.out] at h1
        exact ((h1.alloc _).alloc _).grown hg3 (fun e => HOB.out e.symm)
      have hfz := b3.cold 0
      have c3 := b3.cell 0
      simp at c3
      have HB3' := Lib.hid b3
      have HG3 := Lib.hid hg3
      have HO3 := Lib.hid ho3
      have HOWN3 := Lib.hid hown3
      clear b3 hg3 ho3 hown3
      go_wp2_with fail
      go_end0
      have hv2 : (Value.slice a2 (M + 1) cc2).ownBlock ≠ some g := by
        rcases HO3.out with h | h
        · rw [h]; exact HOB.out
        · rw [h]; simp; omega
      have hasd : Aside (NumT g (.slice a1 p.length cc1)) w (w3.setCell ⟨g, 0, none⟩ (.slice a2 (M + 1) cc2)) := by
        refine ⟨HG3.out.os, HG3.out.tape, HG3.out.output, by simp [World.setCell]; omega, fun k hk hnt => ?_⟩
        have hnt' := fun h => hnt ((HTV.out k).2 h)
        have h1 : k ≠ g := fun e => hnt' (.inl e)
        have h2 : some k ≠ (Value.slice a1 M cc1).ownBlock := fun e => hnt' (.inr e.symm)
        rw [Below.heap_setCell _ _ _ _ h1, HG3.out.block k (by simp; omega) h2, Below.heap_alloc _ _ _ (by simp; omega), Below.heap_alloc _ _ _ hk]
      have hbel := hasd.below (B := B) (fun k hk => by
        rcases (HTV.out k).1 hk with rfl | h
        · exact hg
        · exact (HB2.out.lt k (by rw [own_len a1 p.length M]; exact h)).1) hB
      refine ⟨rfl, .slice a2 (M + 1) cc2, ?_, hasd, fun k hk => ?_⟩
      · rw [HF2.out]
        refine ⟨HB3'.out.at_ 0 _, ?_, hv2, (hbel.cell (p := ⟨q, 0, none⟩) hq).trans HB4.out, fun i hi => (hbel.cell (p := ⟨kb, 0 + i, none⟩) hk).trans (HB5.out i hi)⟩
        have h1 := HOWN3.out.kept (grown_set w3 g 0 (.slice a2 (M + 1) cc2)) (.inr hv2)
        rw [List.length_append, List.map_append, HM.out]
        exact h1
      · rcases hk with rfl | hk
        · exact .inl (.inl rfl)
        · rcases HO3.out with h | h
          · left
            exact (HTV.out k).2 (.inr (by rw [← h]; exact hk))
          · right
            rw [h] at hk
            injection hk with hk
            simp at hk
            omega

/-- What a call that hands back a row of numbers leaves. -/
def NumsIs (l : List Int) (w : World) (e : Ending) (w' : World) : Prop := ∃ v, e = .returned v ∧ w'.ownsRow w.heap.size 3 1 v l.length (l.map (Value.int .i64)) ∧ Below w.heap.size w w'

theorem sortI_any (blk cap : Nat) (zs : List Int) (w : World) (hH : Holds (Value.int .i64) w blk 0 zs.toArray) (hblk : blk < w.heap.size) (hsz : zs.length < 4611686018427387904) :
    Calls Tryd.prog 70 #[.slice (some ⟨blk, 0, none⟩) zs.length cap] w fun e w' => e = .returned (.tuple #[]) ∧ ∃ n os, w' = grow (putRow (Value.int .i64) (Sort.ahead w n) blk 0 (zs.mergeSort fun x y => decide (x ≤ y)).toArray) os :=
  calls_of_every_depth fun D => AnyS.slices_Sort_int_alone Tryd.lays189 D blk 0 cap zs w hH hblk hsz
theorem sortI_none (p : Option Addr) (cap : Nat) (w : World) : Calls Tryd.prog 70 #[.slice p 0 cap] w fun e w' => e = .returned (.tuple #[]) ∧ w' = w := Any.slices_Sort_int_none Tryd.lays189 p cap w
theorem compI_any (blk cap : Nat) (zs : List Int) (w : World) (hH : Holds (Value.int .i64) w blk 0 zs.toArray) (hsz : zs.length ≤ 9223372036854775807) (hcap : zs.length ≤ cap) :
    Calls Tryd.prog 71 #[.slice (some ⟨blk, 0, none⟩) zs.length cap] w fun e w' => e = .returned (.slice (some ⟨blk, 0, none⟩) (Lib.compact zs).length cap) ∧ ∃ q, w' = putRow (Value.int .i64) (Sort.ahead w q) blk 0 (Lib.compact zs ++ List.replicate (zs.length - (Lib.compact zs).length) 0).toArray := Any.slices_Compact_int Tryd.laysCompact blk 0 cap zs w hH hsz hcap
theorem compI_none (a : Option Addr) (cap : Nat) (w : World) : Calls Tryd.prog 71 #[.slice a 0 cap] w fun e w' => e = .returned (.slice a 0 cap) ∧ w' = w := Any.slices_Compact_int_empty Tryd.laysCompact a cap w
theorem holds_own {w : World} {base g cap : Nat} {zs : List Int} (h : w.ownsRow base 3 1 (.slice (some ⟨g, 0, none⟩) zs.length cap) zs.length (zs.map (Value.int .i64))) : Holds (Value.int .i64) w g 0 zs.toArray := by
  intro j hj
  have hj' : j < zs.length := by simpa using hj
  rcases h.2 with ⟨h0, _⟩ | ⟨g', cap', cur, hv, hb, hgc, h1, h2, h3, h4⟩
  · cases h0
  · cases hv
    refine ⟨?_, by simp [World.frozen?, hgc]⟩
    have := h.cellAt j (by omega)
    rw [Nat.zero_add, this]
    simp [hj']

end Go.Proofs.YtodmnollgejgeaaDoor
