/- term.numbers, Frees, Entries. -/
import Derived.Test.YtodmnollgejgeaaDoorTNum
import Derived.Test.YtodmnollgejgeaaDoorTMake
namespace Go.Proofs.YtodmnollgejgeaaDoor
open Go.RowKit Go.Shelf Go.Sort
set_option linter.unusedVariables false
set_option maxRecDepth 100000

theorem ownsRow_base {w : World} {base base' : Nat} {e : TypeId} {size : Nat} {v : Value} {n : Nat} {xs : List Value} (h : w.ownsRow base e size v n xs) (hb : base' ≤ base) : w.ownsRow base' e size v n xs := by
  refine ⟨h.1, ?_⟩
  rcases h.2 with h1 | ⟨g, cap, cur, h1, h2, h3⟩
  · exact .inl h1
  · exact .inr ⟨g, cap, cur, h1, by omega, h3⟩
theorem grown_put (w : World) (q g : Nat) (d : Array Int) : w.grownBy (putRow (Value.int .i64) (Sort.ahead w q) g 0 d) (some g) :=
  ⟨rfl, rfl, rfl, by simp [putRow, mapBlock, Sort.ahead], fun k _ hk => by
    have : g ≠ k := fun e => hk (by rw [e])
    simp [putRow, mapBlock, Sort.ahead, Array.getElem?_modify, this]⟩

def SortIs (base g c : Nat) (p q : List Int) (w : World) (e : Ending) (w' : World) : Prop := e = .returned (.tuple #[]) ∧ w'.ownsRow base 3 1 (.slice (some ⟨g, 0, none⟩) p.length c) p.length (q.map (Value.int .i64)) ∧ w.grownBy w' (some g)
theorem sortI_own {base g c : Nat} {p : List Int} {w : World} (h : w.ownsRow base 3 1 (.slice (some ⟨g, 0, none⟩) p.length c) p.length (p.map (Value.int .i64))) (hp : p.length ≤ 8192) :
    Calls Tryd.prog 70 #[.slice (some ⟨g, 0, none⟩) p.length c] w (SortIs base g c p (p.mergeSort fun x y => decide (x ≤ y)) w) := by
  have hl : (p.mergeSort fun x y => decide (x ≤ y)).length = p.length := List.length_mergeSort p
  rcases h.2 with ⟨h0, _⟩ | ⟨g', c', cur, hv, hb, hgc, h1, h2, h3, h4⟩
  · cases h0
  cases hv
  refine (sortI_any g c p w (holds_own h) (by rcases Nat.lt_or_ge g w.heap.size with hlt | hge; exact hlt; rw [Array.getElem?_eq_none hge] at hgc; cases hgc) (by omega)).mono ?_
  rintro e w' ⟨rfl, n, os, rfl⟩
  exact ⟨rfl, ownsRow_sortedI hl hb hgc h1 h2 h3, grownBy_sortedI _⟩
def CompIs (base g c : Nat) (q : List Int) (w : World) (e : Ending) (w' : World) : Prop := e = .returned (.slice (some ⟨g, 0, none⟩) q.length c) ∧ w'.ownsRow base 3 1 (.slice (some ⟨g, 0, none⟩) q.length c) q.length (q.map (Value.int .i64)) ∧ w.grownBy w' (some g)
theorem compI_own {base g c : Nat} {p : List Int} {w : World} (h : w.ownsRow base 3 1 (.slice (some ⟨g, 0, none⟩) p.length c) p.length (p.map (Value.int .i64))) (hp : p.length ≤ 8192) :
    Calls Tryd.prog 71 #[.slice (some ⟨g, 0, none⟩) p.length c] w (CompIs base g c (Lib.compact p) w) := by
  have hle := Lib.compact_length_le p
  have hcap : p.length ≤ c := by
    rcases h.2 with ⟨h0, _⟩ | ⟨g', c', cur, hv, hb, hgc, h1, h2, h3, h4⟩
    · cases h0
    · cases hv; exact h1
  refine (compI_any g c p w (holds_own h) (by omega) hcap).mono ?_
  rintro e w' ⟨rfl, q, rfl⟩
  have hc := Lib.ownsRow_putRow (q := q) (k := (Lib.compact p).length) (ys := Lib.compact p ++ List.replicate (p.length - (Lib.compact p).length) 0) h (by simp; omega) (by omega)
  rw [List.take_left] at hc
  exact ⟨rfl, hc, grown_put w q g _⟩

def numsL (ks : List Int) (t : TM) : List Int := if shapedB t then setL (colT (fun k => ks.contains k) t) else []
theorem colL_len (f : Int → Bool) : ∀ t : TM, (colT f t).length ≤ t.size := by
  intro t
  induction t using TM.ind with
  | h k n l ih =>
    rw [colT_node, tsize_node]
    have hL : ∀ r : List TM, (∀ u ∈ r, u ∈ l) → (colL f r).length ≤ sizeM r := by
      intro r
      induction r with
      | nil => intro _; rw [colL_nil]; simp
      | cons u r ihr =>
        intro hm
        rw [colL_cons, sizeM_cons, List.length_append]
        have h1 := ih u (hm u List.mem_cons_self)
        have h2 := ihr (fun v hv => hm v (List.mem_cons_of_mem _ hv))
        omega
    have := hL l (fun _ h => h)
    rw [List.length_append]
    split <;> simp <;> omega

set_option maxHeartbeats 2000000 in
theorem numbers_any (t : TM) (ks : List Int) (kb kc : Nat) (lo hi : Nat) (A : Option Addr) (cap : Nat) (w : World) (h : IsTerm w lo hi t A cap) (hhi : hi ≤ w.heap.size) (hS : ShapesM w) (hks : ks.length ≤ 2) (hkb : kb < w.heap.size) (hka : IntsAt w kb 0 ks) :
    Calls Tryd.prog 43 #[termV t A cap, .slice (some ⟨kb, 0, none⟩) ks.length kc] w (NumsIs (numsL ks t) w) := by
  have hsh := fun W h1 h2 h3 => shaped_any t lo hi A cap W h1 h2 h3
  have HW2 := Lib.hid (fun o1 o2 => ((Below.refl w.heap.size w).alloc (Nat.le_refl _) o1).alloc (by simp) o2)
  have HH := Lib.hid (fun W (hb : Below w.heap.size w W) => h.kept hb hhi)
  have HSS := Lib.hid (fun W (hb : Below w.heap.size w W) => hS.kept hb)
  have HKA := Lib.hid (fun W (hb : Below w.heap.size w W) => hka.kept hb hkb)
  have hgl := hS.lt
  have HKS := Lib.hid hks
  unfold numsL
  clear h hS hka
  cases hx : shapedB t with
  | false =>
    rw [hx] at hsh
    have HC := Lib.hid hsh
    rw [if_neg (by simp)]
    unfold termV at HC ⊢
    clear hsh hx hks
    go_enter Tryd.func43, Tryd.ntmps43
    go_wp2_with fail
    refine (HC.out _ (HH.out _ (HW2.out _ _)) (by simp; omega) (HSS.out _ (HW2.out _ _))).mono ?_
    rintro e w1 ⟨rfl, hb1⟩
    go_wp2_with fail
    go_ret
    exact ⟨_, rfl, World.ownsRow_nil _ _ _ _, (HW2.out _ _).trans (hb1.mono (by simp; omega))⟩
  | true =>
    rw [hx] at hsh
    rw [if_pos rfl]
    obtain ⟨f1, f2, f3⟩ := shapedB_true.1 hx
    obtain ⟨p, hp⟩ : ∃ p, colT (fun k => ks.contains k) t = p := ⟨_, rfl⟩
    have hlen := colL_len (fun k => ks.contains k) t
    have hfold := fold_num (fun k => ks.contains k) t [] 0
    rw [hp] at hlen hfold
    rw [hp]
    rw [List.nil_append] at hfold
    have hplen : p.length ≤ 8192 := by omega
    have HPL := Lib.hid hplen
    have HFO := Lib.hid hfold
    have HF := Lib.hid (And.intro f2 (And.intro f3 f1))
    have HC := Lib.hid hsh
    have HE := Lib.hid (fun (B g q : Nat) (hg : B ≤ g) (hq : q < B) (hk : kb < B) (W : World) => each_numbers ⟨q, 0, none⟩ ⟨g, 0, none⟩ (tell_num B g q kb kc ks hg hq hk HKS.out) t 0 lo hi A cap [] (.slice none 0 0) W)
    unfold termV at HC HE ⊢
    clear hsh hx f1 f2 f3 hp hlen hfold hplen hks
    go_enter Tryd.func43, Tryd.ntmps43
    go_wp2_with fail
    refine (HC.out _ (HH.out _ (HW2.out _ _)) (by simp; omega) (HSS.out _ (HW2.out _ _))).mono ?_
    rintro e w1 ⟨rfl, hb1⟩
    have hz1 := hb1.size
    simp at hz1
    have HB1 := Lib.hid ((HW2.out (.cells #[.int .i64 t.k, .int .i64 t.n, .slice A t.l.length cap] 24) (.cells #[.slice (some ⟨kb, 0, none⟩) ks.length kc] 26)).trans (hb1.mono (by simp; omega)))
    have b1 : Bk w1 (w.heap.size + 1) 26 #[.slice (some ⟨kb, 0, none⟩) ks.length kc] := (Bk.last (w.alloc (.cells #[.int .i64 t.k, .int .i64 t.n, .slice A t.l.length cap] 24)) 26 #[.slice (some ⟨kb, 0, none⟩) ks.length kc] (by simp)).below hb1 (by simp)
    have b0 : Bk w1 w.heap.size 24 #[.int .i64 t.k, .int .i64 t.n, .slice A t.l.length cap] := ((Bk.new w _ _).alloc _).below hb1 (by simp; omega)
    have c0 : w1.cell? ⟨w.heap.size, 0, none⟩ = some (.int .i64 t.k) := b0.cell 0
    have c1 : w1.cell? ⟨w.heap.size, 1, none⟩ = some (.int .i64 t.n) := b0.cell 1
    have c2 : w1.cell? ⟨w.heap.size, 2, none⟩ = some (.slice A t.l.length cap) := b0.cell 2
    have hl0 : w.heap.size < w1.heap.size := by omega
    have hl1 : w.heap.size + 1 < w1.heap.size := by omega
    have hl2 : kb < w1.heap.size := by omega
    have HK0 := Lib.hid (show w1.cell? ⟨w.heap.size + 1, 0, none⟩ = some (.slice (some ⟨kb, 0, none⟩) ks.length kc) from b1.cell 0)
    have HBa := Lib.hid (HB1.out.alloc (by omega) (.cells #[.slice none 0 0] 26))
    have hNI : NumI w1.heap.size w1.heap.size (w.heap.size + 1) kb kc ks [] (.slice none 0 0) (w1.alloc (.cells #[.slice none 0 0] 26)) :=
      ⟨Bk.new _ _ _, World.ownsRow_nil _ _ _ _, by simp [Value.ownBlock], (World.cell?_alloc_lt _ _ _ hl1).trans HK0.out, HKA.out _ HBa.out⟩
    have HNI := Lib.hid hNI
    clear b0 b1 hb1 hNI
    go_wp2_with fail
    refine (HE.out w1.heap.size w1.heap.size (w.heap.size + 1) (Nat.le_refl _) hl1 hl2 _ HNI.out (HH.out _ HBa.out) (by omega) (by simp) (by omega) (by have := HF.out.1; omega) HF.out.2.1 (HSS.out _ HBa.out) (by omega) (by have := HF.out.2.2; simp; omega)).mono ?_
    rintro e w2 ⟨rfl, v2, ⟨b2, ho2, hv2, _, _⟩, hA2, _⟩
    rw [HFO.out] at ho2
    have hbel2 := hA2.below (B := w1.heap.size) (fun k hk => by
      rcases hk with rfl | hk
      · omega
      · simp [Value.ownBlock] at hk) (by simp)
    have HB2 := Lib.hid (HBa.out.trans (hbel2.mono (by omega)))
    have hz2 := HB2.out.size
    have hl3 := b2.lt
    have hfz2 := b2.cold 0
    have c3 := b2.cell 0
    simp at c3
    have HBK2 := Lib.hid b2
    have HO2 := Lib.hid ho2
    have HV2 := Lib.hid hv2
    clear b2 ho2 hv2 hA2 hbel2 c0 c1 c2
    by_cases h0 : p.length = 0
    · obtain ⟨a2, cc2, rfl⟩ := own_sliceM HO2.out
      rw [h0] at c3
      have HP0 : Hid (p = []) := Lib.hid (List.eq_nil_of_length_eq_zero h0)
      have HS0 := Lib.hid (fun W => sortI_none a2 cc2 W)
      have HC0 := Lib.hid (fun W => compI_none a2 cc2 W)
      clear h0
      go_wp2_with fail
      refine (HS0.out _).mono ?_
      rintro e w3 ⟨rfl, rfl⟩
      go_wp2_with fail
      refine (HC0.out _).mono ?_
      rintro e w4 ⟨rfl, rfl⟩
      go_wp2_with fail
      go_ret
      refine ⟨_, rfl, ?_, HB2.out⟩
      have := HO2.out
      rw [HP0.out] at this ⊢
      rw [setL_nil]
      exact ownsRow_base this (by omega)
    · obtain ⟨g, c, hv, hg1, hg2⟩ := HO2.out.form (by omega)
      subst hv
      have HSO := Lib.hid (sortI_own HO2.out HPL.out)
      have hne : w1.heap.size ≠ g := fun e => by have := HV2.out; simp [Value.ownBlock] at this; omega
      have HNE := Lib.hid hne
      have hnelen : p.length = (p.mergeSort fun x y => decide (x ≤ y)).length := (List.length_mergeSort p).symm
      have HNL := Lib.hid hnelen
      clear h0 hne hnelen
      go_wp2_with fail
      refine HSO.out.mono ?_
      rintro e w3 ⟨rfl, ho3, hg3⟩
      have b3 := HBK2.out.grown hg3 (fun e => HNE.out (by injection e))
      have c4 := b3.cell 0
      simp at c4
      have hl4 := b3.lt
      have HB3 := Lib.hid (HB2.out.grown hg3 (by omega) (fun k hk => by injection hk with hk; omega))
      have hz3 := HB3.out.size
      rw [HNL.out] at ho3
      have HCO := Lib.hid (compI_own ho3 (by rw [← HNL.out]; exact HPL.out))
      rw [← HNL.out] at HCO
      clear b3 ho3 hg3 c3
      go_wp2_with fail
      refine HCO.out.mono ?_
      rintro e w4 ⟨rfl, ho4, hg4⟩
      have HB4 := Lib.hid (HB3.out.grown hg4 (by omega) (fun k hk => by injection hk with hk; omega))
      have HO4 := Lib.hid ho4
      clear ho4 hg4
      go_wp2_with fail
      go_ret
      exact ⟨_, rfl, ownsRow_base HO4.out (by omega), HB4.out⟩

theorem NumsIs.at_ {l : List Int} {w : World} {w1 : World} {e : Ending} {w' : World} (h : NumsIs l w1 e w') (hb : Below w.heap.size w w1) : NumsIs l w e w' := by
  obtain ⟨v, rfl, h1, h2⟩ := h
  exact ⟨v, rfl, ownsRow_base h1 hb.size, hb.trans (h2.mono hb.size)⟩

theorem frees_any (t : TM) (lo hi : Nat) (A : Option Addr) (cap : Nat) (w : World) (h : IsTerm w lo hi t A cap) (hhi : hi ≤ w.heap.size) (hS : ShapesM w) :
    Calls Tryd.prog 12 #[termV t A cap] w (NumsIs (numsL [8] t) w) := by
  have HW2 := Lib.hid (fun o1 o2 => ((Below.refl w.heap.size w).alloc (Nat.le_refl _) o1).alloc (by simp) o2)
  have HH := Lib.hid (fun W (hb : Below w.heap.size w W) => h.kept hb hhi)
  have HSS := Lib.hid (fun W (hb : Below w.heap.size w W) => hS.kept hb)
  have HN := Lib.hid (fun W h1 h2 h3 h4 h5 => numbers_any t [8] (w.heap.size + 1) 1 lo hi A cap W h1 h2 h3 (by simp) h4 h5)
  have HBK := Lib.hid (Bk.last (w.alloc (.cells #[.int .i64 t.k, .int .i64 t.n, .slice A t.l.length cap] 24)) 3 #[.int .i64 8] (g := w.heap.size + 1) (by simp))
  obtain ⟨L, hL⟩ : ∃ L, numsL [8] t = L := ⟨_, rfl⟩
  rw [hL] at HN ⊢
  unfold termV at HN ⊢
  clear h hS hL
  go_enter Tryd.func12, Tryd.ntmps12
  go_wp2_with fail
  refine (HN.out _ (HH.out _ (HW2.out _ _)) (by simp; omega) (HSS.out _ (HW2.out _ _)) (by simp) (fun i hi => ?_)).mono ?_
  · obtain rfl : i = 0 := by simp at hi; omega
    exact HBK.out.cell 0
  rintro e w1 hn
  obtain ⟨v, rfl, h1, h2⟩ := hn.at_ (HW2.out _ _)
  obtain ⟨a, c, rfl⟩ := own_sliceM h1
  have HO := Lib.hid (And.intro h1 h2)
  clear h1 h2 hn
  go_wp2_with fail
  go_ret
  exact ⟨_, rfl, HO.out.1, HO.out.2⟩

theorem entries_any (t : TM) (lo hi : Nat) (A : Option Addr) (cap : Nat) (w : World) (h : IsTerm w lo hi t A cap) (hhi : hi ≤ w.heap.size) (hS : ShapesM w) :
    Calls Tryd.prog 13 #[termV t A cap] w (NumsIs (numsL [6, 7] t) w) := by
  have HW2 := Lib.hid (fun o1 o2 => ((Below.refl w.heap.size w).alloc (Nat.le_refl _) o1).alloc (by simp) o2)
  have HH := Lib.hid (fun W (hb : Below w.heap.size w W) => h.kept hb hhi)
  have HSS := Lib.hid (fun W (hb : Below w.heap.size w W) => hS.kept hb)
  have HN := Lib.hid (fun W h1 h2 h3 h4 h5 => numbers_any t [6, 7] (w.heap.size + 1) 2 lo hi A cap W h1 h2 h3 (by simp) h4 h5)
  have HBK := Lib.hid (Bk.last (w.alloc (.cells #[.int .i64 t.k, .int .i64 t.n, .slice A t.l.length cap] 24)) 3 #[.int .i64 6, .int .i64 7] (g := w.heap.size + 1) (by simp))
  obtain ⟨L, hL⟩ : ∃ L, numsL [6, 7] t = L := ⟨_, rfl⟩
  rw [hL] at HN ⊢
  unfold termV at HN ⊢
  clear h hS hL
  go_enter Tryd.func13, Tryd.ntmps13
  go_wp2_with fail
  refine (HN.out _ (HH.out _ (HW2.out _ _)) (by simp; omega) (HSS.out _ (HW2.out _ _)) (by simp) (fun i hi => ?_)).mono ?_
  · have h2 : i = 0 ∨ i = 1 := by simp at hi; omega
    rcases h2 with rfl | rfl
    · exact HBK.out.cell 0
    · exact HBK.out.cell 1
  rintro e w1 hn
  obtain ⟨v, rfl, h1, h2⟩ := hn.at_ (HW2.out _ _)
  obtain ⟨a, c, rfl⟩ := own_sliceM h1
  have HO := Lib.hid (And.intro h1 h2)
  clear h1 h2 hn
  go_wp2_with fail
  go_ret
  exact ⟨_, rfl, HO.out.1, HO.out.2⟩

end Go.Proofs.YtodmnollgejgeaaDoor
