/- A parameter that is a term, or a list of terms, with what the reach says of it: no list in it is longer than memory may hold. -/
import Derived.Test.YtofmoggjpgjdgaaDoorTOpen
import Derived.SizedLaws
namespace Go.Proofs.YtofmoggjpgjdgaaDoor
open Go.ChangeShapes Go.WideShapes Go.ChangeAt Go.RowKit Go.Deep
set_option linter.unusedVariables false
set_option maxRecDepth 100000

/-- Each list of Subs, by its bytes, within the reach. -/
def sizedT : TM → Bool
  | .node _ _ l => decide (l.length * 40 ≤ 140737488351232) && sizedL l
where sizedL : List TM → Bool
  | [] => true
  | t :: r => sizedT t && sizedL r
theorem sizedL_all : ∀ l : List TM, sizedT.sizedL l = l.all sizedT
  | [] => by rw [sizedT.sizedL]; rfl
  | t :: r => by rw [sizedT.sizedL, sizedL_all r, List.all_cons]
theorem sizedT_node (k n : Int) (l : List TM) : sizedT (.node k n l) = (decide (l.length * 40 ≤ 140737488351232) && l.all sizedT) := by rw [sizedT, sizedL_all]
theorem TermIn.relabel {w : World} {P : Nat → Prop} {k n k' n' : Int} {l : List TM} {A : Option Addr} {cap : Nat} (h : TermIn w P (.node k n l) A cap) : TermIn w P (.node k' n' l) A cap := by
  cases h with
  | mk k n l A cap F C hl hm hc hn => exact .mk k' n' l A cap F C hl hm hc hn
/-- A list of terms in memory: as the Subs of a node. -/
abbrev IsTerms (w : World) (lo hi : Nat) (ts : List TM) (A : Option Addr) (cap : Nat) : Prop := IsTerm w lo hi (.node 0 0 ts) A cap

theorem weightsAll_mem {H : Type} {P : Program} {e : TypeId} : ∀ {l : List (DataW H)} {d : DataW H}, d ∈ l → ∀ n ∈ d.weights P e, n ∈ DataW.weightsAll P e l
  | d0 :: l, d, hd, n, hn => by
    rw [DataW.weightsAll, List.mem_append]
    rcases List.mem_cons.1 hd with rfl | hd
    · exact .inl hn
    · exact .inr (weightsAll_mem hd n hn)
theorem bytesM : Tryd.prog.bytesOf 24 = 40 := by kernel_rfl

section
variable {H : Type} {enc : TypeId × Value → H} {W : World} {base : Nat} {sp : Nat → Bool} {hd : Bool}
def OneOpen (enc : TypeId × Value → H) (W : World) (base : Nat) (sp : Nat → Bool) (hd : Bool) (m : Nat) : Prop :=
  ∀ (cs : List Value) (x : DataW H × List MemPlace), DataW.trod enc Tryd.prog W base sp hd m 24 cs = some x → (∀ n ∈ x.1.weights Tryd.prog 24, n ≤ reachBytes) →
    ∃ (t : TM) (A : Option Addr) (cap : Nat), cs = cellsM (t, A, cap) ∧ TermIn W (fun b => b < W.heap.size) t A cap ∧ sizedT t = true
theorem open_list (fuel : Nat) (one0 : ∀ m, m < fuel → OneOpen enc W base sp hd m) (c2 : Value) (y2 : DataW H × List MemPlace) (h2 : DataW.trod enc Tryd.prog W base sp hd fuel 22 [c2] = some y2)
    (hw : ∀ n ∈ y2.1.weights Tryd.prog 22, n ≤ reachBytes) :
    ∃ (ts : List TM) (A : Option Addr) (cap : Nat), c2 = .slice A ts.length cap ∧ TermIn W (fun b => b < W.heap.size) (.node 0 0 ts) A cap ∧ ts.length * 40 ≤ 140737488351232 ∧ ts.all sizedT = true := by
  rcases DataW.trod_slice Tryd.underlying22 h2 with ⟨e4, _⟩ | ⟨ad, len, cap, elems, rest, m, rfl, e4, hy, hb, hl, hm, hel, hall, _⟩
  · obtain rfl : c2 = .slice none 0 0 := by simpa using e4
    exact ⟨[], none, 0, rfl, TermIn.mk 0 0 [] none 0 (fun _ => none) (fun _ => 0) (Nat.le_refl _) (by decide) (fun h => by simp at h) (fun i h => by simp at h), by simp, rfl⟩
  · obtain rfl : c2 = .slice (some ad) len cap := by simpa using e4
    have hw1 : ∀ n ∈ (DataW.slice (elems.map (·.1)) (rest.map (·.1))).weights Tryd.prog 22, n ≤ reachBytes := by rw [hy] at hw; exact hw
    have hw2 : (len + rest.length) * 40 ≤ reachBytes := hw1 _ (by
      rw [DataW.weights, Tryd.underlying22]
      show _ ∈ ((List.map (·.1) elems).length + (List.map (·.1) rest).length) * Tryd.prog.bytesOf 24 :: _
      rw [bytesM]
      simp [hel])
    have hw3 : ∀ d ∈ elems, ∀ n ∈ d.1.weights Tryd.prog 24, n ≤ reachBytes := fun d hd n hn => hw1 n (by
      rw [DataW.weights, Tryd.underlying22]
      refine List.mem_cons_of_mem _ (List.mem_append.2 (.inl ?_))
      exact weightsAll_mem (List.mem_map.2 ⟨d, hd, rfl⟩) n hn)
    have one : ∀ i, i < len → ∃ p : TM × Option Addr × Nat, ((∀ r, r < 3 → W.cell? (ad.add (i * 3 + r)) = (cellsM p)[r]?) ∧ TermIn W (fun b => b < W.heap.size) p.1 p.2.1 p.2.2) ∧ sizedT p.1 = true := by
      intro i hi
      have hx := hall i hi
      rw [cells24] at hx
      rw [List.getElem?_eq_getElem (by omega)] at hx
      obtain ⟨cs', hc, ht⟩ := Option.bind_eq_some_iff.1 hx
      obtain ⟨_, hcl, hat⟩ := World.cells?_some hc
      obtain ⟨t, A, c, rfl, hn, hs⟩ := one0 m (by omega) cs' _ ht (hw3 _ (List.getElem_mem _))
      refine ⟨(t, A, c), ⟨fun r hr => ?_, hn⟩, hs⟩
      have := hat r hr
      rwa [Go.Deep.add_add] at this
    obtain ⟨f, hf⟩ := choose_lt (α := TM × Option Addr × Nat) (p := fun i p => ((∀ r, r < 3 → W.cell? (ad.add (i * 3 + r)) = (cellsM p)[r]?) ∧ TermIn W (fun b => b < W.heap.size) p.1 p.2.1 p.2.2) ∧ sizedT p.1 = true) one
    have hget : ∀ i (h : i < (List.ofFn fun i : Fin len => (f i.val).1).length), (List.ofFn fun i : Fin len => (f i.val).1)[i] = (f i).1 := fun i h => by simp
    refine ⟨List.ofFn fun i : Fin len => (f i.val).1, some ad, cap, by simp, ?_, ?_, ?_⟩
    · refine TermIn.mk 0 0 _ (some ad) cap (fun i => (f i).2.1) (fun i => (f i).2.2) (by simp; omega) hm (fun h0 => ?_) (fun i h => by rw [hget i h]; exact (hf i (by simpa using h)).1.2)
      have h0' : 0 < len := by simpa using h0
      obtain ⟨b, o, spot⟩ := ad
      have hc0 := (hf 0 h0').1.1 0 (by omega)
      have hspot : spot = none := by simpa [Addr.add] using World.cell?_spot hc0
      subst hspot
      refine ⟨b, o, rfl, ?_, fun i h => ?_⟩
      · rw [Addr.add_lit] at hc0
        exact World.block_lt_of_cell? W _ hc0
      · rw [hget i h]
        have hx := fun r hr => (hf i (by simpa using h)).1.1 r hr
        have x0 := hx 0 (by omega)
        have x1 := hx 1 (by omega)
        have x2 := hx 2 (by omega)
        rw [Addr.add_lit] at x0 x1 x2
        rw [Nat.add_zero] at x0
        exact ⟨x0, by rw [Nat.add_assoc, x1]; rfl, by rw [Nat.add_assoc, x2]; rfl⟩
    · rw [List.length_ofFn]
      have : reachBytes = 140737488351232 := rfl
      omega
    · rw [List.all_eq_true]
      intro u hu
      rw [List.mem_ofFn] at hu
      obtain ⟨i, rfl⟩ := hu
      exact (hf i.val i.isLt).2
theorem open_sized : ∀ (fuel : Nat), OneOpen enc W base sp hd fuel := by
  intro fuel
  induction fuel using Nat.strongRecOn with
  | _ fuel ih =>
    intro cs x h hw
    obtain ⟨xs, n, rfl, hx, hlen, hxl, hf⟩ := DataW.trod_struct Tryd.underlying24 h
    rw [cells24] at hlen
    obtain ⟨c0, c1, c2, rfl⟩ := list3 hlen
    obtain ⟨y0, y1, y2, rfl⟩ := list3 (show xs.length = 3 from hxl)
    have h0 : DataW.trod enc Tryd.prog W base sp hd n 3 (List.take (Tryd.prog.cellsOf 3) (List.drop 0 [c0, c1, c2])) = some y0 := hf 0 _ rfl
    have h1 : DataW.trod enc Tryd.prog W base sp hd n 3 (List.take (Tryd.prog.cellsOf 3) (List.drop 1 [c0, c1, c2])) = some y1 := hf 1 _ rfl
    have h2 : DataW.trod enc Tryd.prog W base sp hd n 22 (List.take (Tryd.prog.cellsOf 22) (List.drop 2 [c0, c1, c2])) = some y2 := hf 2 _ rfl
    rw [cells1] at h0 h1
    rw [cells22] at h2
    obtain ⟨k, e0, _, _⟩ := DataW.trod_int Tryd.underlying3 h0
    obtain ⟨nn, e1, _, _⟩ := DataW.trod_int Tryd.underlying3 h1
    obtain rfl : c0 = .int .i64 k := by simpa using e0
    obtain rfl : c1 = .int .i64 nn := by simpa using e1
    have hw2 : ∀ q ∈ y2.1.weights Tryd.prog 22, q ≤ reachBytes := fun q hq => hw q (by
      rw [hx]
      show q ∈ DataW.weights Tryd.prog 24 (.agg [y0.1, y1.1, y2.1])
      rw [DataW.weights, Tryd.underlying24]
      exact DataW.weights_mem_each (j := 2) (t := 22) (d := y2.1) rfl rfl q hq)
    obtain ⟨ts, A, cap, rfl, hin, hs1, hs2⟩ := open_list n (fun m hm => ih m (by omega)) c2 y2 (by simpa using h2) hw2
    exact ⟨.node k nn ts, A, cap, rfl, hin.relabel, by rw [sizedT_node, decide_eq_true hs1, hs2]; rfl⟩
end

/-- A parameter that is a list of terms. -/
theorem terms_in {H : Type} {enc : TypeId × Value → H} {W : World} {base : Nat} {sp : Nat → Bool} {hd : Bool} {r : Reach} {b0 : Nat} {v : Value} {d : DataW H} {p : List MemPlace} (hv : Value.okWide Tryd.prog W r b0 22 v) (h : DataW.Trod enc Tryd.prog W base sp hd 22 v d p)
    (hw : ∀ n ∈ d.weights Tryd.prog 22, n ≤ reachBytes) :
    ∃ (ts : List TM) (A : Option Addr) (cap : Nat), v = .slice A ts.length cap ∧ IsTerms W 0 W.heap.size ts A cap ∧ ts.length * 40 ≤ 140737488351232 ∧ ts.all sizedT = true := by
  obtain ⟨a, len, cap, rfl⟩ := okWide_slice Tryd.underlying22 hv
  obtain ⟨fuel, hf⟩ := h
  obtain ⟨ts, A, cap', hcs, hn, h1, h2⟩ := open_list fuel (fun m _ => open_sized m) _ _ hf hw
  exact ⟨ts, A, cap', hcs, hn.imp (fun _ _ _ => rfl) (fun b hb => ⟨Nat.zero_le _, hb⟩), h1, h2⟩

end Go.Proofs.YtofmoggjpgjdgaaDoor
