/- Names: scholiumref12.Names, sign.named; Find, both. -/
import Derived.Test.YtcbbaognomddkaaGreatDoorS5
import Derived.Test.YtcbbaognomddkaaGreatDoorA3
import Derived.Test.YtcbbaognomddkaaGreatDoorR1
import Derived.LoopTactic
import Derived.Test.YtcbbaognomddkaaGreatDoorSgFld
namespace Go.Proofs.YtcbbaognomddkaaGreatDoor
open Go.RowKit Go.Maps Go.WideMaps
set_option linter.unusedVariables false
set_option maxRecDepth 100000

theorem infoS : (Tryz.prog.info? 9).map (fun i => (i.zero, i.size, i.bytes)) = some (some (.string ⟨#[]⟩), 1, 16) := by kernel_rfl
theorem names_len (l : List ET) : (namesE l).length = l.length := List.length_map _
theorem names_at {l : List ET} {i : Nat} (h : i < l.length) : (namesE l).getD i ByteArray.empty = l[i].s := by
  rw [List.getD, List.getElem?_eq_getElem (by rw [names_len]; exact h), Option.getD_some]
  exact List.getElem_map _
theorem names_take {l : List ET} {i : Nat} (h : i < l.length) : (namesE l).take (i + 1) = (namesE l).take i ++ [l[i].s] := by
  rw [List.take_succ_eq_append_getElem (by rw [names_len]; exact h)]
  congr 1
  exact congrArg (· :: []) (List.getElem_map _)
def strs (ss : List ByteArray) : List Value := ss.map .string
theorem names_small {w : World} {lo hi : Nat} {A : Option Addr} {l : List ET} (hn : EntsAt w lo hi A l) : ∀ s ∈ namesE l, s.size ≤ maxLen := by
  intro s hs
  obtain ⟨x, hx, rfl⟩ := List.mem_map.1 hs
  obtain ⟨i, hi', rfl⟩ := List.getElem_of_mem hx
  obtain ⟨b, o, p, _, _, _, _, h⟩ := hn i hi'
  exact h.hs
/-- A call that gives the names. -/
def NamesIs (l : List ET) (w : World) (e : Ending) (w' : World) : Prop := ∃ a c, e = .returned (.slice a l.length c) ∧ StrRow w' a l.length (namesE l) ∧ Below w.heap.size w w'

set_option maxHeartbeats 2000000 in
theorem rnames_any (l : List ET) (A : Option Addr) (cap lo hi : Nat) (w : World) (hl : l.length ≤ 600) (hn : EntsAt w lo hi A l) (hhi : hi ≤ w.heap.size) :
    Calls Tryz.prog 22 #[.slice A l.length cap] w (NamesIs l w) := by
  obtain ⟨i0, hi0, hz0, hz1, hz2⟩ := info_parts infoS
  have HN := Lib.hid hn
  have HSM := Lib.hid (names_small hn)
  have hll : (l.length : Int) ≤ 600 := by omega
  have hE := World.ownsRow_lit (base := w.heap.size) (e := 9) (size := 1) w #[] 0 (by simp) (by decide) rfl
  have HE := Lib.hid hE
  clear hn hl hE
  go_enter Tryz.func22, Tryz.ntmps22
  go_wp2_with fail
  go_loopw [3, 4] (fun nv iv wr => ∃ i : Nat, i ≤ l.length ∧ iv = .int .i64 i ∧ Below w.heap.size w wr ∧ Hid (wr.ownsRow w.heap.size 9 1 nv i (strs ((namesE l).take i)))) (fun _ iv _ => l.length - (intOf iv).toNat)
  case atStart => exact ⟨0, Nat.zero_le _, rfl, (Below.refl _ _).alloc (Nat.le_refl _) _, by have := HE.out; exact Lib.hid (by simpa [strs] using this)⟩
  case round =>
    obtain ⟨i, hi1, rfl, hB, HO⟩ := hrel
    have hz := hB.size
    obtain ⟨a1, c1, rfl⟩ := own_sliceM HO.out
    by_cases hil : i < l.length
    · obtain ⟨b, o, p, rfl, _, hb2, hx, hent⟩ := HN.out i hil
      have hbw : b < wr.heap.size := by omega
      have x1 := (hx.kept (B := w.heap.size) hB (by omega)).c1
      have HNT := Lib.hid (names_take hil)
      obtain ⟨s, hs⟩ : ∃ s, l[i].s = s := ⟨_, rfl⟩
      rw [hs] at x1 HNT
      have hi0' : (i : Int) < (l.length : Int) := by omega
      have HBB := Lib.hid hB
      have HOA := Lib.hid (HO.out.alloc (.cells #[.string s] 9))
      have hlt0 := HOA.out.lt
      have HI9 := Lib.hid (show i ≤ 600 by omega)
      clear hs hx hent hb2
      go_wp2_with (at_builtin; refine wpList_app rfl _ _ 56 rfl w.heap.size 9 i0 (.string ⟨#[]⟩) 1 16 Tryz.underlying56 hi0 hz0 hz1 hz2 rfl (by decide) _ _ _ rfl HOA.out (some ⟨wr.heap.size, 0, none⟩) 1 1 [.string s] rfl (src_at _ _ _ (by simp) rfl) (fun u hu => by rw [List.mem_singleton.1 hu]; rfl) ?c3 ?c4 (by simp; omega) ?_)
      case c3 => have := HI9.out; unfold maxLen; omega
      case c4 => have := HI9.out; omega
      rintro v2' w3 ⟨hown3, hg3, ho3⟩
      have HB4 := Lib.hid ((HBB.out.alloc HBB.out.size (.cells #[.string s] 9)).grown hg3 (by have := HBB.out.size; simp; omega) (fun g e => by have := hlt0 g e; omega))
      have HO4 := Lib.hid (show w3.ownsRow w.heap.size 9 1 v2' (i + 1) (strs ((namesE l).take (i + 1))) from by
        rw [HNT.out]
        have := hown3
        simpa [strs] using this)
      clear hown3 hg3 ho3 hlt0
      go_wp2_with fail
      go_roundw
      case rel => exact ⟨i + 1, by omega, by go_num, HB4.out, HO4⟩
      case measure => simp [intOf]; omega
    · obtain rfl : i = l.length := by omega
      have HFL := Lib.hid (show wr.ownsRow w.heap.size 9 1 (.slice a1 l.length c1) l.length (strs (namesE l)) from by
        have := HO.out
        rwa [List.take_of_length_le (by rw [names_len]; exact Nat.le_refl _)] at this)
      go_wp2_with fail
      go_ret
      refine ⟨a1, c1, rfl, ⟨names_len l, by omega, HSM.out, ?_⟩, hB⟩
      by_cases h0 : l.length = 0
      · exact .inl h0
      · obtain ⟨g, c', hv, _, _⟩ := HFL.out.form (by omega)
        injection hv with hv _ _
        subst hv
        refine .inr ⟨g, 0, rfl, (HFL.out.lt g rfl).2, fun j hj => ?_⟩
        have hj' : j < (namesE l).length := by rw [names_len]; exact hj
        rw [Nat.zero_add, List.getD, List.getElem?_eq_getElem hj', Option.getD_some]
        have h1 := HFL.out.cellAt j (by rw [Nat.mul_one]; exact hj)
        rw [h1]
        show (strs (namesE l))[j]? = _
        unfold strs
        rw [List.getElem?_map, List.getElem?_eq_getElem hj']; rfl

set_option maxHeartbeats 2000000 in
theorem snamed_any (l : List ET) (A : Option Addr) (cap lo hi : Nat) (w : World) (hl : l.length ≤ 600) (hn : EntsAt w lo hi A l) (hhi : hi ≤ w.heap.size) :
    Calls Tryz.prog 15 #[.slice A l.length cap] w fun e w' => e = .returned (.map (some w.heap.size)) ∧ IsSet w' w.heap.size l.length (namesE l) ∧ Below w.heap.size w w' := by
  have hmm := run_makeMap_hint
  have hll : (l.length : Int) ≤ 600 := by omega
  unfold IsSet
  rw [names_len]
  have HN := Lib.hid hn
  clear hn hl
  go_enter Tryz.func15, Tryz.ntmps15
  go_wp2_with fail
  go_loopw [10] (fun i wr => ∃ k : Nat, k ≤ l.length ∧ i = .int .i64 k ∧ wr.ownsMap Tryz.prog 9 (unitElem (H := Unit)) w.heap.size k (Sn (namesE l) k) ∧ Below w.heap.size w wr)
    (fun i _ => l.length - (intOf i).toNat)
  case atStart => exact ⟨0, Nat.zero_le _, rfl, by rw [Sn_zero]; exact World.ownsMap_made _ _ _ _, (Below.refl _ _).alloc (Nat.le_refl _) _⟩
  case round =>
    obtain ⟨k, hk, rfl, hown, hB⟩ := hrel
    by_cases hlk : k < l.length
    · obtain ⟨b, o, p, rfl, _, hb2, hx, hent⟩ := HN.out k hlk
      have hz := hB.size
      have hbw : b < wr.heap.size := by omega
      have x1 := (hx.kept (B := w.heap.size) hB (by omega)).c1
      have hsz := hent.hs
      have HN2 := Lib.hid (Sn_succ (namesE l) k (by rw [names_len]; exact hlk))
      unfold keyAt at HN2
      rw [names_at hlk] at HN2
      obtain ⟨x, hxx⟩ : ∃ x, l[k].s = x := ⟨_, rfl⟩
      rw [hxx] at x1 hsz HN2
      have hi0' : (k : Int) < (l.length : Int) := by omega
      clear hxx hx hent
      have hkey := key_ok hsz
      go_wp2_with (first
        | (at_mapUpdate; refine wpList_mapUpdate_own _ rfl _ _ _ 46 rfl 9 48 law9 Tryz.underlying46 (unitElem (H := Unit)) w.heap.size k _ rfl hown (by unfold maxLen; omega) _ _ _ rfl rfl hkey _ [] unitElem_mk ?_; intro w1 hown1 hgrow1)
        | go_in)
      go_roundw
      case rel => exact ⟨k + 1, by omega, by go_num, HN2.out.symm ▸ hown1, hB.grown hgrow1 hB.size (fun j hj => by cases hj; exact Nat.le_refl _)⟩
      case measure => simp [intOf]; omega
    · obtain rfl : k = l.length := by omega
      go_wp2_with fail
      go_ret
      exact ⟨rfl, hown, hB⟩

/-- Where a name stands first: -1, if nowhere. -/
def FindIs (l : List ET) (s : ByteArray) (r : Int) : Prop := (r = -1 ∧ ∀ i (h : i < l.length), l[i].s ≠ s) ∨ ∃ n : Nat, r = (n : Int) ∧ ∃ h : n < l.length, l[n].s = s ∧ ∀ i (hi : i < n), l[i].s ≠ s
def findE (r : Int) : Value := if r = -1 then .tuple #[.int .i64 0, .int .i64 16] else .tuple #[.int .i64 r, .int .i64 0]
set_option maxHeartbeats 2000000 in
theorem rfind_any (l : List ET) (A : Option Addr) (cap lo hi : Nat) (s : ByteArray) (w : World) (hl : l.length ≤ 600) (hn : EntsAt w lo hi A l) (hhi : hi ≤ w.heap.size) :
    Calls Tryz.prog 18 #[.slice A l.length cap, .string s] w fun e w' => (∃ r, e = .returned (.int .i64 r) ∧ FindIs l s r) ∧ w = w' := by
  have HN := Lib.hid hn
  have hll : (l.length : Int) ≤ 600 := by omega
  clear hn hl
  go_enter Tryz.func18, Tryz.ntmps18
  go_wp2_with fail
  go_loopw [5] (fun iv wr => ∃ i : Nat, i ≤ l.length ∧ iv = .int .i64 i ∧ w = wr ∧ Hid (∀ j (h : j < l.length), j < i → l[j].s ≠ s)) (fun iv _ => l.length - (intOf iv).toNat)
  case atStart => exact ⟨0, Nat.zero_le _, rfl, rfl, Lib.hid (fun j h hj => by omega)⟩
  case round =>
    obtain ⟨i, hi1, rfl, rfl, HQ⟩ := hrel
    by_cases hil : i < l.length
    · obtain ⟨b, o, p, rfl, _, hb2, hx, _⟩ := HN.out i hil
      have x1 := hx.c1
      have hbw : b < w.heap.size := by omega
      have HY := Lib.hid (fun (h : l[i].s = s) => (show FindIs l s (i : Int) from .inr ⟨i, rfl, hil, h, fun j hj => HQ.out j (by omega) hj⟩))
      have HNX := Lib.hid (fun (h : l[i].s ≠ s) j (hj : j < l.length) (h2 : j < i + 1) => (show l[j].s ≠ s from by
        rcases Nat.lt_or_eq_of_le (Nat.le_of_lt_succ h2) with h3 | h3
        · exact HQ.out j hj h3
        · subst h3; exact h))
      obtain ⟨y, hy⟩ : ∃ y, l[i].s = y := ⟨_, rfl⟩
      rw [hy] at x1 HY HNX
      have hi0' : (i : Int) < (l.length : Int) := by omega
      clear hy hx
      by_cases hys : y = s
      · have t0 := eq_list hys
        have HYY := Lib.hid (HY.out hys)
        clear hys HY HNX
        go_wp2_with fail
        go_ret
        exact ⟨⟨_, rfl, HYY.out⟩, rfl⟩
      · have t0 := ne_list hys
        have HYY := Lib.hid (HNX.out hys)
        clear hys HY HNX
        go_wp2_with fail
        go_roundw
        case rel => exact ⟨i + 1, by omega, by go_num, by first | rfl | trivial, Lib.hid HYY.out⟩
        case measure => simp [intOf]; omega
    · obtain rfl : i = l.length := by omega
      go_wp2_with fail
      go_ret
      exact ⟨⟨-1, rfl, .inl ⟨rfl, fun j h => HQ.out j h h⟩⟩, rfl⟩
set_option maxHeartbeats 2000000 in
theorem sfind_any (l : List ET) (A : Option Addr) (cap lo hi : Nat) (s : ByteArray) (w : World) (hl : l.length ≤ 600) (hn : EntsAt w lo hi A l) (hhi : hi ≤ w.heap.size) :
    Calls Tryz.prog 12 #[.slice A l.length cap, .string s] w fun e w' => (∃ r, e = .returned (findE r) ∧ FindIs l s r) ∧ w = w' := by
  have HN := Lib.hid hn
  have hll : (l.length : Int) ≤ 600 := by omega
  clear hn hl
  go_enter Tryz.func12, Tryz.ntmps12
  go_wp2_with fail
  go_loopw [9] (fun iv wr => ∃ i : Nat, i ≤ l.length ∧ iv = .int .i64 i ∧ w = wr ∧ Hid (∀ j (h : j < l.length), j < i → l[j].s ≠ s)) (fun iv _ => l.length - (intOf iv).toNat)
  case atStart => exact ⟨0, Nat.zero_le _, rfl, rfl, Lib.hid (fun j h hj => by omega)⟩
  case round =>
    obtain ⟨i, hi1, rfl, rfl, HQ⟩ := hrel
    by_cases hil : i < l.length
    · obtain ⟨b, o, p, rfl, _, hb2, hx, _⟩ := HN.out i hil
      have x1 := hx.c1
      have hbw : b < w.heap.size := by omega
      have HY := Lib.hid (fun (h : l[i].s = s) => (show FindIs l s (i : Int) from .inr ⟨i, rfl, hil, h, fun j hj => HQ.out j (by omega) hj⟩))
      have HNX := Lib.hid (fun (h : l[i].s ≠ s) j (hj : j < l.length) (h2 : j < i + 1) => (show l[j].s ≠ s from by
        rcases Nat.lt_or_eq_of_le (Nat.le_of_lt_succ h2) with h3 | h3
        · exact HQ.out j hj h3
        · subst h3; exact h))
      obtain ⟨y, hy⟩ : ∃ y, l[i].s = y := ⟨_, rfl⟩
      rw [hy] at x1 HY HNX
      have hi0' : (i : Int) < (l.length : Int) := by omega
      have HFE := Lib.hid (show findE (i : Int) = .tuple #[.int .i64 i, .int .i64 0] from by unfold findE; rw [if_neg (by omega)])
      clear hy hx
      by_cases hys : y = s
      · have t0 := eq_list hys
        have HYY := Lib.hid (HY.out hys)
        clear hys HY HNX
        go_wp2_with fail
        refine bodyPost_ret (v := .tuple #[.int .i64 i, .int .i64 0]) (by simp [results, Tryz.results12, go_sem]) rfl ?_
        exact ⟨⟨_, by rw [HFE.out], HYY.out⟩, rfl⟩
      · have t0 := ne_list hys
        have HYY := Lib.hid (HNX.out hys)
        clear hys HY HNX
        go_wp2_with fail
        go_roundw
        case rel => exact ⟨i + 1, by omega, by go_num, by first | rfl | trivial, Lib.hid HYY.out⟩
        case measure => simp [intOf]; omega
    · obtain rfl : i = l.length := by omega
      go_wp2_with fail
      refine bodyPost_ret (v := .tuple #[.int .i64 0, .int .i64 16]) (by simp [results, Tryz.results12, go_sem]) rfl ?_
      exact ⟨⟨-1, rfl, .inl ⟨rfl, fun j h => HQ.out j h h⟩⟩, rfl⟩

end Go.Proofs.YtcbbaognomddkaaGreatDoor

/- sign.formed, sign.Formed. -/
namespace Go.Proofs.YtcbbaognomddkaaGreatDoor
open Go.RowKit Go.Maps Go.WideMaps
set_option linter.unusedVariables false
set_option maxRecDepth 100000

/-- Is an entry what it must be, as the program asks? -/
noncomputable def entP (l : List ET) (i : Nat) (x : ET) : Bool := nmB x.s && (closedE x.t i && (idleB x &&
  (if x.k = 1 then famB l i x else if x.k = 2 then conB l i x else if x.k = 4 then fldB l i x else if x.k = 3 then closedE x.b i else false)))
noncomputable def entQ (l : List ET) (i : Nat) : Bool := match l[i]? with | some x => entP l i x | none => false
noncomputable def formedB (l : List ET) : Bool := decide (l.length ≤ 256) && (distB (namesE l) && allB (entQ l) l.length)
theorem entQ_at {l : List ET} {i : Nat} (h : i < l.length) : entQ l i = entP l i l[i] := by unfold entQ; rw [List.getElem?_eq_getElem h]
theorem famB_facts {l : List ET} {i : Nat} {x : ET} (h : famB l i x = true) : 0 ≤ x.a ∧ 0 ≤ x.i ∧ x.a + x.i ≤ 24 := by
  unfold famB at h
  simp only [Bool.and_eq_true, decide_eq_true_eq] at h
  exact ⟨h.1, h.2.1, h.2.2.1⟩
theorem famOk_of {l : List ET} {n : Nat} (h : allB (entQ l) n = true) : FamOk l n := by
  intro j hj hjn hk
  have h1 := allB_true.1 h j hjn
  rw [entQ_at hj] at h1
  unfold entP at h1
  rw [if_pos hk] at h1
  simp only [Bool.and_eq_true] at h1
  exact famB_facts h1.2.2.2

set_option maxHeartbeats 8000000 in
theorem sformed_any (l : List ET) (A : Option Addr) (cap i : Nat) (hi : i < l.length) (lo hh : Nat) (w : World) (hl : l.length ≤ 600) (hlc : l.length ≤ cap) (hn : EntsAt w lo hh A l) (hhh : hh ≤ w.heap.size) (hS : ShapesM w) (hfo : FamOk l i) :
    Calls Tryz.prog 24 #[.slice A l.length cap, .int .i64 i] w fun e w' => e = .returned (.bool (entP l i l[i])) ∧ Below w.heap.size w w' := by
  obtain ⟨b, o, p, hA, hb1, hb2, hx, hent⟩ := hn i hi
  have CF := Lib.hid (fun (V : World) (hV : Below w.heap.size w V) => fam_any l A cap i hi lo hh V hl (hn.kept hV hhh) (by have := hV.size; omega) (hS.kept hV))
  have CC := Lib.hid (fun (hs : shapedB l[i].t = true) (V : World) (hV : Below w.heap.size w V) => con_any l A cap i hi lo hh V hl hlc (hn.kept hV hhh) (by have := hV.size; omega) (hS.kept hV) hfo hs)
  have CD := Lib.hid (fun (hs : shapedB l[i].t = true) (V : World) (hV : Below w.heap.size w V) => fld_any l A cap i hi lo hh V hl hlc (hn.kept hV hhh) (by have := hV.size; omega) (hS.kept hV) hfo hs)
  obtain ⟨z, hz⟩ : ∃ z, entP l i l[i] = z := ⟨_, rfl⟩
  rw [hz]
  unfold entP at hz
  obtain ⟨rf, hrf⟩ : ∃ r, famB l i l[i] = r := ⟨_, rfl⟩
  obtain ⟨rc, hrc⟩ : ∃ r, conB l i l[i] = r := ⟨_, rfl⟩
  obtain ⟨rd, hrd⟩ : ∃ r, fldB l i l[i] = r := ⟨_, rfl⟩
  rw [hrf, hrc, hrd] at hz
  rw [hrf] at CF
  rw [hrc] at CC
  rw [hrd] at CD
  clear hrf hrc hrd
  obtain ⟨x, hxx⟩ : ∃ x, l[i] = x := ⟨_, rfl⟩
  rw [hxx] at hx hent hz CC CD
  obtain ⟨x0, x1, x2, x3, x4, x5, x6, x7, x8, x9, x10, x11, x12, x13, x14⟩ := hx
  subst hA
  have hbw : b < w.heap.size := by omega
  have hi0' : (i : Int) < (l.length : Int) := by omega
  have hi1 : (i : Int) < 600 := by omega
  have HZ := Lib.hid hz
  have HB1 := Lib.hid (show Below w.heap.size w (w.alloc (.cells (entC x p) 34)) from (Below.refl _ _).alloc (Nat.le_refl _) _)
  have KB := Lib.hid (fun (V : World) (hV : Below (w.alloc (.cells (entC x p) 34)).heap.size (w.alloc (.cells (entC x p) 34)) V) => (show BoxE V w.heap.size x p from ((Bk.new w 34 (entC x p)).below hV (by simp)).boxE))
  have hs9 := hent.hs
  have CN := Lib.hid (fun (V : World) => nameRight_any x.s V (by unfold maxLen at hs9; omega))
  have CL := Lib.hid (fun (V : World) (hV : Below w.heap.size w V) => closed_any x.t (i : Int) lo hh p.T p.tc V (hent.ht.kept hV hhh) (by have := hV.size; omega) (hS.kept hV))
  have CB := Lib.hid (fun (V : World) (hV : Below w.heap.size w V) => closed_any x.b (i : Int) lo hh p.B p.bc V (hent.hb.kept hV hhh) (by have := hV.size; omega) (hS.kept hV))
  have CI := Lib.hid (fun (V : World) => idle_any x p V)
  have HCS := Lib.hid (fun (q : closedE x.t (i : Int) = true) => closed_shaped q)
  obtain ⟨bn, hbn⟩ : ∃ r, nmB x.s = r := ⟨_, rfl⟩
  obtain ⟨bl, hbl⟩ : ∃ r, closedE x.t (i : Int) = r := ⟨_, rfl⟩
  obtain ⟨bb, hbb⟩ : ∃ r, closedE x.b (i : Int) = r := ⟨_, rfl⟩
  obtain ⟨bi, hbi⟩ : ∃ r, idleB x = r := ⟨_, rfl⟩
  rw [hbn] at CN
  rw [hbl] at CL HCS
  rw [hbb] at CB
  rw [hbi] at CI
  have HZ1 : Hid ((bn && (bl && (bi && (if x.k = 1 then rf else if x.k = 2 then rc else if x.k = 4 then rd else if x.k = 3 then bb else false)))) = z) := Lib.hid (by
    have := HZ.out
    rw [hbn, hbl, hbb, hbi] at this
    exact this)
  unfold entC at HB1 KB
  unfold entV at CI
  unfold termV at CL CB
  clear hz hxx hent hn hS hl hb1 hb2 hs9 hbn hbl hbb hbi hfo hlc HZ
  go_enter Tryz.func24, Tryz.ntmps24
  go_wp2_with fail
  refine (CN.out _).mono ?_
  rintro e w1 ⟨rfl, hb1⟩
  have HB2 := Lib.hid (HB1.out.trans (hb1.mono (by simp)))
  have HK2 := Lib.hid hb1
  have hs1 : w.heap.size < w1.heap.size := by have := hb1.size; simp at this; omega
  obtain ⟨z0, z1, z2, z3, z4, z5, z6, z7, z8, z9, z10, z11, z12, z13, z14⟩ := KB.out _ hb1
  clear hb1 x0 x1 x2 x3 x4 x5 x6 x7 x8 x9 x10 x11 x12 x13 x14
  cases bn with
  | false =>
    obtain rfl : z = false := by rw [← HZ1.out]; rfl
    go_wp2_with fail
    go_ret
    exact ⟨rfl, HB2.out⟩
  | true =>
  go_wp2_with fail
  refine (CL.out _ HB2.out).mono ?_
  rintro e w2 ⟨rfl, hb2⟩
  have HB3 := Lib.hid (HB2.out.trans (hb2.mono HB2.out.size))
  have HK3 := Lib.hid (HK2.out.trans (hb2.mono HK2.out.size))
  have hs2 : w.heap.size < w2.heap.size := by have := hb2.size; omega
  clear hb2 z0 z1 z2 z3 z4 z5 z6 z7 z8 z9 z10 z11 z12 z13 z14 hs1
  obtain ⟨z0, z1, z2, z3, z4, z5, z6, z7, z8, z9, z10, z11, z12, z13, z14⟩ := KB.out _ HK3.out
  cases bl with
  | false =>
    obtain rfl : z = false := by rw [← HZ1.out]; rfl
    go_wp2_with fail
    go_ret
    exact ⟨rfl, HB3.out⟩
  | true =>
  have hsh := HCS.out rfl
  have CC2 := Lib.hid (CC.out hsh)
  have CD2 := Lib.hid (CD.out hsh)
  clear hsh HCS CC CD
  go_wp2_with fail
  refine (CI.out _).mono ?_
  rintro e w3 ⟨rfl, hb3⟩
  have HB4 := Lib.hid (HB3.out.trans (hb3.mono HB3.out.size))
  have HK4 := Lib.hid (HK3.out.trans (hb3.mono HK3.out.size))
  have hs3 : w.heap.size < w3.heap.size := by have := hb3.size; omega
  clear hb3 z0 z1 z2 z3 z4 z5 z6 z7 z8 z9 z10 z11 z12 z13 z14 hs2
  obtain ⟨z0, z1, z2, z3, z4, z5, z6, z7, z8, z9, z10, z11, z12, z13, z14⟩ := KB.out _ HK4.out
  cases bi with
  | false =>
    obtain rfl : z = false := by rw [← HZ1.out]; rfl
    go_wp2_with fail
    go_ret
    exact ⟨rfl, HB4.out⟩
  | true =>
  have HZ2 : Hid ((if x.k = 1 then rf else if x.k = 2 then rc else if x.k = 4 then rd else if x.k = 3 then bb else false) = z) := HZ1
  by_cases k1 : x.k = 1
  · have t1 : (x.k == 1) = true := by simpa using k1
    obtain rfl : rf = z := by rw [← HZ2.out, if_pos k1]
    clear k1 CL CB CN CI CC2 CD2
    go_wp2_with fail
    refine (CF.out _ HB4.out).mono ?_
    rintro e w4 ⟨rfl, hb4⟩
    go_wp2_with fail
    go_ret
    exact ⟨rfl, HB4.out.trans (hb4.mono HB4.out.size)⟩
  have t1 : (x.k == 1) = false := by simpa using k1
  by_cases k2 : x.k = 2
  · have t2 : (x.k == 2) = true := by simpa using k2
    obtain rfl : rc = z := by rw [← HZ2.out, if_neg k1, if_pos k2]
    clear k1 k2 CL CB CN CI CF CD2
    go_wp2_with fail
    refine (CC2.out _ HB4.out).mono ?_
    rintro e w4 ⟨rfl, hb4⟩
    go_wp2_with fail
    go_ret
    exact ⟨rfl, HB4.out.trans (hb4.mono HB4.out.size)⟩
  have t2 : (x.k == 2) = false := by simpa using k2
  by_cases k4 : x.k = 4
  · have t4 : (x.k == 4) = true := by simpa using k4
    obtain rfl : rd = z := by rw [← HZ2.out, if_neg k1, if_neg k2, if_pos k4]
    clear k1 k2 k4 CL CB CN CI CF CC2
    go_wp2_with fail
    refine (CD2.out _ HB4.out).mono ?_
    rintro e w4 ⟨rfl, hb4⟩
    go_wp2_with fail
    go_ret
    exact ⟨rfl, HB4.out.trans (hb4.mono HB4.out.size)⟩
  have t4 : (x.k == 4) = false := by simpa using k4
  by_cases k3 : x.k = 3
  · have t3 : (x.k == 3) = true := by simpa using k3
    obtain rfl : bb = z := by rw [← HZ2.out, if_neg k1, if_neg k2, if_neg k4, if_pos k3]
    clear k1 k2 k4 k3 CL CN CI CF CC2 CD2
    go_wp2_with fail
    refine (CB.out _ HB4.out).mono ?_
    rintro e w4 ⟨rfl, hb4⟩
    go_wp2_with fail
    go_ret
    exact ⟨rfl, HB4.out.trans (hb4.mono HB4.out.size)⟩
  have t3 : (x.k == 3) = false := by simpa using k3
  obtain rfl : z = false := by rw [← HZ2.out, if_neg k1, if_neg k2, if_neg k4, if_neg k3]
  clear k1 k2 k4 k3 CL CN CI CF CC2 CD2 CB
  go_wp2_with fail
  go_ret
  exact ⟨rfl, HB4.out⟩

/-- 'len(m)' of an owned map, behind a guard that says yes. -/
theorem wpList_len_want {H : Type} {P : Program} {ops : Array Oper} {Q : Exit → Act → World → Prop} {a : Act} {w : World} {rest : List Oper} {o : Oper} (hw : Region.wanted o (yielded ops a.tmps) = true) (m : Operand) (t : TypeId) (hop : o.op = Op.call { callee := Callee.builtin Builtin.len, args := #[m], argTypes := #[t] })
    (k e : TypeId) (ht : P.underlying t = some (.map k e)) (R : Value → Option (DataW H × List MemPlace)) (b n : Nat) (D : DataW H) (hm : a.eval m = .map (some b)) (hown : w.ownsMap P k R b n D)
    (hK : wpList P ops Q rest (a.put o.dst (.int .i64 (Maps.size D))) w) :
    wpList P ops Q (o :: rest) a w := by
  refine BigFrame.wpList_want hw fun K' hK' => ?_
  unfold Oper.wp
  simp [execOp, hop, resolve, invoke, builtin, hm, hown.len ht o.type, Result.andThen]
  exact hK' _ _ hK

set_option maxHeartbeats 4000000 in
theorem SFormed_any (l : List ET) (A : Option Addr) (cap lo hh : Nat) (w : World) (hl : l.length ≤ 600) (hlc : l.length ≤ cap) (hn : EntsAt w lo hh A l) (hhh : hh ≤ w.heap.size) (hS : ShapesM w) :
    Calls Tryz.prog 11 #[.slice A l.length cap] w fun e w' => e = .returned (.bool (formedB l)) ∧ Below w.heap.size w w' := by
  have HN := Lib.hid hn
  have HSS := Lib.hid hS
  have CNM := Lib.hid (snamed_any l A cap lo hh w hl hn hhh)
  have hd := (size_Sn (namesE l) (namesE l).length (Nat.le_refl _)).trans (dist_iff (namesE l)).symm
  rw [names_len] at hd
  have CFO := Lib.hid (fun (i : Nat) (hi : i < l.length) (hfo : FamOk l i) (V : World) (hV : Below w.heap.size w V) => sformed_any l A cap i hi lo hh V hl hlc (hn.kept hV hhh) (by have := hV.size; omega) (hS.kept hV) hfo)
  obtain ⟨z, hz⟩ : ∃ z, formedB l = z := ⟨_, rfl⟩
  rw [hz]
  unfold formedB at hz
  have HZ := Lib.hid hz
  have hll : (l.length : Int) ≤ 600 := by omega
  clear hz hn hS hl hlc
  by_cases h256 : l.length ≤ 256
  case neg =>
    have t0 : decide ((256 : Int) < (l.length : Int)) = true := decide_eq_true (by omega)
    have t0' : decide ((l.length : Int) > 256) = true := decide_eq_true (by omega)
    have t0'' : decide (256 < l.length) = true := decide_eq_true (by omega)
    obtain rfl : z = false := by rw [← HZ.out, decide_eq_false h256]; rfl
    clear h256 hd
    go_enter Tryz.func11, Tryz.ntmps11
    go_wp2_with fail
    go_ret
    exact ⟨rfl, Below.refl _ _⟩
  have t0 : decide ((256 : Int) < (l.length : Int)) = false := decide_eq_false (by omega)
  have t0' : decide ((l.length : Int) > 256) = false := decide_eq_false (by omega)
  have t0'' : decide (256 < l.length) = false := decide_eq_false (by omega)
  have HZ1 : Hid ((distB (namesE l) && allB (entQ l) l.length) = z) := Lib.hid (by have := HZ.out; rw [decide_eq_true h256, Bool.true_and] at this; exact this)
  unfold IsSet at CNM
  rw [names_len] at CNM
  obtain ⟨D, hD⟩ : ∃ D, Sn (namesE l) l.length = D := ⟨_, rfl⟩
  rw [hD] at CNM hd
  clear h256 hD HZ
  obtain ⟨rd, hrd⟩ : ∃ r, distB (namesE l) = r := ⟨_, rfl⟩
  rw [hrd] at HZ1
  cases rd with
  | false =>
    obtain ⟨m, hm⟩ : ∃ m, Maps.size D = m := ⟨_, rfl⟩
    have ne : ((m : Int) != (l.length : Int)) = true := by
      rw [bne_iff_ne]
      intro e
      have : m = l.length := by omega
      rw [hd.1 (hm.trans this)] at hrd; cases hrd
    obtain rfl : z = false := by rw [← HZ1.out]; rfl
    have HE := Lib.hid hm
    clear hd hrd hm
    go_enter Tryz.func11, Tryz.ntmps11
    go_wp2_with fail
    refine CNM.out.mono ?_
    rintro e w1 ⟨rfl, hset, hb⟩
    go_wp2_with (at_len; (refine wpList_len_want rfl _ 46 rfl 9 48 Tryz.underlying46 _ w.heap.size l.length _ rfl hset ?_; rw [HE.out]))
    go_ret
    exact ⟨rfl, hb⟩
  | true =>
  have HE := Lib.hid (hd.2 hrd)
  have ne : ((l.length : Int) != (l.length : Int)) = false := by simp
  have HZ2 : Hid (allB (entQ l) l.length = z) := HZ1
  clear hd hrd
  go_enter Tryz.func11, Tryz.ntmps11
  go_wp2_with fail
  refine CNM.out.mono ?_
  rintro e w1 ⟨rfl, hset, hb⟩
  go_wp2_with (at_len; (refine wpList_len_want rfl _ 46 rfl 9 48 Tryz.underlying46 _ w.heap.size l.length _ rfl hset ?_; rw [HE.out]))
  have HB1 := Lib.hid hb
  clear hset hb
  try go_wp2_with fail
  go_loopw [17] (fun iv wr => ∃ i : Nat, i ≤ l.length ∧ iv = .int .i64 i ∧ Below w.heap.size w wr ∧ Hid (allB (entQ l) i = true)) (fun iv _ => l.length - (intOf iv).toNat)
  case atStart => exact ⟨0, Nat.zero_le _, rfl, HB1.out, Lib.hid rfl⟩
  case round =>
    obtain ⟨i, hi1, rfl, hB, HQ⟩ := hrel
    by_cases hil : i < l.length
    · have CF := Lib.hid (CFO.out i hil (famOk_of HQ.out) wr hB)
      have hno : Hid (entP l i l[i] = false → z = false) := Lib.hid (fun h => by rw [← HZ2.out]; exact allB_noM hil (by rw [entQ_at hil]; exact h))
      have hyes : Hid (entP l i l[i] = true → allB (entQ l) (i + 1) = true) := Lib.hid (fun h => by rw [allB, HQ.out, entQ_at hil, h]; rfl)
      obtain ⟨r, hr⟩ : ∃ r, entP l i l[i] = r := ⟨_, rfl⟩
      rw [hr] at CF hno hyes
      have hi0' : (i : Int) < (l.length : Int) := by omega
      have HBB := Lib.hid hB
      clear hr
      go_wp2_with fail
      refine CF.out.mono ?_
      rintro e w2 ⟨rfl, hb2⟩
      have HB2 := Lib.hid (HBB.out.trans (hb2.mono HBB.out.size))
      clear hb2
      cases r with
      | false =>
        obtain rfl : z = false := hno.out rfl
        clear hno hyes
        go_wp2_with fail
        go_ret
        exact ⟨rfl, HB2.out⟩
      | true =>
        have HY := Lib.hid (hyes.out rfl)
        clear hno hyes
        go_wp2_with fail
        go_roundw
        case rel => exact ⟨i + 1, by omega, by go_num, HB2.out, Lib.hid HY.out⟩
        case measure => simp [intOf]; omega
    · obtain rfl : i = l.length := by omega
      obtain rfl : z = true := by rw [← HZ2.out]; exact HQ.out
      go_wp2_with fail
      go_ret
      exact ⟨rfl, hB⟩

end Go.Proofs.YtcbbaognomddkaaGreatDoor
