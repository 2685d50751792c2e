/- scholiumlaw06.decl: the document's declaration, or that it is great. -/
import Derived.Test.YteaojmcfppbgiaaGreatDoorPLawC
import Derived.Test.YteaojmcfppbgiaaGreatDoorPrD
import Derived.Deep.Cut
import Derived.Deep.CutRange
import Derived.BigRegion
namespace Go.Proofs.YteaojmcfppbgiaaGreatDoor
open Go.RowKit
set_option linter.unusedVariables false
set_option maxRecDepth 100000
set_option linter.unusedSimpArgs false

/-- A row pushed onto the copy's. -/
theorem decl_push6 {xk xa : Int} {xs : ByteArray} {u v : RT} {y : CT} {A2 F2 A3 A F4 A7 : Option Addr} {n1 c2 C2 n2 c3 c C4 c7 h : Nat} {ps : List RP} {ps2 : List RT} {P : Nat → Prop} {a a2 : Bool} {W0 wr wx w6 : World} {v2 : Value} {o : Obj}
    (hrow : RowX (kindR a) wr (h + 2) 66 (.slice A ps.length c) ps P) (hP : ∀ b, P b → h + 2 ≤ b) (hbk : Bk wr (h + 1) 30 #[.int .i64 xk, .int .i64 xa, .string xs, .slice A2 n1 c2, .int .i64 u.k, .int .i64 u.a, .string u.s, .int .i64 u.n, .slice F2 u.l.length C2, .slice A3 n2 c3, .slice A ps.length c]) (hB : Below (h + 1) W0 wr) (hsr : h + 2 ≤ wr.heap.size)
    (hx : Below wr.heap.size wr wx) (hin : a2 = true → a = true ∧ ps2.length ≤ c7 ∧ c7 ≤ maxLen ∧ NodesAt wx wr.heap.size wx.heap.size A7 ps2 ∧ IsNode wx wr.heap.size wx.heap.size v F4 C4)
    (ha : AppTo (wx.alloc o) (h + 2) 66 8 (.slice A ps.length c) (ps.length + 1) (flatX (kindR a2) ps ++ (kindR a2).cells ((⟨y.a, ps2, y.h, v⟩, A7, c7, F4, C4) : RP)) v2 w6) :
    Bk w6 (h + 1) 30 #[.int .i64 xk, .int .i64 xa, .string xs, .slice A2 n1 c2, .int .i64 u.k, .int .i64 u.a, .string u.s, .int .i64 u.n, .slice F2 u.l.length C2, .slice A3 n2 c3, .slice A ps.length c] ∧ Hid (∃ A9 c9, v2 = .slice A9 (ps.length + 1) c9) ∧ Hid (∃ P' : Nat → Prop, RowX (kindR a2) (w6.setCell ⟨h + 1, 10, none⟩ v2) (h + 2) 66 v2 (ps ++ [((⟨y.a, ps2, y.h, v⟩, A7, c7, F4, C4) : RP)]) P' ∧ (∀ b, P' b → h + 2 ≤ b)) ∧
    Hid (Below (h + 1) W0 (w6.setCell ⟨h + 1, 10, none⟩ v2)) ∧ Hid (h + 2 ≤ (w6.setCell ⟨h + 1, 10, none⟩ v2).heap.size) ∧ Hid (Bk (w6.setCell ⟨h + 1, 10, none⟩ v2) (h + 1) 30 #[.int .i64 xk, .int .i64 xa, .string xs, .slice A2 n1 c2, .int .i64 u.k, .int .i64 u.a, .string u.s, .int .i64 u.n, .slice F2 u.l.length C2, .slice A3 n2 c3, v2]) := by
  have hsx := hx.size
  have hlt0 := hrow.row.lt
  have hbw : Below wx.heap.size wx (wx.alloc o) := (Below.refl _ _).alloc (Nat.le_refl _) o
  have hW : wx.heap.size + 1 = (wx.alloc o).heap.size := by simp
  obtain ⟨W, hWW⟩ : ∃ W, wx.alloc o = W := ⟨_, rfl⟩
  rw [hWW] at ha hbw hW
  clear hWW
  obtain ⟨hown, hg, ho⟩ := ha
  have hsz := hg.size
  have r1 : RowX (kindR a2) W (h + 2) 66 (.slice A ps.length c) ps P := (((hrow.below hx).below hbw).weak (fun e => (hin e).1))
  have hbkW : Bk W (h + 1) 30 #[.int .i64 xk, .int .i64 xa, .string xs, .slice A2 n1 c2, .int .i64 u.k, .int .i64 u.a, .string u.s, .int .i64 u.n, .slice F2 u.l.length C2, .slice A3 n2 c3, .slice A ps.length c] := (hbk.below hx (by omega)).below hbw (by omega)
  have hnb : ∀ b, (h + 2 ≤ b → b < wr.heap.size → False) → some b ≠ (Value.slice A ps.length c).ownBlock := fun b hh e => hh (hlt0 b e.symm).1 (hlt0 b e.symm).2
  have r2 := r1.push (Pn := fun b => wr.heap.size ≤ b ∧ b < wx.heap.size) (p := ((⟨y.a, ps2, y.h, v⟩, A7, c7, F4, C4) : RP)) (fun e => by
      obtain ⟨-, h2, h3, h4, h5⟩ := hin e
      exact ⟨h2, h3, ((h4.kept hbw (Nat.le_refl _)).pred), h5.kept hbw (Nat.le_refl _)⟩) (fun b hb => ⟨by omega, fun e => by have := (hlt0 b e).2; omega⟩) hown hg ho
  have hbk6 : Bk w6 (h + 1) 30 #[.int .i64 xk, .int .i64 xa, .string xs, .slice A2 n1 c2, .int .i64 u.k, .int .i64 u.a, .string u.s, .int .i64 u.n, .slice F2 u.l.length C2, .slice A3 n2 c3, .slice A ps.length c] := hbkW.grown hg (hnb _ (fun h1 h2 => by omega))
  refine ⟨hbk6, Lib.hid (own_slice hown), Lib.hid ?_, Lib.hid ?_, Lib.hid ?_, Lib.hid ?_⟩
  · refine ⟨_, r2.setCell (a := ⟨h + 1, 10, none⟩) (by show h + 1 < _; omega) (fun b hb => ?_) v2, fun b hb => ?_⟩
    · show b ≠ h + 1
      rcases hb with hb | hb
      · have := hP b hb; omega
      · omega
    · rcases hb with hb | hb
      · exact hP b hb
      · omega
  · exact (((hB.trans (hx.mono (by omega))).trans (hbw.mono (by omega))).grown hg (by omega) (fun k hk => by have := (hlt0 k hk).1; omega)).setCell (by show h + 1 ≤ h + 1; omega) v2
  · show _ ≤ (w6.setCell _ v2).heap.size
    simp [World.setCell]; omega
  · exact hbk6.at_ 10 v2

theorem NodeRow.nodes {w : World} {base lo : Nat} {e : TypeId} {A : Option Addr} {cap : Nat} {ps : List (RT × Option Addr × Nat)} {P : Nat → Prop} (h : NodeRow w base e (.slice A ps.length cap) ps P) (hlo : lo ≤ base) (hP : ∀ b, P b → lo ≤ b) :
    ps.length ≤ cap ∧ cap ≤ maxLen ∧ NodesAt w lo w.heap.size A (ps.map (·.1)) := by
  have hp := h.parent hlo hP 0 0 ⟨#[]⟩ 0 (by decide)
  have hb := hp.bounds
  simp only [List.length_map] at hb
  exact ⟨hb.2.1, hb.2.2, fun i hi => hp.sub i hi⟩

set_option maxHeartbeats 16000000 in
theorem decl_small (xk xa : Int) (xs : ByteArray) (te : List BT) (t : RT) (co : List BT) (ro : List CT) (A1 : Option Addr) (a1 : Nat) (F1 : Option Addr) (C1 : Nat) (B1 : Option Addr) (b1 : Nat) (D1 : Option Addr) (d1 : Nat) (lo hi : Nat) (w : World)
    (hte : te.length ≤ 30) (hco : co.length ≤ 30) (hro : ro.length ≤ 40) (hx : IsDecl w lo hi ⟨xk, xa, xs, te, t, co, ro⟩ ⟨A1, a1, F1, C1, B1, b1, D1, d1⟩) (hhi : hi ≤ w.heap.size) :
    Calls Tryz.prog 6 #[declV ⟨xk, xa, xs, te, t, co, ro⟩ ⟨A1, a1, F1, C1, B1, b1, D1, d1⟩] w (DeclIs ⟨xk, xa, xs, te, t, co, ro⟩ w) := by
  obtain ⟨i0, hi0, hz0, hz1, hz2⟩ := info_parts infoC
  obtain ⟨i1, hj1, hy0, hy1, hy2⟩ := info_parts infoR
  have HX := Lib.hid hx
  have e1 : decide ((30 : Int) < (te.length : Int)) = false := decide_eq_false (by omega)
  have e2 : decide ((30 : Int) < (co.length : Int)) = false := decide_eq_false (by omega)
  have e3 : decide ((40 : Int) < (ro.length : Int)) = false := decide_eq_false (by omega)
  have HB := Lib.hid (fun (l : List BT) (A : Option Addr) (cap : Nat) (W : World) (h1 : l.length ≤ 30) (h2 : BindsAt W lo hi A l) (h3 : hi ≤ W.heap.size) => binds_any l A cap lo hi W h1 h2 h3)
  have HO := Lib.hid (fun t A cap W h1 h2 => of_any t lo hi A cap W h1 h2)
  unfold OfIs at HO
  unfold BsIs at HB
  have HTE := Lib.hid hte
  have HCO := Lib.hid hco
  have HY : Hid (ofB t = true → ofT t = t) := Lib.hid (fun h => (of_yes h).1)
  have HOT := Lib.hid (fun (W : World) (h1 : Below w.heap.size w W) => HO.out t F1 C1 W (hx.t.kept h1 hhi) (by have := h1.size; omega))
  have HTEL := Lib.hid (fun (W : World) (h1 : Below w.heap.size w W) => HB.out te A1 a1 W hte (hx.te.kept h1 hhi) (by have := h1.size; omega))
  have HCON := Lib.hid (fun (W : World) (h1 : Below w.heap.size w W) => HB.out co B1 b1 W hco (hx.co.kept h1 hhi) (by have := h1.size; omega))
  obtain ⟨u, hu⟩ : ∃ u, ofT t = u := ⟨_, rfl⟩
  obtain ⟨okt, hok⟩ : ∃ ok, ofB t = ok := ⟨_, rfl⟩
  rw [hu, hok] at HOT HY
  have HW2 : Hid (∀ o1 o2, Below w.heap.size w ((w.alloc o1).alloc o2)) := Lib.hid (fun o1 o2 => ((Below.refl w.heap.size w).alloc (Nat.le_refl _) o1).alloc (by simp) o2)
  clear hx hte hco hu hok HTE HCO
  unfold declV
  unfold nodeV at HO HOT
  go_enter Tryz.func6, Tryz.ntmps6
  go_wp2_with fail
  refine (HTEL.out _ (HW2.out _ _)).mono ?_
  rintro e w1 ⟨ok1, n1, A2, c2, rfl, hc1, hd1⟩
  have hs1 := hd1.size
  simp at hs1
  have BX1 : Bk w1 w.heap.size 39 #[.int .i64 xk, .int .i64 xa, .string xs, .slice A1 te.length a1, .int .i64 t.k, .int .i64 t.a, .string t.s, .int .i64 t.n, .slice F1 t.l.length C1, .slice B1 co.length b1, .slice D1 ro.length d1] := ((Bk.new w 39 _).alloc _).below hd1 (by simp; omega)
  have BR1 : Bk w1 (w.heap.size + 1) 30 #[.int .i64 0, .int .i64 0, .string ⟨#[]⟩, .slice none 0 0, .int .i64 0, .int .i64 0, .string ⟨#[]⟩, .int .i64 0, .slice none 0 0, .slice none 0 0, .slice none 0 0] := by
    have := (Bk.new (w.alloc (.cells #[.int .i64 xk, .int .i64 xa, .string xs, .slice A1 te.length a1, .int .i64 t.k, .int .i64 t.a, .string t.s, .int .i64 t.n, .slice F1 t.l.length C1, .slice B1 co.length b1, .slice D1 ro.length d1] 39)) 30 #[.int .i64 0, .int .i64 0, .string ⟨#[]⟩, .slice none 0 0, .int .i64 0, .int .i64 0, .string ⟨#[]⟩, .int .i64 0, .slice none 0 0, .slice none 0 0, .slice none 0 0]).below hd1 (by simp)
    simpa using this
  have hB1 : Below w.heap.size w w1 := (HW2.out _ _).trans (hd1.mono (by simp; omega))
  have HC1 : Hid (CopyB te ((w.alloc (.cells #[.int .i64 xk, .int .i64 xa, .string xs, .slice A1 te.length a1, .int .i64 t.k, .int .i64 t.a, .string t.s, .int .i64 t.n, .slice F1 t.l.length C1, .slice B1 co.length b1, .slice D1 ro.length d1] 39)).alloc (.cells #[.int .i64 0, .int .i64 0, .string ⟨#[]⟩, .slice none 0 0, .int .i64 0, .int .i64 0, .string ⟨#[]⟩, .int .i64 0, .slice none 0 0, .slice none 0 0, .slice none 0 0] 30)) w1 ok1 n1 A2 c2) := Lib.hid hc1
  obtain ⟨-, -, -, -, -, -, -, -, -, x9, -⟩ := BX1.q11
  have hlt : w.heap.size < w1.heap.size := by omega
  clear hc1 hd1
  go_wp2_with fail
  refine (HCON.out _ hB1).mono ?_
  rintro e w2 ⟨ok2, n2, A3, c3, rfl, hc2, hd2⟩
  have hs2 := hd2.size
  have BX2 := BX1.below hd2 hlt
  have BR2 := BR1.below hd2 (by omega)
  have HB2 := Lib.hid (hB1.trans (hd2.mono (by omega)))
  have HC2 := Lib.hid hc2
  have HD2 := Lib.hid hd2
  clear x9 BX1 BR1 hB1 hc2 hd2
  obtain ⟨-, -, -, -, x4, x5, x6, x7, x8, -, -⟩ := BX2.q11
  go_wp2_with fail
  refine (HOT.out _ HB2.out).mono ?_
  rintro e w3 ⟨F2, C2, rfl, hn3, hd3⟩
  have hs3 := hd3.size
  have BX3 := BX2.below hd3 (by omega)
  have BR3 := BR2.below hd3 (by omega)
  have HB3 := Lib.hid (HB2.out.trans (hd3.mono (by omega)))
  have HN3 := Lib.hid hn3
  have HD3 := Lib.hid hd3
  clear x4 x5 x6 x7 x8 BX2 BR2 hn3 hd3
  obtain ⟨x0, x1, x2, -, -, -, -, -, -, -, -⟩ := BX3.q11
  have hl3 : w.heap.size < w3.heap.size := by omega
  have BX0 := Lib.hid ((BX3.alloc (.cells #[.int .i64 u.k, .int .i64 u.a, .string u.s, .int .i64 u.n, .slice F2 u.l.length C2] 27)).alloc (.cells #[.int .i64 xk, .int .i64 xa, .string xs, .slice A2 n1 c2, .int .i64 u.k, .int .i64 u.a, .string u.s, .int .i64 u.n, .slice F2 u.l.length C2, .slice A3 n2 c3, .slice none 0 0] 30))
  have BR0 := Lib.hid ((BR3.alloc (.cells #[.int .i64 u.k, .int .i64 u.a, .string u.s, .int .i64 u.n, .slice F2 u.l.length C2] 27)).alloc (.cells #[.int .i64 xk, .int .i64 xa, .string xs, .slice A2 n1 c2, .int .i64 u.k, .int .i64 u.a, .string u.s, .int .i64 u.n, .slice F2 u.l.length C2, .slice A3 n2 c3, .slice none 0 0] 30))
  have BK0 : Hid (Bk ((w3.alloc (.cells #[.int .i64 u.k, .int .i64 u.a, .string u.s, .int .i64 u.n, .slice F2 u.l.length C2] 27)).alloc (.cells #[.int .i64 xk, .int .i64 xa, .string xs, .slice A2 n1 c2, .int .i64 u.k, .int .i64 u.a, .string u.s, .int .i64 u.n, .slice F2 u.l.length C2, .slice A3 n2 c3, .slice none 0 0] 30)) (w3.heap.size + 1) 30 #[.int .i64 xk, .int .i64 xa, .string xs, .slice A2 n1 c2, .int .i64 u.k, .int .i64 u.a, .string u.s, .int .i64 u.n, .slice F2 u.l.length C2, .slice A3 n2 c3, .slice none 0 0]) := by
    have := Bk.new (w3.alloc (.cells #[.int .i64 u.k, .int .i64 u.a, .string u.s, .int .i64 u.n, .slice F2 u.l.length C2] 27)) 30 #[.int .i64 xk, .int .i64 xa, .string xs, .slice A2 n1 c2, .int .i64 u.k, .int .i64 u.a, .string u.s, .int .i64 u.n, .slice F2 u.l.length C2, .slice A3 n2 c3, .slice none 0 0]
    exact Lib.hid (by simpa using this)
  have HB0 := Lib.hid ((HB3.out.alloc (by omega) (.cells #[.int .i64 u.k, .int .i64 u.a, .string u.s, .int .i64 u.n, .slice F2 u.l.length C2] 27)).alloc (by simp; omega) (.cells #[.int .i64 xk, .int .i64 xa, .string xs, .slice A2 n1 c2, .int .i64 u.k, .int .i64 u.a, .string u.s, .int .i64 u.n, .slice F2 u.l.length C2, .slice A3 n2 c3, .slice none 0 0] 30))
  have HD0 : Hid (Below w3.heap.size w3 ((w3.alloc (.cells #[.int .i64 u.k, .int .i64 u.a, .string u.s, .int .i64 u.n, .slice F2 u.l.length C2] 27)).alloc (.cells #[.int .i64 xk, .int .i64 xa, .string xs, .slice A2 n1 c2, .int .i64 u.k, .int .i64 u.a, .string u.s, .int .i64 u.n, .slice F2 u.l.length C2, .slice A3 n2 c3, .slice none 0 0] 30))) := Lib.hid (((Below.refl _ _).alloc (Nat.le_refl _) _).alloc (by simp) _)
  obtain ⟨W0, hW0⟩ : ∃ W, ((w3.alloc (.cells #[.int .i64 u.k, .int .i64 u.a, .string u.s, .int .i64 u.n, .slice F2 u.l.length C2] 27)).alloc (.cells #[.int .i64 xk, .int .i64 xa, .string xs, .slice A2 n1 c2, .int .i64 u.k, .int .i64 u.a, .string u.s, .int .i64 u.n, .slice F2 u.l.length C2, .slice A3 n2 c3, .slice none 0 0] 30)) = W := ⟨_, rfl⟩
  have hs0 : W0.heap.size = w3.heap.size + 2 := by rw [← hW0]; simp
  rw [hW0] at BX0 BR0 BK0 HB0 HD0
  have HW0 := Lib.hid hW0
  clear hW0 BX3 BR3
  go_wp2_with fail
  rw [HW0.out]
  clear x0 x1 x2
  go_loopw [5, 11] (fun av iv wr => ∃ (a : Bool) (i : Nat) (ps : List RP) (P : Nat → Prop) (vr : Value), av = .bool a ∧ iv = .int .i64 i ∧ i ≤ ro.length ∧ Below (w3.heap.size + 1) W0 wr ∧ Hid (Bk wr (w3.heap.size + 1) 30 #[.int .i64 xk, .int .i64 xa, .string xs, .slice A2 n1 c2, .int .i64 u.k, .int .i64 u.a, .string u.s, .int .i64 u.n, .slice F2 u.l.length C2, .slice A3 n2 c3, vr]) ∧ w3.heap.size + 2 ≤ wr.heap.size ∧
      Hid (RowX (kindR a) wr (w3.heap.size + 2) 66 vr ps P) ∧ Hid (∀ b, P b → w3.heap.size + 2 ≤ b) ∧ Hid (ps.length = i) ∧ Hid (a = true → ok1 = true ∧ ps.map (·.1) = ro.take i)) (fun _ iv _ => ro.length - (intOf iv).toNat)
  case atStart =>
    clear HB HO HOT HTEL HCON
    refine ⟨ok1, 0, [], fun _ => False, .slice none 0 0, rfl, rfl, Nat.zero_le _, Below.refl _ _, BK0, by omega, Lib.hid ⟨?_, fun b hb => hb.elim, fun p hp => by cases hp⟩, Lib.hid (fun _ h => h.elim), Lib.hid rfl, Lib.hid (fun h => ⟨h, by rw [List.take_zero]; rfl⟩)⟩
    exact World.ownsRow_nil _ _ _ _
  case round =>
    obtain ⟨a, i, ps, P, vr, rfl, rfl, hi1, hB, HBK, hsr, HROW, HPP, HPL, HPS⟩ := hrel
    obtain ⟨A, c, hvr⟩ := own_slice HROW.out.row
    subst hvr
    have HBW := Lib.hid (HB0.out.trans (hB.mono (by omega)))
    have BRr := Lib.hid (BR0.out.below hB (by omega))
    have BXr := Lib.hid (BX0.out.below hB (by omega))
    have HBB := Lib.hid hB
    clear hB
    by_cases hil : i < ro.length
    case neg =>
      clear HB HO HOT HTEL HCON
      obtain rfl : i = ro.length := by omega
      obtain ⟨k0, k1, k2, k3, k4, k5, k6, k7, k8, k9, k10⟩ := HBK.out.q11
      obtain ⟨z0, z1, z2, z3, z4, z5, z6, z7, z8, z9, z10⟩ := BRr.out.q11
      obtain ⟨-, -, -, -, -, -, -, -, -, -, x10⟩ := BXr.out.q11
      have hfz : ∀ o, wr.frozen? ⟨w.heap.size + 1, o, none⟩ = false := fun o => BRr.out.cold o
      have hlt1 : w.heap.size + 1 < wr.heap.size := by omega
      obtain ⟨s0, s1, s2, s3, s4, s5, s6, s7, s8, s9, s10⟩ := BRr.out.eleven (.int .i64 xk) (.int .i64 xa) (.string xs) (.slice A2 n1 c2) (.int .i64 u.k) (.int .i64 u.a) (.string u.s) (.int .i64 u.n) (.slice F2 u.l.length C2) (.slice A3 n2 c3) (.slice A ps.length c)
      have HS0 := Lib.hid s0
      have HS1 := Lib.hid s1
      have HS2 := Lib.hid s2
      have HS3 := Lib.hid s3
      have HS4 := Lib.hid s4
      have HS5 := Lib.hid s5
      have HS6 := Lib.hid s6
      have HS7 := Lib.hid s7
      have HS8 := Lib.hid s8
      have HS9 := Lib.hid s9
      have HS10 := Lib.hid s10
      clear s0 s1 s2 s3 s4 s5 s6 s7 s8 s9 s10
      have HOUT : Hid (∀ (r : Bool) (V : World), V = setsL wr (w.heap.size + 1) 0 [.int .i64 xk, .int .i64 xa, .string xs, .slice A2 n1 c2, .int .i64 u.k, .int .i64 u.a, .string u.s, .int .i64 u.n, .slice F2 u.l.length C2, .slice A3 n2 c3, .slice A ps.length c] → (r = true → a = true ∧ ok2 = true ∧ okt = true) → DeclIs ⟨xk, xa, xs, te, t, co, ro⟩ w (.returned (.tuple #[.agg #[.int .i64 xk, .int .i64 xa, .string xs, .slice A2 n1 c2, .int .i64 u.k, .int .i64 u.a, .string u.s, .int .i64 u.n, .slice F2 u.l.length C2, .slice A3 n2 c3, .slice A ps.length c], .bool r])) V) := Lib.hid (by
        rintro r V rfl hr
        exact decl_out (setsL_below HBW.out (by omega) _ _) (fun h => decl_fin HX.out.hs (by simp) (by simp; omega) (by omega) (by omega) HC1.out HC2.out HY.out HN3.out HD2.out HD3.out HD0.out HBB.out hsr HROW.out HPP.out HPL.out HPS.out (fun b o h1 => setsL_far _ b o (by omega) _ _ _) (setsL_size _ _ _ _) (hr h)))
      clear HROW HPP HPS HBK BXr BX0 BR0 BK0 HB0 HD0 HC1 HC2 HD2 HD3 HN3 HB2 HB3 HBB HBW HX HY HW2 HW0 HPL BRr
      cases a with
      | false =>
        go_wp2_with fail
        refine bodyPost_ret (v := .tuple #[.agg #[.int .i64 xk, .int .i64 xa, .string xs, .slice A2 n1 c2, .int .i64 u.k, .int .i64 u.a, .string u.s, .int .i64 u.n, .slice F2 u.l.length C2, .slice A3 n2 c3, .slice A ps.length c], .bool false]) (by simp [results, Tryz.results6, go_sem, HS0.out, HS1.out, HS2.out, HS3.out, HS4.out, HS5.out, HS6.out, HS7.out, HS8.out, HS9.out, HS10.out]) rfl ?_
        exact HOUT.out false _ rfl (fun h => by cases h)
      | true =>
        cases ok2 with
        | false =>
          go_wp2_with fail
          refine bodyPost_ret (v := .tuple #[.agg #[.int .i64 xk, .int .i64 xa, .string xs, .slice A2 n1 c2, .int .i64 u.k, .int .i64 u.a, .string u.s, .int .i64 u.n, .slice F2 u.l.length C2, .slice A3 n2 c3, .slice A ps.length c], .bool false]) (by simp [results, Tryz.results6, go_sem, HS0.out, HS1.out, HS2.out, HS3.out, HS4.out, HS5.out, HS6.out, HS7.out, HS8.out, HS9.out, HS10.out]) rfl ?_
          exact HOUT.out false _ rfl (fun h => by cases h)
        | true =>
          go_wp2_with fail
          refine bodyPost_ret (v := .tuple #[.agg #[.int .i64 xk, .int .i64 xa, .string xs, .slice A2 n1 c2, .int .i64 u.k, .int .i64 u.a, .string u.s, .int .i64 u.n, .slice F2 u.l.length C2, .slice A3 n2 c3, .slice A ps.length c], .bool okt]) (by simp [results, Tryz.results6, go_sem, HS0.out, HS1.out, HS2.out, HS3.out, HS4.out, HS5.out, HS6.out, HS7.out, HS8.out, HS9.out, HS10.out]) rfl ?_
          exact HOUT.out okt _ rfl (fun h => by simp [h])
    obtain ⟨b, o, A', cc, F, C, hA, hb1, hb2, hxr, hrow⟩ := (HX.out.ro i hil).kept HBW.out hhi
    have hb3 : b < w.heap.size := by omega
    have hA0 : D1 = some ⟨b, o, none⟩ := hA
    subst hA0
    obtain ⟨r0, r1, r2, r3, r4, r5, r6, r7⟩ := hxr
    have HTK : Hid (ro.take (i + 1) = ro.take i ++ [ro[i]]) := Lib.hid (by rw [List.take_succ_eq_append_getElem hil])
    have HYR : Hid (ofB ro[i].t = true → ofT ro[i].t = ro[i].t) := Lib.hid (fun h => (of_yes h).1)
    have HROWN := Lib.hid hrow.hn
    have HROWP := Lib.hid hrow.hp
    obtain ⟨y, hy⟩ : ∃ y, ro[i] = y := ⟨_, rfl⟩
    simp only [hy] at r0 r1 r2 r3 r4 r5 r6 r7 HTK HYR HROWN HROWP
    have hi40 : i ≤ 40 := by omega
    have hi1' : (i : Int) < (ro.length : Int) := by omega
    clear hrow hA hy HTEL HCON HOT HB
    obtain ⟨-, -, -, -, -, -, -, -, -, -, x10⟩ := BXr.out.q11
    have HO1 := Lib.hid (HO.out y.t F C wr HROWN.out (by omega))
    obtain ⟨v, hv⟩ : ∃ v, ofT y.t = v := ⟨_, rfl⟩
    obtain ⟨okb, hokb⟩ : ∃ ok, ofB y.t = ok := ⟨_, rfl⟩
    rw [hv, hokb] at HO1 HYR
    clear hv hokb HROWN
    go_wp2_with fail
    refine HO1.out.mono ?_
    rintro e w4 ⟨F4, C4, rfl, hn4, hd4⟩
    have hs4 := hd4.size
    obtain ⟨W4, hW4⟩ : ∃ W, w4.alloc (.cells #[.int .i64 v.k, .int .i64 v.a, .string v.s, .int .i64 v.n, .slice F4 v.l.length C4] 27) = W := ⟨_, rfl⟩
    have hz4 : W4.heap.size = w4.heap.size + 1 := by rw [← hW4]; simp
    have hbw4 : Below w4.heap.size w4 W4 := by rw [← hW4]; exact (Below.refl _ _).alloc (Nat.le_refl _) _
    have hnd4 : Bk W4 w4.heap.size 27 #[.int .i64 v.k, .int .i64 v.a, .string v.s, .int .i64 v.n, .slice F4 v.l.length C4] := by rw [← hW4]; exact Bk.new w4 _ _
    have hd4' : Below wr.heap.size wr W4 := hd4.trans (hbw4.mono hs4)
    have HN4 : Hid (IsNode W4 wr.heap.size w4.heap.size v F4 C4) := Lib.hid (hn4.kept hbw4 (Nat.le_refl _))
    have hbwr : b < wr.heap.size := by omega
    have hcx := fun q => hd4'.cell (p := ⟨b, q, none⟩) hbwr
    have q10 := (hd4'.cell (p := ⟨w.heap.size, 10, none⟩) (show w.heap.size < wr.heap.size by omega)).trans x10
    have q0 := (hcx (o + i * 8)).trans r0
    have q1 := (hcx (o + i * 8 + 1)).trans r1
    have q2 := (hcx (o + i * 8 + 2)).trans r2
    obtain ⟨t0, t1, t2, t3, t4⟩ := hnd4.q5
    have hbl4 : b < W4.heap.size := by omega
    have hwl4 : w.heap.size < W4.heap.size := by omega
    have hnl4 : w4.heap.size < W4.heap.size := by omega
    have HZ4 := Lib.hid hz4
    have HD4 := Lib.hid hd4'
    have HW4 := Lib.hid hW4
    have HQ1 := Lib.hid q1
    have HQ10 := Lib.hid q10
    clear hW4 hcx x10 r0 r1 r2 r3 r4 r5 r6 r7 hn4 hd4 hd4' HO1 hbw4 hnd4 hz4
    go_upto_region 11 with fail
    rw [HW4.out]
    go_cut [14] from 80 to 93 (fun s14 wx => ∃ xb, s14 = .pointer (some ⟨xb, 0, none⟩) ∧ Bk wx xb 66 #[.int .i64 y.a, .slice none 0 0, .bool y.h, .int .i64 v.k, .int .i64 v.a, .string v.s, .int .i64 v.n, .slice F4 v.l.length C4] ∧ Below W4.heap.size W4 wx ∧ W4.heap.size ≤ xb)
    case first =>
      clear HO HX BX0 BR0 BK0 HB0 HD0 HC1 HC2 HD2 HD3 HN3 HB2 HB3 HW0 HROW HPP HPL HPS HBK HBW BRr BXr HBB
      go_region
      all_goals
        go_wp2_with fail
        go_meet
        case rel =>
          first
          | exact ⟨_, rfl, Bk.new W4 _ _, ((Below.refl _ _).alloc (Nat.le_refl _) _).drew, Nat.le_refl _⟩
          | trace_state
    case rest =>
      rename World => w5
      obtain ⟨xb, rfl, hxb, hd5, hxl⟩ := hcut
      obtain ⟨a1, ha1⟩ : ∃ a1, (a && (okb && decide (y.ps.length ≤ 30))) = a1 := ⟨_, rfl⟩
      have HA1 := Lib.hid ha1
      have hz4 := HZ4.out
      have HXB := Lib.hid hxb
      have hs5 := hd5.size
      have hxlt := hxb.lt
      have HD5 := Lib.hid (HD4.out.trans (hd5.mono (by omega)))
      have HN5 : Hid (IsNode w5 wr.heap.size w4.heap.size v F4 C4) := Lib.hid (HN4.out.kept hd5 (by omega))
      have p10 := (hd5.cell (p := ⟨w.heap.size, 10, none⟩) (show w.heap.size < W4.heap.size by omega)).trans HQ10.out
      have p1 := (hd5.cell (p := ⟨b, o + i * 8 + 1, none⟩) (show b < W4.heap.size by omega)).trans HQ1.out
      have hbl5 : b < w5.heap.size := by omega
      have hwl5 : w.heap.size < w5.heap.size := by omega
      clear ha1 hxb hd5 q0 q1 q2 q10 t0 t1 t2 t3 t4 HN4 HQ1 HQ10 HD4 HW4 hz4
      go_upto_region 12 with fail
      go_cut [5] from 94 to 107 (fun s5 wx => s5 = .bool a1 ∧ w5 = wx)
      case first =>
        clear HO HX BX0 BR0 BK0 HB0 HD0 HC1 HC2 HD2 HD3 HN3 HB2 HB3 HW0 HROW HPP HPL HPS HBK HBW BRr BXr HBB
        cases a with
        | false =>
          go_wp2_with fail
          go_meet
          case rel => exact ⟨congrArg Value.bool HA1.out, rfl⟩
        | true =>
          cases okb with
          | false =>
            go_wp2_with fail
            go_meet
            case rel => exact ⟨congrArg Value.bool HA1.out, rfl⟩
          | true =>
            go_wp2_with fail
            go_meet
            case rel => exact ⟨by rw [← HA1.out]; simp; omega, rfl⟩
      case rest =>
        obtain ⟨rfl, rfl⟩ := hcut
        have p10 := p10
        go_wp2_with fail
        go_loopw [5, 15] (fun av kv wx => ∃ (a2 : Bool) (k : Nat) (qs : List (RT × Option Addr × Nat)) (P2 : Nat → Prop) (v2 : Value), av = .bool a2 ∧ kv = .int .i64 k ∧ k ≤ y.ps.length ∧ Below xb w5 wx ∧ xb + 1 ≤ wx.heap.size ∧ Hid (Bk wx xb 66 #[.int .i64 y.a, v2, .bool y.h, .int .i64 v.k, .int .i64 v.a, .string v.s, .int .i64 v.n, .slice F4 v.l.length C4]) ∧ Hid (NodeRow wx (xb + 1) 27 v2 qs P2) ∧ Hid (∀ b, P2 b → xb + 1 ≤ b) ∧ Hid (qs.length = k) ∧ Hid (a2 = true → a1 = true ∧ qs.map (·.1) = y.ps.take k)) (fun _ kv _ => y.ps.length - (intOf kv).toNat)
        case atStart =>
          clear HO HX BX0 BR0 BK0 HB0 HD0 HC1 HC2 HD2 HD3 HN3 HB2 HB3 HW0 HROW HPP HPL HPS HBK HBW BRr BXr HBB
          exact ⟨a1, 0, [], fun _ => False, .slice none 0 0, rfl, rfl, Nat.zero_le _, Below.refl _ _, hxlt, HXB, Lib.hid (NodeRow.nil _ _ _), Lib.hid (fun _ h => h.elim), Lib.hid rfl, Lib.hid (fun h => ⟨h, by rw [List.take_zero]; rfl⟩)⟩
        case round =>
          rename World => wx
          obtain ⟨a2, k, qs, P2, v2, rfl, rfl, hk1, hBX, hszx, HXK, HNR, HP2, HQL, HQM⟩ := hrel
          obtain ⟨A7, c7, rfl⟩ := own_slice HNR.out.row
          have HBX := Lib.hid (HD5.out.trans (hBX.mono (by omega)))
          have hsx := hBX.size
          have m10 := (hBX.cell (p := ⟨w.heap.size, 10, none⟩) (show w.heap.size < xb by omega)).trans p10
          have m1 := (hBX.cell (p := ⟨b, o + i * 8 + 1, none⟩) (show b < xb by omega)).trans p1
          have hblx : b < wx.heap.size := by omega
          have hwlx : w.heap.size < wx.heap.size := by omega
          have HBXX := Lib.hid hBX
          clear hBX p10 p1
          by_cases hgo : k < y.ps.length ∧ a2 = true
          · obtain ⟨hkl, rfl⟩ := hgo
            obtain ⟨ha1t, hqm⟩ := HQM.out rfl
            subst ha1t
            have h30 : y.ps.length ≤ 30 := by
              have := HA1.out
              simp at this
              exact this.2.2
            obtain ⟨bs, os, F5, C5, hA5, hb5, hbs5, hc5, hn5⟩ := (HROWP.out k hkl).kept HBX.out (by omega)
            subst hA5
            obtain ⟨e0, e1', e2', e3', e4⟩ := hc5
            have HOP := Lib.hid (HO.out y.ps[k] F5 C5 wx hn5 (by omega))
            have HYP : Hid (ofB y.ps[k] = true → ofT y.ps[k] = y.ps[k]) := Lib.hid (fun h => (of_yes h).1)
            have HTK5 : Hid (y.ps.take (k + 1) = y.ps.take k ++ [y.ps[k]]) := Lib.hid (by rw [List.take_succ_eq_append_getElem hkl])
            obtain ⟨s, hs⟩ : ∃ s, y.ps[k] = s := ⟨_, rfl⟩
            rw [hs] at HOP HYP HTK5 e0 e1' e2' e3' e4
            obtain ⟨z, hz⟩ : ∃ z, ofT s = z := ⟨_, rfl⟩
            obtain ⟨okp, hokp⟩ : ∃ ok, ofB s = ok := ⟨_, rfl⟩
            rw [hz, hokp] at HOP HYP
            have hbsl : bs < wx.heap.size := by omega
            have hki : (k : Int) < (y.ps.length : Int) := by omega
            have hdk : decide ((k : Int) < (y.ps.length : Int)) = true := decide_eq_true hki
            have hk30 : k ≤ 30 := by omega
            have HQM2 := Lib.hid hqm
            have H30 := Lib.hid h30
            clear hs hz hokp hn5 hqm h30 HQM HO HX BX0 BR0 BK0 HB0 HD0 HC1 HC2 HD2 HD3 HN3 HB2 HB3 HW0 HROW HPP HPL HPS HBK HBW BRr BXr HBB HROWP HD5 HN5 HXB
            go_wp2_with fail
            refine HOP.out.mono ?_
            rintro e w6 ⟨F6, C6, rfl, hn6, hd6⟩
            have hs6 := hd6.size
            have R1 := ((HNR.out.below hd6).alloc (.cells #[.int .i64 z.k, .int .i64 z.a, .string z.s, .int .i64 z.n, .slice F6 z.l.length C6] 27)).alloc (.cells #[.int .i64 z.k, .int .i64 z.a, .string z.s, .int .i64 z.n, .slice F6 z.l.length C6] 27)
            have HOW := Lib.hid R1.row
            have HR1 := Lib.hid R1
            have hx6 := HXK.out.below hd6 (by omega)
            have f1 : w6.cell? ⟨xb, 1, none⟩ = some (.slice A7 qs.length c7) := hx6.cell 1
            have hxl6 : xb < w6.heap.size := by omega
            have HX6 := Lib.hid hx6
            have HN6 := Lib.hid hn6
            have hpn : qs.length ≤ 30 := by have := HQL.out; have := H30.out; omega
            have HPN := Lib.hid hpn
            have HD6 := Lib.hid hd6
            clear R1 hx6 hn6 hpn hd6 HOP
            go_wp2_with (at_builtin; refine wpList_app rfl _ _ 25 rfl (xb + 1) 27 i1 (.agg #[.int .i64 0, .int .i64 0, .string ⟨#[]⟩, .int .i64 0, .slice none 0 0]) 5 64 Tryz.underlying25 hj1 hy0 hy1 hy2 rfl (by decide) _ _ _ rfl HOW.out (some ⟨w6.heap.size + 1, 0, none⟩) 1 1 (cellsP (z, F6, C6)) rfl (src_at _ _ _ (by simp) rfl) (cellsP_one _) ?c3 ?c4 ?c5 ?_)
            case c3 => have := HPN.out; unfold maxLen; omega
            case c4 => have := HPN.out; omega
            case c5 => simp; omega
            rintro v3 w7 ⟨hown3, hg3, ho3⟩
            have hsz3 := hg3.size
            simp at hsz3
            have hown0 := HR1.out.row.lt
            have HRow := Lib.hid (HR1.out.push (Pn := fun b => wx.heap.size ≤ b ∧ b < w6.heap.size) (p := (z, F6, C6)) (((HN6.out.alloc (Nat.le_refl _) _).alloc (by simp) _)) (fun b hb => ⟨by simp; omega, fun e => by
              have := HNR.out.row.lt b e
              omega⟩) hown3 hg3 ho3)
            have hne : ∀ g, g < xb + 1 → some g ≠ (Value.slice A7 qs.length c7).ownBlock := fun g hg e => by
              have := hown0 g e.symm
              omega
            have HX7 := Lib.hid (((HX6.out.alloc _).alloc _).grown hg3 (hne _ (by omega)))
            have hbb := (((HBXX.out.trans (HD6.out.mono (by omega))).alloc (by omega) (.cells #[.int .i64 z.k, .int .i64 z.a, .string z.s, .int .i64 z.n, .slice F6 z.l.length C6] 27)).alloc (by simp; omega) (.cells #[.int .i64 z.k, .int .i64 z.a, .string z.s, .int .i64 z.n, .slice F6 z.l.length C6] 27))
            have HB7 := Lib.hid (hbb.grown hg3 (by simp; omega) (fun g e => by have := hown0 g e; omega))
            obtain ⟨A8, c8, rfl⟩ := own_slice hown3
            have g1 : w7.cell? ⟨xb, 1, none⟩ = some (.slice A7 qs.length c7) := HX7.out.cell 1
            have gz1 : w7.frozen? ⟨xb, 1, none⟩ = false := HX7.out.cold 1
            have gl1 := HX7.out.lt
            clear hown3 hg3 ho3 hown0 hne hbb
            go_wp2_with fail
            go_roundw
            case rel =>
              refine ⟨okp, k + 1, _, _, _, rfl, by go_num, hkl, HB7.out.setCell (by show xb ≤ xb; omega) _, by show xb + 1 ≤ (w7.setCell _ _).heap.size; simp [World.setCell]; omega, Lib.hid (HX7.out.at_ 1 _), Lib.hid (HRow.out.setCell (a := ⟨xb, 1, none⟩) (by show xb < xb + 1; omega) (fun b hb => ?_) _), Lib.hid (fun b hb => ?_), Lib.hid (by rw [List.length_append, HQL.out]; rfl), Lib.hid (fun h => ⟨by first | trivial | rfl, ?_⟩)⟩
              · show b ≠ xb
                rcases hb with hb | hb
                · have := HP2.out b hb; omega
                · omega
              · rcases hb with hb | hb
                · exact HP2.out b hb
                · omega
              · rw [List.map_append, HQM2.out, HTK5.out, HYP.out h]; rfl
            case measure => simp [intOf]; omega
          · obtain ⟨hq1, hq2, hq3⟩ := HNR.out.nodes (lo := xb + 1) (Nat.le_refl _) HP2.out
            obtain ⟨ps2, hps2⟩ : ∃ ps2, qs.map (·.1) = ps2 := ⟨_, rfl⟩
            have hlen2 : qs.length = ps2.length := by rw [← hps2, List.length_map]
            rw [hps2] at hq3
            rw [hlen2] at hq1 HXK
            have hIN : a2 = true → a = true ∧ ps2.length ≤ c7 ∧ c7 ≤ maxLen ∧ NodesAt wx wr.heap.size wx.heap.size A7 ps2 ∧ IsNode wx wr.heap.size wx.heap.size v F4 C4 := fun h => by
              obtain ⟨h1, h2⟩ := HQM.out h
              subst h1
              have := HA1.out
              simp at this
              exact ⟨this.1, hq1, hq2, NodesAt.imp (fun _ _ _ _ => rfl) (by omega) (Nat.le_refl _) hq3, IsNode.imp (fun _ _ _ _ => rfl) (Nat.le_refl _) (by omega) (HN5.out.kept HBXX.out (by omega))⟩
            have hREL : a2 = true → ok1 = true ∧ (ps ++ [((⟨y.a, ps2, y.h, v⟩, A7, c7, F4, C4) : RP)]).map (·.1) = ro.take (i + 1) := fun h => by
              obtain ⟨h1, h2⟩ := HQM.out h
              subst h1
              have hh := HA1.out
              simp at hh
              obtain ⟨h3, h4, h5⟩ := hh
              obtain ⟨h6, h7⟩ := HPS.out h3
              have hk : k = y.ps.length := by
                rcases Nat.lt_or_ge k y.ps.length with hlt | hge
                · exact absurd ⟨hlt, h⟩ hgo
                · omega
              refine ⟨h6, ?_⟩
              rw [HTK.out, List.map_append, h7, ← hps2, h2, hk, List.take_length, HYR.out h4]
              rfl
            have HF := Lib.hid (fun (oo : Obj) (v2 : Value) (w6 : World) ha => decl_push6 (y := y) (o := oo) (v2 := v2) (w6 := w6) HROW.out HPP.out HBK.out HBB.out hsr HBX.out hIN ha)
            have HREL := Lib.hid hREL
            have hkx := HXK.out
            obtain ⟨k0, k1, k2, k3, k4, k5, k6, k7⟩ := hkx.q8
            have f10 : wx.cell? ⟨w3.heap.size + 1, 10, none⟩ = some (.slice A ps.length c) := (HBK.out.below HBX.out (by omega)).cell 10
            have hg9 : w3.heap.size + 1 < wx.heap.size := by omega
            have hxlx : xb < wx.heap.size := by omega
            have HR9 : Hid (∀ oo, (wx.alloc oo).ownsRow (w3.heap.size + 2) 66 8 (.slice A ps.length c) ps.length (flatX (kindR a2) ps)) := Lib.hid (fun oo => (HROW.out.below HBX.out |>.alloc oo).row)
            have HPN : Hid (ps.length ≤ 40) := Lib.hid (by rw [HPL.out]; omega)
            have HPL' : Hid ((ps ++ [((⟨y.a, ps2, y.h, v⟩, A7, c7, F4, C4) : RP)]).length = i + 1) := Lib.hid (by rw [List.length_append, HPL.out]; rfl)
            have hex : (¬ k < y.ps.length) ∨ (k < y.ps.length ∧ a2 = false) := by
              by_cases h : k < y.ps.length
              · right
                exact ⟨h, by cases a2; rfl; exact absurd ⟨h, rfl⟩ hgo⟩
              · exact .inl h
            clear hIN hREL hq1 hq2 hq3 hps2 hlen2 HNR HP2 HQL HQM HXK hkx hgo HN5 HBX HBXX HD5 HXB HO HX BX0 BR0 BK0 HB0 HD0 HC1 HC2 HD2 HD3 HN3 HB2 HB3 HW0 HROW HPP HPS HBW HPL BRr BXr HBK HBB HTK HYR HA1 HROWP
            have main : ∀ (q : Bool), (¬ k < y.ps.length) ∨ (k < y.ps.length ∧ a2 = false) := fun _ => hex
            clear hex
            rcases main true with hdk | ⟨hdk, hda⟩
            all_goals
              clear main
              try subst hda
              go_wp2_with (at_builtin; refine wpList_app rfl _ _ 28 rfl (w3.heap.size + 2) 66 i0 (.agg #[.int .i64 0, .slice none 0 0, .bool false, .int .i64 0, .int .i64 0, .string ⟨#[]⟩, .int .i64 0, .slice none 0 0]) 8 104 Tryz.underlying28 hi0 hz0 hz1 hz2 rfl (by decide) _ _ _ rfl (HR9.out _) (some ⟨wx.heap.size, 0, none⟩) 1 1 ((kindR true).cells ((⟨y.a, ps2, y.h, v⟩, A7, c7, F4, C4) : RP)) rfl (src_at _ _ _ rfl rfl) (cellsR_one _ _) ?c3 ?c4 ?c5 ?_)
              case c3 => have := HPN.out; unfold maxLen; omega
              case c4 => have := HPN.out; omega
              case c5 => simp; omega
              rintro v9 w9 ha9
              obtain ⟨hbk9, HSL, HRR, HBL, HSZ, HBG⟩ := HF.out _ v9 w9 ha9
              clear ha9
              obtain ⟨A9, c9, rfl⟩ := HSL.out
              have gg : w9.cell? ⟨w3.heap.size + 1, 10, none⟩ = some (.slice A ps.length c) := hbk9.cell 10
              have gz : w9.frozen? ⟨w3.heap.size + 1, 10, none⟩ = false := hbk9.cold 10
              have gl := hbk9.lt
              obtain ⟨P', hrow', hP'⟩ := HRR.out
              have HR10 := Lib.hid hrow'
              have HP10 := Lib.hid hP'
              clear hbk9 hrow' hP'
              go_wp2_with fail
              go_roundw
              case rel => exact ⟨_, i + 1, _, P', _, rfl, by go_num, by omega, HBL.out, HBG, HSZ.out, HR10, HP10, HPL', HREL⟩
              case measure => simp [intOf]; omega

theorem decl6_any (x : DT) (q : DP) (lo hi : Nat) (w : World) (h : IsDecl w lo hi x q) (hhi : hi ≤ w.heap.size) : Calls Tryz.prog 6 #[declV x q] w (DeclIs x w) := by
  by_cases hb : 30 < x.te.length ∨ 30 < x.co.length ∨ 40 < x.ro.length
  · exact decl_big x q w hb
  · exact decl_small x.k x.a x.s x.te x.t x.co x.ro q.A q.a q.F q.C q.B q.b q.D q.d lo hi w (by omega) (by omega) (by omega) h hhi

end Go.Proofs.YteaojmcfppbgiaaGreatDoor
