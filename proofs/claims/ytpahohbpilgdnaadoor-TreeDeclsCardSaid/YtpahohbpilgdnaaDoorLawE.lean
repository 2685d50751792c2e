/- scholiumlaw04.decl: the document's declaration, where no list of it is long. -/
import Derived.Test.YtpahohbpilgdnaaDoorLawCG
namespace Go.Proofs.YtpahohbpilgdnaaDoor
open Go.RowKit
set_option linter.unusedVariables false
set_option maxRecDepth 100000
set_option linter.unusedSimpArgs false

set_option maxHeartbeats 4000000 in
theorem decl_small (xk xa : Int) (xs : ByteArray) (te : List BT) (t : RT) (co : List BT) (ro : List CT) (A1 : Option Addr) (a1 : Nat) (F1 : Option Addr) (C1 : Nat) (B1 : Option Addr) (b1 : Nat) (D1 : Option Addr) (d1 : Nat) (lo hi : Nat) (w : World)
    (hte : te.length ≤ 30) (hco : co.length ≤ 30) (hro : ro.length ≤ 40) (hx : IsDecl w lo hi ⟨xk, xa, xs, te, t, co, ro⟩ ⟨A1, a1, F1, C1, B1, b1, D1, d1⟩) (hhi : hi ≤ w.heap.size) :
    Calls Tryd.prog 27 #[declV ⟨xk, xa, xs, te, t, co, ro⟩ ⟨A1, a1, F1, C1, B1, b1, D1, d1⟩] w (DeclIs ⟨xk, xa, xs, te, t, co, ro⟩ w) := by
  obtain ⟨i0, hi0, hz0, hz1, hz2⟩ := info_parts infoC
  have HX := Lib.hid hx
  have e1 : decide ((30 : Int) < (te.length : Int)) = false := decide_eq_false (by omega)
  have e2 : decide ((30 : Int) < (co.length : Int)) = false := decide_eq_false (by omega)
  have e3 : decide ((40 : Int) < (ro.length : Int)) = false := decide_eq_false (by omega)
  have HB := Lib.hid (fun (l : List BT) (A : Option Addr) (cap : Nat) (W : World) (h1 : l.length ≤ 30) (h2 : BindsAt W lo hi A l) (h3 : hi ≤ W.heap.size) => binds_any l A cap lo hi W h1 h2 h3)
  have HN := Lib.hid (fun (l : List RT) (A : Option Addr) (cap : Nat) (W : World) (h1 : l.length ≤ 30) (h2 : NodesAt W lo hi A l) (h3 : hi ≤ W.heap.size) => nodes_any l A cap lo hi W h1 h2 h3)
  have HO := Lib.hid (fun t A cap W h1 h2 => of_any t lo hi A cap W h1 h2)
  unfold OfIs at HO
  unfold BsIs at HB
  unfold NsIs at HN
  have HTE := Lib.hid hte
  have HCO := Lib.hid hco
  have HY : Hid (ofB t = true → ofT t = t) := Lib.hid (fun h => (of_yes h).1)
  have HOT := Lib.hid (fun (W : World) (h1 : Below w.heap.size w W) => HO.out t F1 C1 W (hx.t.kept h1 hhi) (by have := h1.size; omega))
  have HTEL := Lib.hid (fun (W : World) (h1 : Below w.heap.size w W) => HB.out te A1 a1 W hte (hx.te.kept h1 hhi) (by have := h1.size; omega))
  have HCON := Lib.hid (fun (W : World) (h1 : Below w.heap.size w W) => HB.out co B1 b1 W hco (hx.co.kept h1 hhi) (by have := h1.size; omega))
  obtain ⟨u, hu⟩ : ∃ u, ofT t = u := ⟨_, rfl⟩
  obtain ⟨okt, hok⟩ : ∃ ok, ofB t = ok := ⟨_, rfl⟩
  rw [hu, hok] at HOT HY
  have HW2 : Hid (∀ o1 o2, Below w.heap.size w ((w.alloc o1).alloc o2)) := Lib.hid (fun o1 o2 => ((Below.refl w.heap.size w).alloc (Nat.le_refl _) o1).alloc (by simp) o2)
  clear hx hte hco hu hok HTE HCO
  unfold declV
  unfold nodeV at HO HOT
  go_enter Tryd.func27, Tryd.ntmps27
  go_wp2_with fail
  refine (HTEL.out _ (HW2.out _ _)).mono ?_
  rintro e w1 ⟨ok1, n1, A2, c2, rfl, hc1, hd1⟩
  have hs1 := hd1.size
  simp at hs1
  have BX1 : Bk w1 w.heap.size 48 #[.int .i64 xk, .int .i64 xa, .string xs, .slice A1 te.length a1, .int .i64 t.k, .int .i64 t.a, .string t.s, .int .i64 t.n, .slice F1 t.l.length C1, .slice B1 co.length b1, .slice D1 ro.length d1] := ((Bk.new w 48 _).alloc _).below hd1 (by simp; omega)
  have BR1 : Bk w1 (w.heap.size + 1) 52 #[.int .i64 0, .int .i64 0, .string ⟨#[]⟩, .slice none 0 0, .int .i64 0, .int .i64 0, .string ⟨#[]⟩, .int .i64 0, .slice none 0 0, .slice none 0 0, .slice none 0 0] := by
    have := (Bk.new (w.alloc (.cells #[.int .i64 xk, .int .i64 xa, .string xs, .slice A1 te.length a1, .int .i64 t.k, .int .i64 t.a, .string t.s, .int .i64 t.n, .slice F1 t.l.length C1, .slice B1 co.length b1, .slice D1 ro.length d1] 48)) 52 #[.int .i64 0, .int .i64 0, .string ⟨#[]⟩, .slice none 0 0, .int .i64 0, .int .i64 0, .string ⟨#[]⟩, .int .i64 0, .slice none 0 0, .slice none 0 0, .slice none 0 0]).below hd1 (by simp)
    simpa using this
  have hB1 : Below w.heap.size w w1 := (HW2.out _ _).trans (hd1.mono (by simp; omega))
  have HC1 : Hid (CopyB te ((w.alloc (.cells #[.int .i64 xk, .int .i64 xa, .string xs, .slice A1 te.length a1, .int .i64 t.k, .int .i64 t.a, .string t.s, .int .i64 t.n, .slice F1 t.l.length C1, .slice B1 co.length b1, .slice D1 ro.length d1] 48)).alloc (.cells #[.int .i64 0, .int .i64 0, .string ⟨#[]⟩, .slice none 0 0, .int .i64 0, .int .i64 0, .string ⟨#[]⟩, .int .i64 0, .slice none 0 0, .slice none 0 0, .slice none 0 0] 52)) w1 ok1 n1 A2 c2) := Lib.hid hc1
  obtain ⟨-, -, -, -, -, -, -, -, -, x9, -⟩ := BX1.c11
  have hlt : w.heap.size < w1.heap.size := by omega
  clear hc1 hd1
  go_wp2_with fail
  refine (HCON.out _ hB1).mono ?_
  rintro e w2 ⟨ok2, n2, A3, c3, rfl, hc2, hd2⟩
  have hs2 := hd2.size
  have BX2 := BX1.below hd2 hlt
  have BR2 := BR1.below hd2 (by omega)
  have HB2 := Lib.hid (hB1.trans (hd2.mono (by omega)))
  have HC2 := Lib.hid hc2
  have HD2 := Lib.hid hd2
  clear x9 BX1 BR1 hB1 hc2 hd2
  obtain ⟨-, -, -, -, x4, x5, x6, x7, x8, -, -⟩ := BX2.c11
  go_wp2_with fail
  refine (HOT.out _ HB2.out).mono ?_
  rintro e w3 ⟨F2, C2, rfl, hn3, hd3⟩
  have hs3 := hd3.size
  have BX3 := BX2.below hd3 (by omega)
  have BR3 := BR2.below hd3 (by omega)
  have HB3 := Lib.hid (HB2.out.trans (hd3.mono (by omega)))
  have HN3 := Lib.hid hn3
  have HD3 := Lib.hid hd3
  clear x4 x5 x6 x7 x8 BX2 BR2 hn3 hd3
  obtain ⟨x0, x1, x2, -, -, -, -, -, -, -, -⟩ := BX3.c11
  have hl3 : w.heap.size < w3.heap.size := by omega
  have BX0 := Lib.hid ((BX3.alloc (.cells #[.int .i64 u.k, .int .i64 u.a, .string u.s, .int .i64 u.n, .slice F2 u.l.length C2] 27)).alloc (.cells #[.int .i64 xk, .int .i64 xa, .string xs, .slice A2 n1 c2, .int .i64 u.k, .int .i64 u.a, .string u.s, .int .i64 u.n, .slice F2 u.l.length C2, .slice A3 n2 c3, .slice none 0 0] 52))
  have BR0 := Lib.hid ((BR3.alloc (.cells #[.int .i64 u.k, .int .i64 u.a, .string u.s, .int .i64 u.n, .slice F2 u.l.length C2] 27)).alloc (.cells #[.int .i64 xk, .int .i64 xa, .string xs, .slice A2 n1 c2, .int .i64 u.k, .int .i64 u.a, .string u.s, .int .i64 u.n, .slice F2 u.l.length C2, .slice A3 n2 c3, .slice none 0 0] 52))
  have BK0 : Hid (Bk ((w3.alloc (.cells #[.int .i64 u.k, .int .i64 u.a, .string u.s, .int .i64 u.n, .slice F2 u.l.length C2] 27)).alloc (.cells #[.int .i64 xk, .int .i64 xa, .string xs, .slice A2 n1 c2, .int .i64 u.k, .int .i64 u.a, .string u.s, .int .i64 u.n, .slice F2 u.l.length C2, .slice A3 n2 c3, .slice none 0 0] 52)) (w3.heap.size + 1) 52 #[.int .i64 xk, .int .i64 xa, .string xs, .slice A2 n1 c2, .int .i64 u.k, .int .i64 u.a, .string u.s, .int .i64 u.n, .slice F2 u.l.length C2, .slice A3 n2 c3, .slice none 0 0]) := by
    have := Bk.new (w3.alloc (.cells #[.int .i64 u.k, .int .i64 u.a, .string u.s, .int .i64 u.n, .slice F2 u.l.length C2] 27)) 52 #[.int .i64 xk, .int .i64 xa, .string xs, .slice A2 n1 c2, .int .i64 u.k, .int .i64 u.a, .string u.s, .int .i64 u.n, .slice F2 u.l.length C2, .slice A3 n2 c3, .slice none 0 0]
    exact Lib.hid (by simpa using this)
  have HB0 := Lib.hid ((HB3.out.alloc (by omega) (.cells #[.int .i64 u.k, .int .i64 u.a, .string u.s, .int .i64 u.n, .slice F2 u.l.length C2] 27)).alloc (by simp; omega) (.cells #[.int .i64 xk, .int .i64 xa, .string xs, .slice A2 n1 c2, .int .i64 u.k, .int .i64 u.a, .string u.s, .int .i64 u.n, .slice F2 u.l.length C2, .slice A3 n2 c3, .slice none 0 0] 52))
  have HD0 : Hid (Below w3.heap.size w3 ((w3.alloc (.cells #[.int .i64 u.k, .int .i64 u.a, .string u.s, .int .i64 u.n, .slice F2 u.l.length C2] 27)).alloc (.cells #[.int .i64 xk, .int .i64 xa, .string xs, .slice A2 n1 c2, .int .i64 u.k, .int .i64 u.a, .string u.s, .int .i64 u.n, .slice F2 u.l.length C2, .slice A3 n2 c3, .slice none 0 0] 52))) := Lib.hid (((Below.refl _ _).alloc (Nat.le_refl _) _).alloc (by simp) _)
  obtain ⟨W0, hW0⟩ : ∃ W, ((w3.alloc (.cells #[.int .i64 u.k, .int .i64 u.a, .string u.s, .int .i64 u.n, .slice F2 u.l.length C2] 27)).alloc (.cells #[.int .i64 xk, .int .i64 xa, .string xs, .slice A2 n1 c2, .int .i64 u.k, .int .i64 u.a, .string u.s, .int .i64 u.n, .slice F2 u.l.length C2, .slice A3 n2 c3, .slice none 0 0] 52)) = W := ⟨_, rfl⟩
  have hs0 : W0.heap.size = w3.heap.size + 2 := by rw [← hW0]; simp
  rw [hW0] at BX0 BR0 BK0 HB0 HD0
  have HW0 := Lib.hid hW0
  clear hW0 BX3 BR3
  go_wp2_with fail
  rw [HW0.out]
  clear x0 x1 x2
  go_loopw [5, 11] (fun av iv wr => ∃ (a : Bool) (i : Nat) (ps : List RP) (P : Nat → Prop) (vr : Value), av = .bool a ∧ iv = .int .i64 i ∧ i ≤ ro.length ∧ Below (w3.heap.size + 1) W0 wr ∧ Hid (Bk wr (w3.heap.size + 1) 52 #[.int .i64 xk, .int .i64 xa, .string xs, .slice A2 n1 c2, .int .i64 u.k, .int .i64 u.a, .string u.s, .int .i64 u.n, .slice F2 u.l.length C2, .slice A3 n2 c3, vr]) ∧ w3.heap.size + 2 ≤ wr.heap.size ∧
      Hid (RowX (kindR a) wr (w3.heap.size + 2) 73 vr ps P) ∧ Hid (∀ b, P b → w3.heap.size + 2 ≤ b) ∧ Hid (ps.length = i) ∧ Hid (a = true → ok1 = true ∧ ps.map (·.1) = ro.take i)) (fun _ iv _ => ro.length - (intOf iv).toNat)
  case atStart =>
    clear HB HN HO HOT HTEL HCON
    refine ⟨ok1, 0, [], fun _ => False, .slice none 0 0, rfl, rfl, Nat.zero_le _, Below.refl _ _, BK0, by omega, Lib.hid ⟨?_, fun b hb => hb.elim, fun p hp => by cases hp⟩, Lib.hid (fun _ h => h.elim), Lib.hid rfl, Lib.hid (fun h => ⟨h, by rw [List.take_zero]; rfl⟩)⟩
    exact World.ownsRow_nil _ _ _ _
  case round =>
    obtain ⟨a, i, ps, P, vr, rfl, rfl, hi1, hB, HBK, hsr, HROW, HPP, HPL, HPS⟩ := hrel
    obtain ⟨A, c, hvr⟩ := own_slice HROW.out.row
    subst hvr
    have HBW := Lib.hid (HB0.out.trans (hB.mono (by omega)))
    have BRr := Lib.hid (BR0.out.below hB (by omega))
    have BXr := Lib.hid (BX0.out.below hB (by omega))
    have HBB := Lib.hid hB
    clear hB
    by_cases hil : i < ro.length
    case neg =>
      clear HB HN HO HOT HTEL HCON
      obtain rfl : i = ro.length := by omega
      obtain ⟨k0, k1, k2, k3, k4, k5, k6, k7, k8, k9, k10⟩ := HBK.out.c11
      obtain ⟨z0, z1, z2, z3, z4, z5, z6, z7, z8, z9, z10⟩ := BRr.out.c11
      obtain ⟨-, -, -, -, -, -, -, -, -, -, x10⟩ := BXr.out.c11
      have hfz : ∀ o, wr.frozen? ⟨w.heap.size + 1, o, none⟩ = false := fun o => BRr.out.cold o
      have hlt1 : w.heap.size + 1 < wr.heap.size := by omega
      obtain ⟨s0, s1, s2, s3, s4, s5, s6, s7, s8, s9, s10⟩ := BRr.out.eleven (.int .i64 xk) (.int .i64 xa) (.string xs) (.slice A2 n1 c2) (.int .i64 u.k) (.int .i64 u.a) (.string u.s) (.int .i64 u.n) (.slice F2 u.l.length C2) (.slice A3 n2 c3) (.slice A ps.length c)
      have HS0 := Lib.hid s0
      have HS1 := Lib.hid s1
      have HS2 := Lib.hid s2
      have HS3 := Lib.hid s3
      have HS4 := Lib.hid s4
      have HS5 := Lib.hid s5
      have HS6 := Lib.hid s6
      have HS7 := Lib.hid s7
      have HS8 := Lib.hid s8
      have HS9 := Lib.hid s9
      have HS10 := Lib.hid s10
      clear s0 s1 s2 s3 s4 s5 s6 s7 s8 s9 s10
      have HOUT : Hid (∀ (r : Bool) (V : World), V = setsL wr (w.heap.size + 1) 0 [.int .i64 xk, .int .i64 xa, .string xs, .slice A2 n1 c2, .int .i64 u.k, .int .i64 u.a, .string u.s, .int .i64 u.n, .slice F2 u.l.length C2, .slice A3 n2 c3, .slice A ps.length c] → (r = true → a = true ∧ ok2 = true ∧ okt = true) → DeclIs ⟨xk, xa, xs, te, t, co, ro⟩ w (.returned (.tuple #[.agg #[.int .i64 xk, .int .i64 xa, .string xs, .slice A2 n1 c2, .int .i64 u.k, .int .i64 u.a, .string u.s, .int .i64 u.n, .slice F2 u.l.length C2, .slice A3 n2 c3, .slice A ps.length c], .bool r])) V) := Lib.hid (by
        rintro r V rfl hr
        exact decl_out (setsL_below HBW.out (by omega) _ _) (fun h => decl_fin HX.out.hs (by simp) (by simp; omega) (by omega) (by omega) HC1.out HC2.out HY.out HN3.out HD2.out HD3.out HD0.out HBB.out hsr HROW.out HPP.out HPL.out HPS.out (fun b o h1 => setsL_far _ b o (by omega) _ _ _) (setsL_size _ _ _ _) (hr h)))
      clear HROW HPP HPS HBK BXr BX0 BR0 BK0 HB0 HD0 HC1 HC2 HD2 HD3 HN3 HB2 HB3 HBB HBW HX HY HW2 HW0 HPL BRr
      cases a with
      | false =>
        go_wp2_with fail
        refine bodyPost_ret (v := .tuple #[.agg #[.int .i64 xk, .int .i64 xa, .string xs, .slice A2 n1 c2, .int .i64 u.k, .int .i64 u.a, .string u.s, .int .i64 u.n, .slice F2 u.l.length C2, .slice A3 n2 c3, .slice A ps.length c], .bool false]) (by simp [results, Tryd.results27, go_sem, HS0.out, HS1.out, HS2.out, HS3.out, HS4.out, HS5.out, HS6.out, HS7.out, HS8.out, HS9.out, HS10.out]) rfl ?_
        exact HOUT.out false _ rfl (fun h => by cases h)
      | true =>
        cases ok2 with
        | false =>
          go_wp2_with fail
          refine bodyPost_ret (v := .tuple #[.agg #[.int .i64 xk, .int .i64 xa, .string xs, .slice A2 n1 c2, .int .i64 u.k, .int .i64 u.a, .string u.s, .int .i64 u.n, .slice F2 u.l.length C2, .slice A3 n2 c3, .slice A ps.length c], .bool false]) (by simp [results, Tryd.results27, go_sem, HS0.out, HS1.out, HS2.out, HS3.out, HS4.out, HS5.out, HS6.out, HS7.out, HS8.out, HS9.out, HS10.out]) rfl ?_
          exact HOUT.out false _ rfl (fun h => by cases h)
        | true =>
          go_wp2_with fail
          refine bodyPost_ret (v := .tuple #[.agg #[.int .i64 xk, .int .i64 xa, .string xs, .slice A2 n1 c2, .int .i64 u.k, .int .i64 u.a, .string u.s, .int .i64 u.n, .slice F2 u.l.length C2, .slice A3 n2 c3, .slice A ps.length c], .bool okt]) (by simp [results, Tryd.results27, go_sem, HS0.out, HS1.out, HS2.out, HS3.out, HS4.out, HS5.out, HS6.out, HS7.out, HS8.out, HS9.out, HS10.out]) rfl ?_
          exact HOUT.out okt _ rfl (fun h => by simp [h])
    obtain ⟨b, o, A', cc, F, C, hA, hb1, hb2, hxr, hrow⟩ := (HX.out.ro i hil).kept HBW.out hhi
    have hb3 : b < w.heap.size := by omega
    have hA0 : D1 = some ⟨b, o, none⟩ := hA
    subst hA0
    obtain ⟨r0, r1, r2, r3, r4, r5, r6, r7⟩ := hxr
    have HTK : Hid (ro.take (i + 1) = ro.take i ++ [ro[i]]) := Lib.hid (by rw [List.take_succ_eq_append_getElem hil])
    have HYR : Hid (ofB ro[i].t = true → ofT ro[i].t = ro[i].t) := Lib.hid (fun h => (of_yes h).1)
    have HROWN := Lib.hid hrow.hn
    have HROWP := Lib.hid hrow.hp
    obtain ⟨y, hy⟩ : ∃ y, ro[i] = y := ⟨_, rfl⟩
    simp only [hy] at r0 r1 r2 r3 r4 r5 r6 r7 HTK HYR HROWN HROWP
    have hi40 : i ≤ 40 := by omega
    have hi1' : (i : Int) < (ro.length : Int) := by omega
    clear hrow hA hy HTEL HCON HOT HB
    obtain ⟨-, -, -, -, -, -, -, -, -, -, x10⟩ := BXr.out.c11
    --CUT3
    by_cases hbig : 30 < y.ps.length
    case pos =>
      have hd75 : decide ((30 : Int) < (y.ps.length : Int)) = true := decide_eq_true (by omega)
      clear hbig
      clear HN HO HX HTK HYR HROWN HROWP HROW HPP HPS HC1 HC2 HD2 HD3 HN3 HB2 HB3 HBB HB0 HD0 HW0 BX0 BR0 BK0 HY
      obtain ⟨z0, z1, z2, z3, z4, z5, z6, z7, z8, z9, z10⟩ := BRr.out.c11
      have hfz : ∀ o, wr.frozen? ⟨w.heap.size + 1, o, none⟩ = false := fun o => BRr.out.cold o
      have hlt1 : w.heap.size + 1 < wr.heap.size := by omega
      obtain ⟨s0, s1, s2, s3, s4, s5, s6, s7, s8, s9, s10⟩ := BRr.out.eleven (.int .i64 0) (.int .i64 0) (.string ⟨#[]⟩) (.slice none 0 0) (.int .i64 0) (.int .i64 0) (.string ⟨#[]⟩) (.int .i64 0) (.slice none 0 0) (.slice none 0 0) (.slice none 0 0)
      have HS0 := Lib.hid s0
      have HS1 := Lib.hid s1
      have HS2 := Lib.hid s2
      have HS3 := Lib.hid s3
      have HS4 := Lib.hid s4
      have HS5 := Lib.hid s5
      have HS6 := Lib.hid s6
      have HS7 := Lib.hid s7
      have HS8 := Lib.hid s8
      have HS9 := Lib.hid s9
      have HS10 := Lib.hid s10
      clear s0 s1 s2 s3 s4 s5 s6 s7 s8 s9 s10
      have HOUT : Hid (DeclIs ⟨xk, xa, xs, te, t, co, ro⟩ w (.returned (.tuple #[declV zeroD zeroQ, .bool false])) (setsL wr (w.heap.size + 1) 0 [.int .i64 0, .int .i64 0, .string ⟨#[]⟩, .slice none 0 0, .int .i64 0, .int .i64 0, .string ⟨#[]⟩, .int .i64 0, .slice none 0 0, .slice none 0 0, .slice none 0 0])) := Lib.hid (decl_false (setsL_below HBW.out (by omega) _ _))
      --CUT3b
      go_wp2_with fail
      --CUT3c
      refine bodyPost_ret (v := .tuple #[declV zeroD zeroQ, .bool false]) (by simp [results, Tryd.results27, go_sem, declV, zeroD, zeroQ, RT.k, RT.a, RT.s, RT.n, RT.l, HS0.out, HS1.out, HS2.out, HS3.out, HS4.out, HS5.out, HS6.out, HS7.out, HS8.out, HS9.out, HS10.out]) rfl ?_
      exact HOUT.out
    --CUT4
    have hps30 : y.ps.length ≤ 30 := by omega
    have hd75 : decide ((30 : Int) < (y.ps.length : Int)) = false := decide_eq_false (by omega)
    have HN1 := Lib.hid (HN.out y.ps A' cc wr hps30 HROWP.out (by omega))
    have HO1 := Lib.hid (fun (W : World) (h1 : Below wr.heap.size wr W) => HO.out y.t F C W (HROWN.out.kept h1 (by omega)) (by have := h1.size; omega))
    obtain ⟨v, hv⟩ : ∃ v, ofT y.t = v := ⟨_, rfl⟩
    obtain ⟨okb, hokb⟩ : ∃ ok, ofB y.t = ok := ⟨_, rfl⟩
    rw [hv, hokb] at HO1 HYR
    clear hv hokb HN HO HROWP HROWN hps30 hbig
    go_wp2_with fail
    refine HN1.out.mono ?_
    rintro e w4 ⟨okp, np, Ap, cp, rfl, hcp, hd4⟩
    have hs4 := hd4.size
    have hcx := fun q => hd4.cell (p := ⟨b, q, none⟩) (show b < wr.heap.size by omega)
    have hx10 := (hd4.cell (p := ⟨w.heap.size, 10, none⟩) (show w.heap.size < wr.heap.size by omega)).trans x10
    have s0 := (hcx _).trans r0
    have s2 := (hcx _).trans r2
    have s3 := (hcx _).trans r3
    have s4 := (hcx _).trans r4
    have s5 := (hcx _).trans r5
    have s6 := (hcx _).trans r6
    have s7 := (hcx _).trans r7
    have hb4 : b < w4.heap.size := by omega
    obtain ⟨ps2, hpl2, hpe2⟩ := some_list y.ps okp np (fun h => (hcp h).1)
    subst hpl2
    have HPE := Lib.hid hpe2
    have HCP := Lib.hid hcp
    have HD4 := Lib.hid hd4
    clear hcx x10 r0 r1 r2 r3 r4 r5 r6 r7 hcp hd4 HN1 hpe2
    go_wp2_with fail
    refine (HO1.out _ HD4.out).mono ?_
    rintro e w5 ⟨F4, C4, rfl, hn5, hd5⟩
    have hs5 := hd5.size
    have hb5 : b < w5.heap.size := by omega
    have q0 := (hd5.cell (p := ⟨b, o + i * 8, none⟩) hb4).trans s0
    have q2 := (hd5.cell (p := ⟨b, o + i * 8 + 2, none⟩) hb4).trans s2
    have q10 := (hd5.cell (p := ⟨w.heap.size, 10, none⟩) (show w.heap.size < w4.heap.size by omega)).trans hx10
    have BK5 := Lib.hid ((HBK.out.below HD4.out (by omega)).below hd5 (by omega))
    have f10 : w5.cell? ⟨w3.heap.size + 1, 10, none⟩ = some (.slice A ps.length c) := BK5.out.cell 10
    have hg5 : w3.heap.size + 1 < w5.heap.size := by omega
    have hnd1 : w3.heap.size ≠ w5.heap.size := by omega
    have hnd2 : w5.heap.size ≠ w3.heap.size := by omega
    have hnd3 : w3.heap.size < w5.heap.size := by omega
    have hw5 : w.heap.size < w5.heap.size := by omega
    have HN5 := Lib.hid hn5
    have HD5 := Lib.hid hd5
    have HPN : Hid (ps.length ≤ 40) := Lib.hid (by rw [HPL.out]; omega)
    clear hx10 s0 s2 s3 s4 s5 s6 s7 hn5 hd5
    --CUT5
    obtain ⟨a2, ha2⟩ : ∃ a2, (a && (okp && okb)) = a2 := ⟨_, rfl⟩
    have HF := Lib.hid (fun (v2 : Value) (w6 : World) ha => decl_push (v2 := v2) (w6 := w6) HROW.out HPP.out HBK.out HBB.out hsr HD4.out HD5.out HCP.out HPE.out HN5.out ha2 ha)
    have HROW5 : Hid (((w5.alloc (.cells #[.int .i64 v.k, .int .i64 v.a, .string v.s, .int .i64 v.n, .slice F4 v.l.length C4] 27)).drew.alloc (.cells #[.int .i64 y.a, .slice Ap ps2.length cp, .bool y.h, .int .i64 v.k, .int .i64 v.a, .string v.s, .int .i64 v.n, .slice F4 v.l.length C4] 73)).ownsRow (w3.heap.size + 2) 73 8 (.slice A ps.length c) ps.length (flatX (kindR a2) ps)) := Lib.hid (((((HROW.out.below HD4.out).below HD5.out).weak (a' := a2) (fun h => by subst h; simp at ha2; exact ha2.1)).below ((((Below.refl _ _).alloc (Nat.le_refl _) _).drew).alloc (by simp) _)).row)
    have HREL : Hid (a2 = true → ok1 = true ∧ (ps ++ [((⟨y.a, ps2, y.h, v⟩, Ap, cp, F4, C4) : RP)]).map (·.1) = ro.take (i + 1)) := Lib.hid (fun h => by
      subst h
      simp at ha2
      obtain ⟨h1, h2, h3⟩ := ha2
      obtain ⟨h4, h5⟩ := HPS.out h1
      refine ⟨h4, ?_⟩
      rw [HTK.out, List.map_append, h5, HPE.out h2, HYR.out h3]
      rfl)
    have HCASE : Hid ((a = false ∧ a2 = false) ∨ (a = true ∧ okp = false ∧ a2 = false) ∨ (a = true ∧ okp = true ∧ a2 = okb)) := Lib.hid (by
      cases a
      · exact .inl ⟨rfl, ha2.symm⟩
      · cases okp
        · exact .inr (.inl ⟨rfl, rfl, ha2.symm⟩)
        · exact .inr (.inr ⟨rfl, rfl, by rw [← ha2]; simp⟩))
    have HPL' : Hid ((ps ++ [((⟨y.a, ps2, y.h, v⟩, Ap, cp, F4, C4) : RP)]).length = i + 1) := Lib.hid (by rw [List.length_append, HPL.out]; rfl)
    have hnea : w3.heap.size + 1 ≠ w.heap.size := by omega
    have hneb : w3.heap.size + 1 ≠ b := by omega
    have hnec : w3.heap.size + 1 ≠ w5.heap.size := by omega
    have HNE : Hid (w.heap.size < w3.heap.size + 1 ∧ b < w3.heap.size + 1) := Lib.hid ⟨by omega, by omega⟩
    clear ha2 BXr BRr HBK HROW HPP HPS HPL HTK HBB HBW HB0 HD0 HW0 BX0 BR0 BK0 HC1 HC2 HD2 HD3 HN3 HB2 HB3 HN5 HD5 HD4 HCP HX HY HO1 HYR BK5 HPE HW2
    --CUT6
    have main : ∀ (x : Bool), (a = false ∧ a2 = false) ∨ (a = true ∧ okp = false ∧ a2 = false) ∨ (a = true ∧ okp = true ∧ a2 = okb) := fun _ => HCASE.out
    clear HCASE
    rcases main true with ⟨rfl, h2⟩ | ⟨rfl, rfl, h2⟩ | ⟨rfl, rfl, h2⟩
    skip
    all_goals
      have HA := Lib.hid h2
      clear main h2
      go_wp2_with fail
      --CUT7
      refine wp_region_held_drew (S := fun w' => w'.cell? ⟨w.heap.size, 10, none⟩ = some (.slice (some ⟨b, o, none⟩) ro.length d1) ∧ w'.cell? ⟨b, o + i * 8, none⟩ = some (.int .i64 y.a) ∧ w'.cell? ⟨b, o + i * 8 + 2, none⟩ = some (.bool y.h) ∧ w'.cell? ⟨w5.heap.size, 0, none⟩ = some (.int .i64 v.k) ∧ w'.cell? ⟨w5.heap.size, 1, none⟩ = some (.int .i64 v.a) ∧ w'.cell? ⟨w5.heap.size, 2, none⟩ = some (.string v.s) ∧ w'.cell? ⟨w5.heap.size, 3, none⟩ = some (.int .i64 v.n) ∧ w'.cell? ⟨w5.heap.size, 4, none⟩ = some (.slice F4 v.l.length C4)) (by kernel_rfl) ?_ (fun hHeld => ?_)
      · (try dsimp only)
        go_keep
      refine wpAnyH_take (i := 0) (v := ?_) rfl (by kernel_rfl) (by kernel_rfl) (by kernel_rfl) (fun _ _ _ h => h) (Or.inl ⟨by rfl, ?_⟩) (by assumption) ?_
      rotate_left
      · intro w hSw
        (try dsimp only at hSw)
        go_simp
        try with_reducible rfl
      try simp only [Act.put, List.setIfInBounds_toArray, List.set_cons_zero, List.set_cons_succ]
      refine wpAnyH_take (i := 2) (v := ?_) rfl (by kernel_rfl) (by kernel_rfl) (by kernel_rfl) (fun _ _ _ h => h) (Or.inl ⟨by rfl, ?_⟩) (by assumption) ?_
      rotate_left
      · intro w hSw
        (try dsimp only at hSw)
        go_simp
        try with_reducible rfl
      try simp only [Act.put, List.setIfInBounds_toArray, List.set_cons_zero, List.set_cons_succ]
      refine wpAnyH_take (i := 3) (v := ?_) rfl (by kernel_rfl) (by kernel_rfl) (by kernel_rfl) (fun _ _ _ h => h) (Or.inl ⟨by rfl, ?_⟩) (by assumption) ?_
      rotate_left
      · intro w hSw
        (try dsimp only at hSw)
        go_simp
        try with_reducible rfl
      try simp only [Act.put, List.setIfInBounds_toArray, List.set_cons_zero, List.set_cons_succ]
      refine wpAnyH_take (i := 4) (v := ?_) rfl (by kernel_rfl) (by kernel_rfl) (by kernel_rfl) (fun _ _ _ h => h) (Or.inl ⟨by rfl, ?_⟩) (by assumption) ?_
      rotate_left
      · intro w hSw
        (try dsimp only at hSw)
        go_simp
        try with_reducible rfl
      try simp only [Act.put, List.setIfInBounds_toArray, List.set_cons_zero, List.set_cons_succ]
      refine wpAnyH_take (i := 5) (v := ?_) rfl (by kernel_rfl) (by kernel_rfl) (by kernel_rfl) (fun _ _ _ h => h) (Or.inl ⟨by rfl, ?_⟩) (by assumption) ?_
      rotate_left
      · intro w hSw
        (try dsimp only at hSw)
        go_simp
        try with_reducible rfl
      try simp only [Act.put, List.setIfInBounds_toArray, List.set_cons_zero, List.set_cons_succ]
      refine wpAnyH_take (i := 6) (v := ?_) rfl (by kernel_rfl) (by kernel_rfl) (by kernel_rfl) (fun _ _ _ h => h) (Or.inl ⟨by rfl, ?_⟩) (by assumption) ?_
      rotate_left
      · intro w hSw
        (try dsimp only at hSw)
        go_simp
        try with_reducible rfl
      try simp only [Act.put, List.setIfInBounds_toArray, List.set_cons_zero, List.set_cons_succ]
      refine wpAnyH_take (i := 7) (v := ?_) rfl (by kernel_rfl) (by kernel_rfl) (by kernel_rfl) (fun _ _ _ h => h) (Or.inl ⟨by rfl, ?_⟩) (by assumption) ?_
      rotate_left
      · intro w hSw
        (try dsimp only at hSw)
        go_simp
        try with_reducible rfl
      try simp only [Act.put, List.setIfInBounds_toArray, List.set_cons_zero, List.set_cons_succ]
      refine wpAnyH_take (i := 8) (v := ?_) rfl (by kernel_rfl) (by kernel_rfl) (by kernel_rfl) (fun _ _ _ h => h) (Or.inl ⟨by rfl, ?_⟩) (by assumption) ?_
      rotate_left
      · intro w hSw
        (try dsimp only at hSw)
        go_simp
        try with_reducible rfl
      try simp only [Act.put, List.setIfInBounds_toArray, List.set_cons_zero, List.set_cons_succ]
      refine wpAnyH_take (i := 9) (v := ?_) rfl (by kernel_rfl) (by kernel_rfl) (by kernel_rfl) (fun _ _ _ h => h) (Or.inl ⟨by rfl, ?_⟩) (by assumption) ?_
      rotate_left
      · intro w hSw
        (try dsimp only at hSw)
        go_simp
        try with_reducible rfl
      try simp only [Act.put, List.setIfInBounds_toArray, List.set_cons_zero, List.set_cons_succ]
      refine wpAnyH_take (i := 10) (v := ?_) rfl (by kernel_rfl) (by kernel_rfl) (by kernel_rfl) (fun _ _ _ h => h) (Or.inl ⟨by rfl, ?_⟩) (by assumption) ?_
      rotate_left
      · intro w hSw
        (try dsimp only at hSw)
        go_simp
        try with_reducible rfl
      try simp only [Act.put, List.setIfInBounds_toArray, List.set_cons_zero, List.set_cons_succ]
      refine wpAnyH_take (i := 11) (v := ?_) rfl (by kernel_rfl) (by kernel_rfl) (by kernel_rfl) (fun _ _ _ h => h) (Or.inl ⟨by rfl, ?_⟩) (by assumption) ?_
      rotate_left
      · intro w hSw
        (try dsimp only at hSw)
        go_simp
        try with_reducible rfl
      try simp only [Act.put, List.setIfInBounds_toArray, List.set_cons_zero, List.set_cons_succ]
      refine wpAnyH_take (i := 12) (v := ?_) rfl (by kernel_rfl) (by kernel_rfl) (by kernel_rfl) (fun _ _ _ h => h) (Or.inl ⟨by rfl, ?_⟩) (by assumption) ?_
      rotate_left
      · intro w hSw
        (try dsimp only at hSw)
        go_simp
        try with_reducible rfl
      try simp only [Act.put, List.setIfInBounds_toArray, List.set_cons_zero, List.set_cons_succ]
      refine wpAnyH_take (i := 13) (v := ?_) rfl (by kernel_rfl) (by kernel_rfl) (by kernel_rfl) (fun _ _ _ h => h) (Or.inl ⟨by rfl, ?_⟩) (by assumption) ?_
      rotate_left
      · intro w hSw
        (try dsimp only at hSw)
        go_simp
        try with_reducible rfl
      try simp only [Act.put, List.setIfInBounds_toArray, List.set_cons_zero, List.set_cons_succ]
      refine wpAnyH_take (i := 14) (v := ?_) rfl (by kernel_rfl) (by kernel_rfl) (by kernel_rfl) (fun _ _ _ h => h) (Or.inl ⟨by rfl, ?_⟩) (by assumption) ?_
      rotate_left
      · intro w hSw
        (try dsimp only at hSw)
        go_simp
        try with_reducible rfl
      try simp only [Act.put, List.setIfInBounds_toArray, List.set_cons_zero, List.set_cons_succ]
      refine wpAnyH_take (i := 15) (v := ?_) rfl (by kernel_rfl) (by kernel_rfl) (by kernel_rfl) (fun _ _ _ h => h) (Or.inl ⟨by rfl, ?_⟩) (by assumption) ?_
      rotate_left
      · intro w hSw
        (try dsimp only at hSw)
        go_simp
        try with_reducible rfl
      try simp only [Act.put, List.setIfInBounds_toArray, List.set_cons_zero, List.set_cons_succ]
      refine wpAnyH_take (i := 16) (v := ?_) rfl (by kernel_rfl) (by kernel_rfl) (by kernel_rfl) (fun _ _ _ h => h) (Or.inl ⟨by rfl, ?_⟩) (by assumption) ?_
      rotate_left
      · intro w hSw
        (try dsimp only at hSw)
        go_simp
        try with_reducible rfl
      try simp only [Act.put, List.setIfInBounds_toArray, List.set_cons_zero, List.set_cons_succ]
      --CUT8
      refine wpAnyH_ready (rs := [1, 17]) (by kernel_rfl) (by simp) ?_
      refine AllReadyH.cons rfl (fun K hK => ?_) (AllReadyH.cons rfl (fun K hK => ?_) AllReadyH.nil)
      · go_simp
        refine hK.out _ _ ?_ (fun hHeld => ?_)
        · (try dsimp only)
          first | assumption | go_keep
        clear hK K
        try simp only [Act.put, List.setIfInBounds_toArray, List.set_cons_zero, List.set_cons_succ]
        refine wpAnyH_ready (rs := [17]) (by kernel_rfl) (by simp) ?_
        refine AllReadyH.cons rfl (fun K hK => ?_) AllReadyH.nil
        go_simp
        refine hK.out _ _ ?_ (fun hHeld => ?_)
        · (try dsimp only)
          first | go_keep | assumption
        clear hK K
        try simp only [Act.put, List.setIfInBounds_toArray, List.set_cons_zero, List.set_cons_succ]
        refine wpAnyH_ready (rs := [18]) (by kernel_rfl) (by simp) ?_
        refine AllReadyH.cons rfl (fun K hK => ?_) AllReadyH.nil
        refine step_app rfl (.tmp 105) (.tmp 121) 50 rfl (w3.heap.size + 2) 73 i0 (.agg #[.int .i64 0, .slice none 0 0, .bool false, .int .i64 0, .int .i64 0, .string ⟨#[]⟩, .int .i64 0, .slice none 0 0]) 8 104 Tryd.underlying50 hi0 hz0 hz1 hz2 rfl (by decide) (.slice A ps.length c) ps.length (flatX (kindR a2) ps) rfl HROW5.out (some ⟨w5.heap.size + 1, 0, none⟩) 1 1 ((kindR a2).cells (⟨y.a, ps2, y.h, v⟩, Ap, cp, F4, C4)) rfl (src_at _ _ _ (by simp) rfl) (cellsR_one a2 _) (by have := HPN.out; unfold maxLen; omega) (by have := HPN.out; omega) (by simp; omega) ?_
        rintro v2 w6 ha3
        obtain ⟨hc6, bk5, bkg, HSL, HRR, HBL, HSZ, HBG⟩ := HF.out v2 w6 ha3
        clear ha3
        obtain ⟨A9, c9, rfl⟩ := HSL.out
        have g0 := (hc6 w.heap.size 10 HNE.out.1).trans q10
        have g1 := (hc6 b (o + i * 8) HNE.out.2).trans q0
        have g2 := (hc6 b (o + i * 8 + 2) HNE.out.2).trans q2
        obtain ⟨t0, t1, t2, t3, t4⟩ := bk5.c5
        have gg : w6.cell? ⟨w3.heap.size + 1, 10, none⟩ = some (.slice A ps.length c) := bkg.cell 10
        have gz : w6.frozen? ⟨w3.heap.size + 1, 10, none⟩ = false := bkg.cold 10
        have gl := bkg.lt
        have HKP : Hid ((w6.setCell ⟨w3.heap.size + 1, 10, none⟩ (.slice A9 (ps.length + 1) c9)).cell? ⟨w.heap.size, 10, none⟩ = some (.slice (some ⟨b, o, none⟩) ro.length d1) ∧ (w6.setCell ⟨w3.heap.size + 1, 10, none⟩ (.slice A9 (ps.length + 1) c9)).cell? ⟨b, o + i * 8, none⟩ = some (.int .i64 y.a) ∧ (w6.setCell ⟨w3.heap.size + 1, 10, none⟩ (.slice A9 (ps.length + 1) c9)).cell? ⟨b, o + i * 8 + 2, none⟩ = some (.bool y.h) ∧ (w6.setCell ⟨w3.heap.size + 1, 10, none⟩ (.slice A9 (ps.length + 1) c9)).cell? ⟨w5.heap.size, 0, none⟩ = some (.int .i64 v.k) ∧ (w6.setCell ⟨w3.heap.size + 1, 10, none⟩ (.slice A9 (ps.length + 1) c9)).cell? ⟨w5.heap.size, 1, none⟩ = some (.int .i64 v.a) ∧ (w6.setCell ⟨w3.heap.size + 1, 10, none⟩ (.slice A9 (ps.length + 1) c9)).cell? ⟨w5.heap.size, 2, none⟩ = some (.string v.s) ∧ (w6.setCell ⟨w3.heap.size + 1, 10, none⟩ (.slice A9 (ps.length + 1) c9)).cell? ⟨w5.heap.size, 3, none⟩ = some (.int .i64 v.n) ∧ (w6.setCell ⟨w3.heap.size + 1, 10, none⟩ (.slice A9 (ps.length + 1) c9)).cell? ⟨w5.heap.size, 4, none⟩ = some (.slice F4 v.l.length C4)) := Lib.hid (by
          have hne : ∀ (b' o' : Nat), w3.heap.size + 1 ≠ b' → (w6.setCell ⟨w3.heap.size + 1, 10, none⟩ (.slice A9 (ps.length + 1) c9)).cell? ⟨b', o', none⟩ = w6.cell? ⟨b', o', none⟩ := fun b' o' h => World.cell?_setCell_other _ _ _ _ (fun e => h (by injection e))
          exact ⟨(hne _ _ hnea).trans g0, (hne _ _ hneb).trans g1, (hne _ _ hneb).trans g2, (hne _ _ hnec).trans t0, (hne _ _ hnec).trans t1, (hne _ _ hnec).trans t2, (hne _ _ hnec).trans t3, (hne _ _ hnec).trans t4⟩)
        clear hc6 bk5 bkg
        refine hK.out _ _ ?_ (fun hHeld => ?_)
        · (try dsimp only)
          exact ⟨g0, g1, g2, t0, t1, t2, t3, t4⟩
        clear hK K
        try simp only [Act.put, List.setIfInBounds_toArray, List.set_cons_zero, List.set_cons_succ]
        refine wpAnyH_take (i := 19) (v := ?_) rfl (by kernel_rfl) (by kernel_rfl) (by kernel_rfl) (fun _ _ _ h => h) (Or.inl ⟨by rfl, ?_⟩) (by assumption) ?_
        rotate_left
        · intro w hSw
          (try dsimp only at hSw)
          go_simp
          try with_reducible rfl
        try simp only [Act.put, List.setIfInBounds_toArray, List.set_cons_zero, List.set_cons_succ]
        refine wpAnyH_ready (rs := [20]) (by kernel_rfl) (by simp) ?_
        refine AllReadyH.cons rfl (fun K hK => ?_) AllReadyH.nil
        go_simp
        refine hK.out _ _ ?_ (fun hHeld => ?_)
        · (try dsimp only)
          exact HKP.out
        clear hK K
        try simp only [Act.put, List.setIfInBounds_toArray, List.set_cons_zero, List.set_cons_succ]
        refine wpAnyH_done (by kernel_rfl) ?_ _
        obtain ⟨P', hrow', hP'⟩ := HRR.out
        have HR9 := Lib.hid hrow'
        have HP9 := Lib.hid hP'
        clear hrow' hP' HKP
        go_wp2_with fail
        go_roundw
        case rel =>
          exact ⟨a2, i + 1, _, P', _, by rw [HA.out], rfl, by omega, HBL.out, HBG, HSZ.out, HR9, HP9, HPL', HREL⟩
        case measure => simp [intOf]; omega
      · go_simp
        refine hK.out _ _ ?_ (fun hHeld => ?_)
        · (try dsimp only)
          first | go_keep | assumption
        clear hK K
        try simp only [Act.put, List.setIfInBounds_toArray, List.set_cons_zero, List.set_cons_succ]
        refine wpAnyH_ready (rs := [1]) (by kernel_rfl) (by simp) ?_
        refine AllReadyH.cons rfl (fun K hK => ?_) AllReadyH.nil
        go_simp
        refine hK.out _ _ ?_ (fun hHeld => ?_)
        · (try dsimp only)
          first | go_keep | assumption
        clear hK K
        try simp only [Act.put, List.setIfInBounds_toArray, List.set_cons_zero, List.set_cons_succ]
        refine wpAnyH_ready (rs := [18]) (by kernel_rfl) (by simp) ?_
        refine AllReadyH.cons rfl (fun K hK => ?_) AllReadyH.nil
        refine step_app rfl (.tmp 105) (.tmp 121) 50 rfl (w3.heap.size + 2) 73 i0 (.agg #[.int .i64 0, .slice none 0 0, .bool false, .int .i64 0, .int .i64 0, .string ⟨#[]⟩, .int .i64 0, .slice none 0 0]) 8 104 Tryd.underlying50 hi0 hz0 hz1 hz2 rfl (by decide) (.slice A ps.length c) ps.length (flatX (kindR a2) ps) rfl HROW5.out (some ⟨w5.heap.size + 1, 0, none⟩) 1 1 ((kindR a2).cells (⟨y.a, ps2, y.h, v⟩, Ap, cp, F4, C4)) rfl (src_at _ _ _ (by simp) rfl) (cellsR_one a2 _) (by have := HPN.out; unfold maxLen; omega) (by have := HPN.out; omega) (by simp; omega) ?_
        rintro v2 w6 ha3
        obtain ⟨hc6, bk5, bkg, HSL, HRR, HBL, HSZ, HBG⟩ := HF.out v2 w6 ha3
        clear ha3
        obtain ⟨A9, c9, rfl⟩ := HSL.out
        have g0 := (hc6 w.heap.size 10 HNE.out.1).trans q10
        have g1 := (hc6 b (o + i * 8) HNE.out.2).trans q0
        have g2 := (hc6 b (o + i * 8 + 2) HNE.out.2).trans q2
        obtain ⟨t0, t1, t2, t3, t4⟩ := bk5.c5
        have gg : w6.cell? ⟨w3.heap.size + 1, 10, none⟩ = some (.slice A ps.length c) := bkg.cell 10
        have gz : w6.frozen? ⟨w3.heap.size + 1, 10, none⟩ = false := bkg.cold 10
        have gl := bkg.lt
        have HKP : Hid ((w6.setCell ⟨w3.heap.size + 1, 10, none⟩ (.slice A9 (ps.length + 1) c9)).cell? ⟨w.heap.size, 10, none⟩ = some (.slice (some ⟨b, o, none⟩) ro.length d1) ∧ (w6.setCell ⟨w3.heap.size + 1, 10, none⟩ (.slice A9 (ps.length + 1) c9)).cell? ⟨b, o + i * 8, none⟩ = some (.int .i64 y.a) ∧ (w6.setCell ⟨w3.heap.size + 1, 10, none⟩ (.slice A9 (ps.length + 1) c9)).cell? ⟨b, o + i * 8 + 2, none⟩ = some (.bool y.h) ∧ (w6.setCell ⟨w3.heap.size + 1, 10, none⟩ (.slice A9 (ps.length + 1) c9)).cell? ⟨w5.heap.size, 0, none⟩ = some (.int .i64 v.k) ∧ (w6.setCell ⟨w3.heap.size + 1, 10, none⟩ (.slice A9 (ps.length + 1) c9)).cell? ⟨w5.heap.size, 1, none⟩ = some (.int .i64 v.a) ∧ (w6.setCell ⟨w3.heap.size + 1, 10, none⟩ (.slice A9 (ps.length + 1) c9)).cell? ⟨w5.heap.size, 2, none⟩ = some (.string v.s) ∧ (w6.setCell ⟨w3.heap.size + 1, 10, none⟩ (.slice A9 (ps.length + 1) c9)).cell? ⟨w5.heap.size, 3, none⟩ = some (.int .i64 v.n) ∧ (w6.setCell ⟨w3.heap.size + 1, 10, none⟩ (.slice A9 (ps.length + 1) c9)).cell? ⟨w5.heap.size, 4, none⟩ = some (.slice F4 v.l.length C4)) := Lib.hid (by
          have hne : ∀ (b' o' : Nat), w3.heap.size + 1 ≠ b' → (w6.setCell ⟨w3.heap.size + 1, 10, none⟩ (.slice A9 (ps.length + 1) c9)).cell? ⟨b', o', none⟩ = w6.cell? ⟨b', o', none⟩ := fun b' o' h => World.cell?_setCell_other _ _ _ _ (fun e => h (by injection e))
          exact ⟨(hne _ _ hnea).trans g0, (hne _ _ hneb).trans g1, (hne _ _ hneb).trans g2, (hne _ _ hnec).trans t0, (hne _ _ hnec).trans t1, (hne _ _ hnec).trans t2, (hne _ _ hnec).trans t3, (hne _ _ hnec).trans t4⟩)
        clear hc6 bk5 bkg
        refine hK.out _ _ ?_ (fun hHeld => ?_)
        · (try dsimp only)
          exact ⟨g0, g1, g2, t0, t1, t2, t3, t4⟩
        clear hK K
        try simp only [Act.put, List.setIfInBounds_toArray, List.set_cons_zero, List.set_cons_succ]
        refine wpAnyH_take (i := 19) (v := ?_) rfl (by kernel_rfl) (by kernel_rfl) (by kernel_rfl) (fun _ _ _ h => h) (Or.inl ⟨by rfl, ?_⟩) (by assumption) ?_
        rotate_left
        · intro w hSw
          (try dsimp only at hSw)
          go_simp
          try with_reducible rfl
        try simp only [Act.put, List.setIfInBounds_toArray, List.set_cons_zero, List.set_cons_succ]
        refine wpAnyH_ready (rs := [20]) (by kernel_rfl) (by simp) ?_
        refine AllReadyH.cons rfl (fun K hK => ?_) AllReadyH.nil
        go_simp
        refine hK.out _ _ ?_ (fun hHeld => ?_)
        · (try dsimp only)
          exact HKP.out
        clear hK K
        try simp only [Act.put, List.setIfInBounds_toArray, List.set_cons_zero, List.set_cons_succ]
        refine wpAnyH_done (by kernel_rfl) ?_ _
        obtain ⟨P', hrow', hP'⟩ := HRR.out
        have HR9 := Lib.hid hrow'
        have HP9 := Lib.hid hP'
        clear hrow' hP' HKP
        go_wp2_with fail
        go_roundw
        case rel =>
          exact ⟨a2, i + 1, _, P', _, by rw [HA.out], rfl, by omega, HBL.out, HBG, HSZ.out, HR9, HP9, HPL', HREL⟩
        case measure => simp [intOf]; omega

end Go.Proofs.YtpahohbpilgdnaaDoor
