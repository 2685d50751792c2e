/- The walk of the law PrintOnce. -/
import Derived.Test.YteaojmcfppbgiaaGreatDoorPrF
import Derived.Test.YteaojmcfppbgiaaGreatDoorAw6
import Derived.Test.YteaojmcfppbgiaaGreatDoorD6
namespace Go.Proofs.YteaojmcfppbgiaaGreatDoor
open Go.RowKit
set_option linter.unusedVariables false
set_option maxRecDepth 100000

/-- What a text comes to that can't be cut. -/
def NoFile (w : World) (e : Ending) (w' : World) : Prop := ∃ a E : Int, E ≠ 0 ∧ e = .returned (.tuple #[.slice none 0 0, .int .i64 a, .int .i64 E]) ∧ Below w.heap.size w w'
set_option maxHeartbeats 1000000 in
theorem read_err {s : ByteArray} {a E : Int} (hE : E ≠ 0) {w : World} (h : Calls Tryz.prog 46 #[.string s] w fun e w' => e = .returned (.tuple #[.slice none 0 0, .int .i64 a, .int .i64 E]) ∧ Below w.heap.size w w') :
    Calls Tryz.prog 47 #[.string s, .func (.func 48) #[] #[]] w (NoFile w) := by
  have H := Lib.hid h
  have hne : (E != 0) = true := by simpa using hE
  have HE := Lib.hid hE
  clear h hE
  go_enter Tryz.func47, Tryz.ntmps47
  go_wp2_with fail
  refine H.out.mono ?_; rintro e w1 ⟨rfl, hb⟩
  go_wp2_with fail
  refine bodyPost_ret (v := .tuple #[.slice none 0 0, .int .i64 a, .int .i64 E]) (by simp [results, Tryz.results47, go_sem]) rfl ?_
  exact ⟨a, E, HE.out, rfl, hb⟩
set_option maxHeartbeats 1000000 in
theorem file_err {s : ByteArray} {a E : Int} (hE : E ≠ 0) {w : World} (h : Calls Tryz.prog 46 #[.string s] w fun e w' => e = .returned (.tuple #[.slice none 0 0, .int .i64 a, .int .i64 E]) ∧ Below w.heap.size w w') :
    Calls Tryz.prog 18 #[.string s] w (NoFile w) := by
  have H := Lib.hid (read_err hE h)
  clear h hE
  go_enter Tryz.func18, Tryz.ntmps18
  go_wp2_with fail
  refine H.out.mono ?_; rintro e w1 ⟨a, E, hE, rfl, hb⟩
  have HE := Lib.hid hE
  clear hE
  go_wp2_with fail
  refine bodyPost_ret (v := .tuple #[.slice none 0 0, .int .i64 a, .int .i64 E]) (by simp [results, Tryz.results18, go_sem]) rfl ?_
  exact ⟨a, E, HE.out, rfl, hb⟩

set_option maxHeartbeats 1000000 in
/-- How many tokens a text has; 9999 where it can't be cut. -/
theorem tokens_any {u : ByteArray} {L : List (Int × ByteArray × Nat)} {stop : Nat} {E : Int} {w : World}
    (h : Calls Tryz.prog 46 #[.string u] w fun e w' => ∃ v, e = .returned (.tuple #[v, .int .i64 stop, .int .i64 E]) ∧ AllOut w w' v L u.size E ∧ Below w.heap.size w w') :
    Calls Tryz.prog 17 #[.string u] w fun e w' => e = .returned (.int .i64 (if E = 0 then (L.length : Int) + 1 else 9999)) ∧ Below w.heap.size w w' := by
  have H := Lib.hid h
  clear h
  by_cases hE : E = 0
  · subst hE
    have hne : ((0 : Int) != 0) = false := rfl
    go_enter Tryz.func17, Tryz.ntmps17
    go_wp2_with fail
    refine H.out.mono ?_; rintro e w1 ⟨v, rfl, ha, hb⟩
    obtain ⟨A, c, rfl⟩ := own_slice (ha.1 rfl)
    clear ha
    go_wp2_with fail
    go_ret
    exact ⟨by simp, hb⟩
  · have hne : (E != 0) = true := by simpa using hE
    rw [if_neg hE]
    have HE := Lib.hid hE
    clear hE
    go_enter Tryz.func17, Tryz.ntmps17
    go_wp2_with fail
    refine H.out.mono ?_; rintro e w1 ⟨v, rfl, ha, hb⟩
    obtain rfl := ha.2 HE.out
    clear ha
    go_wp2_with fail
    go_ret
    exact ⟨rfl, hb⟩

theorem decls_in {w : World} {lo hi : Nat} {A : Option Addr} {l : List DT} (h : DeclsAt w lo hi A l) : DeclsIn w lo hi A l := fun i hi' => by
  obtain ⟨b, o, p, hA, h1, h2, h3, h4⟩ := h i hi'
  exact ⟨b, o, p, hA, h1, h2, ⟨h3 0 (by omega), h3 1 (by omega), h3 2 (by omega), h3 3 (by omega), h3 4 (by omega), h3 5 (by omega), h3 6 (by omega), h3 7 (by omega), h3 8 (by omega), h3 9 (by omega), h3 10 (by omega)⟩, h4⟩
/-- What was printed of right declarations is read as right ones. -/
theorem file_back2 {l : List DT} {P : List Gc} (h : PFile l P) (hl0 : l.length ≤ 8192) (hm : P.length ≤ 8192) {u : ByteArray} (hu : bytesL u = toI (fileX l)) (hs : u.size ≤ 65535) :
    ∃ l' z, All2 EqvD l' l ∧ (∀ x ∈ l', FitD x) ∧ (∀ x ∈ l', declB x = true) ∧ (z : St).e = 0 ∧ ∀ w, Calls Tryz.prog 18 #[.string u] w (DeclsOut l' z u.size w) := by
  have hG : bytesL u = pcsG P := by rw [file_text h, hu]
  obtain ⟨⟨ns, hp⟩, hx⟩ := text_cutG hG (file_ok h []) hm
  have hl := tkG_length P u.size
  have he := tkG_end P u.size
  obtain ⟨g1, g2, g3, g4, g5⟩ := end_nx he
  have e0 : s0.k + P.length = P.length := Nat.zero_add _
  obtain ⟨l', e1, r1⟩ := file_read (by rw [hl]; omega) h 0 s0 (by omega) rfl (tkG_at P u.size) (by rw [e0, hl]; omega) (by rw [e0]; exact g5)
  refine ⟨l', mv s0 P.length, e1, fileR_fit r1 rfl, (fileR_good (names_end hx) r1 rfl).1, rfl, fun w => ?_⟩
  have := file_of (w := w) hs hp hx r1
  rw [show endS (withEnd (toksPc (P.map dnG) 0) u.size) (mv s0 P.length) = mv s0 P.length from end_mv he] at this
  exact this
def Tabs (w : World) : Prop := Shapes w ∧ Rooms w ∧ Bare w ∧ Words w ∧ Tab w
theorem Tabs.below {w w' : World} (h : Tabs w) (hb : Below w.heap.size w w') : Tabs w' := ⟨h.1.below hb, h.2.1.below hb, h.2.2.1.kept hb h.2.2.1.lt, h.2.2.2.1.kept hb h.2.2.2.1.lt, h.2.2.2.2.below hb⟩
theorem awake_tabs {w : World} (h : Tabs w) : Calls Tryz.prog 7 #[] w fun e w' => e = .returned (.bool true) ∧ Below w.heap.size w w' := awake6 w h.1 h.2.2.1 h.2.2.2.2
theorem file_tabs {w : World} (h : Tabs w) (l : List DT) (lo hi : Nat) (A : Option Addr) (c : Nat) (hl : l.length ≤ maxLen) (hd : DeclsIn w lo hi A l) (hhi : hi ≤ w.heap.size) :
    Calls Tryz.prog 8 #[.slice A l.length c] w (TextIs (declsB l) (fileX l) w) := printFile_any l lo hi A c w hl hd hhi h.1 h.2.1 h.2.2.1 h.2.2.2.1
theorem toI_ba (X : Tx) : bytesL ⟨X.toArray⟩ = toI X := by
  unfold bytesL toI
  simp

set_option maxHeartbeats 4000000 in
theorem once_bad (s : ByteArray) (w : World) (hs : s.size ≤ 4000) (hT : Tabs w) (h : Calls Tryz.prog 18 #[.string s] w (NoFile w)) :
    Calls Tryz.prog 5 #[.string s] w fun e w' => e = .returned (.bool true) ∧ Below w.heap.size w w' := by
  have hd : decide ((4000 : Int) < (s.size : Int)) = false := decide_eq_false (by omega)
  have H := Lib.hid h
  have HT := Lib.hid hT
  clear h hs hT
  go_enter Tryz.func5, Tryz.ntmps5
  go_wp2_with fail
  refine H.out.mono ?_; rintro e w1 ⟨a, E, hE, rfl, hb1⟩
  have hne : (E != 0) = true := by simpa using hE
  have HB1 := Lib.hid hb1
  clear hE hb1
  go_wp2_with fail
  refine (awake_tabs (HT.out.below HB1.out)).mono ?_; rintro e w2 ⟨rfl, hb2⟩
  go_wp2_with fail
  go_ret
  exact ⟨rfl, HB1.out.trans (hb2.mono HB1.out.size)⟩

set_option maxHeartbeats 8000000 in
theorem once_good (s : ByteArray) (w : World) (l : List DT) (n : Nat) (z : St) (hs : s.size ≤ 4000) (hT : Tabs w) (hz : z.e = 0) (hl : l.length ≤ 8192) (hg : ∀ x ∈ l, declB x = true) (h : Calls Tryz.prog 18 #[.string s] w (DeclsOut l z n w)) :
    Calls Tryz.prog 5 #[.string s] w fun e w' => e = .returned (.bool true) ∧ Below w.heap.size w w' := by
  have hd : decide ((4000 : Int) < (s.size : Int)) = false := decide_eq_false (by omega)
  have H := Lib.hid h
  have HT := Lib.hid hT
  have HZ := Lib.hid hz
  have HL := Lib.hid hl
  have HG := Lib.hid hg
  obtain ⟨P, hP⟩ := file_ex hg
  have HP := Lib.hid hP
  have HBB : Hid (declsB l = true) := Lib.hid (allB_of_mem hg)
  clear h hs hT hz hl hg hP
  go_enter Tryz.func5, Tryz.ntmps5
  go_wp2_with fail
  refine H.out.mono ?_; rintro e w1 ⟨hb1, hok, -⟩
  obtain ⟨A, c, rfl, hl1, hc1, hda⟩ := hok HZ.out
  clear hok
  have HB1 := Lib.hid hb1
  have HT1 := Lib.hid (HT.out.below hb1)
  have HPR := Lib.hid (file_tabs HT1.out l w.heap.size w1.heap.size A c (by have := HL.out; unfold maxLen; omega) (decls_in hda) (Nat.le_refl _))
  rw [HBB.out] at HPR
  unfold TextIs at HPR
  clear hb1 hl1 hc1 hda
  by_cases hX : (fileX l).length ≤ 65535
  · obtain ⟨u, hu⟩ : ∃ u, textS true (fileX l) = u := ⟨_, rfl⟩
    have hu2 : u = ⟨(fileX l).toArray⟩ := by rw [← hu]; unfold textS; rw [if_pos ⟨rfl, hX⟩]
    have hE0 : textE true (fileX l) = 0 := by unfold textE; rw [if_pos rfl, if_pos hX]
    have hub : bytesL u = toI (fileX l) := by rw [hu2]; exact toI_ba _
    have hus : u.size ≤ 65535 := by rw [hu2]; simpa [ByteArray.size] using hX
    rw [hu, hE0] at HPR
    obtain ⟨L, stop, E, ht1, ht2, ht3⟩ := file_tokens HP.out hub hus
    have HTK := Lib.hid (fun V => tokens_any (ht3 V))
    have HUB := Lib.hid hub
    have HUS := Lib.hid hus
    have HU := Lib.hid hu
    have HXX := Lib.hid hX
    clear ht3 hub hus hu hu2 hE0 hX
    obtain ⟨m, hm⟩ : ∃ m : Int, (if E = 0 then (L.length : Int) + 1 else 9999) = m := ⟨_, rfl⟩
    rw [hm] at HTK
    by_cases hbig : 8192 < m
    · have hdm : decide ((8192 : Int) < m) = true := decide_eq_true hbig
      clear hm hbig ht1 ht2
      go_wp2_with fail
      refine HPR.out.mono ?_; rintro e w2 ⟨rfl, hb2⟩
      have HB2 := Lib.hid (HB1.out.trans (hb2.mono HB1.out.size))
      clear hb2
      go_wp2_with fail
      refine (HTK.out _).mono ?_; rintro e w3 ⟨rfl, hb3⟩
      have HB3 := Lib.hid (HB2.out.trans (hb3.mono HB2.out.size))
      clear hb3
      go_wp2_with fail
      refine (awake_tabs (HT.out.below HB3.out)).mono ?_; rintro e w4 ⟨rfl, hb4⟩
      go_wp2_with fail
      go_ret
      exact ⟨rfl, HB3.out.trans (hb4.mono HB3.out.size)⟩
    · have hdm : decide ((8192 : Int) < m) = false := decide_eq_false hbig
      have hPl : P.length ≤ 8192 := by
        by_cases hE : E = 0
        · exact (ht1 hE).2
        · rw [if_neg hE] at hm; omega
      obtain ⟨l', z', hal, hfit, hgood, hz', hback⟩ := file_back2 HP.out HL.out hPl HUB.out HUS.out
      have hlen : l'.length = l.length := hal.length
      have hfx : fileX l' = fileX l := eqvD_file hal
      have HBA := Lib.hid hback
      have HZ2 := Lib.hid hz'
      have HFX := Lib.hid hfx
      have HBB2 : Hid (declsB l' = true) := Lib.hid (allB_of_mem hgood)
      have HLN := Lib.hid hlen
      have hse : (u.toList == u.toList) = true := str_eq_true rfl
      clear hm hbig ht1 ht2 hPl hal hfit hgood hz' hback hlen hfx
      go_wp2_with fail
      refine HPR.out.mono ?_; rintro e w2 ⟨rfl, hb2⟩
      have HB2 := Lib.hid (HB1.out.trans (hb2.mono HB1.out.size))
      clear hb2
      go_wp2_with fail
      refine (HTK.out _).mono ?_; rintro e w3 ⟨rfl, hb3⟩
      have HB3 := Lib.hid (HB2.out.trans (hb3.mono HB2.out.size))
      clear hb3
      go_wp2_with fail
      refine (HBA.out _).mono ?_; rintro e w4 ⟨hb4, hok, -⟩
      obtain ⟨B, c2, rfl, hl2, hc2, hda2⟩ := hok HZ2.out
      clear hok
      have HB4 := Lib.hid (HB3.out.trans (hb4.mono HB3.out.size))
      have HT4 := Lib.hid (HT.out.below HB4.out)
      have HPR2 := Lib.hid (file_tabs HT4.out l' w3.heap.size w4.heap.size B c2 (by have := HL.out; have := HLN.out; unfold maxLen; omega) (decls_in hda2) (Nat.le_refl _))
      rw [HBB2.out, HFX.out] at HPR2
      unfold TextIs at HPR2
      rw [HU.out, show textE true (fileX l) = 0 by unfold textE; rw [if_pos rfl, if_pos HXX.out]] at HPR2
      rw [HLN.out] at HPR2 ⊢
      clear hb4 hl2 hc2 hda2
      go_wp2_with fail
      refine HPR2.out.mono ?_; rintro e w5 ⟨rfl, hb5⟩
      have HB5 := Lib.hid (HB4.out.trans (hb5.mono HB4.out.size))
      clear hb5
      go_wp2_with fail
      refine (awake_tabs (HT.out.below HB5.out)).mono ?_; rintro e w6 ⟨rfl, hb6⟩
      go_wp2_with fail
      go_ret
      exact ⟨rfl, HB5.out.trans (hb6.mono HB5.out.size)⟩
  · have hS0 : textS true (fileX l) = ⟨#[]⟩ := by unfold textS; rw [if_neg (fun h => hX h.2)]
    have hE0 : textE true (fileX l) = 2 := by unfold textE; rw [if_pos rfl, if_neg hX]
    rw [hS0, hE0] at HPR
    clear hS0 hE0 hX
    go_wp2_with fail
    refine HPR.out.mono ?_; rintro e w2 ⟨rfl, hb2⟩
    have HB2 := Lib.hid (HB1.out.trans (hb2.mono HB1.out.size))
    clear hb2
    go_wp2_with fail
    refine (awake_tabs (HT.out.below HB2.out)).mono ?_; rintro e w3 ⟨rfl, hb3⟩
    go_wp2_with fail
    go_ret
    exact ⟨rfl, HB2.out.trans (hb3.mono HB2.out.size)⟩

theorem lex_end2 {s : ByteArray} {a c stop : Nat} {l : List Tk} {e : Int} (h : Lex s a c l stop e) (n : Nat) : EndAt (withEnd l n) := by
  have hk : ∀ x ∈ l, x.1 ≠ 5 := by
    induction h with
    | done _ => intro x hx; cases hx
    | long _ _ => intro x hx; cases hx
    | form _ _ _ => intro x hx; cases hx
    | tok _ _ hk _ ih =>
      intro x hx
      rcases List.mem_cons.1 hx with rfl | hx
      · exact tok_kind hk
      · exact ih x hx
  intro i hi
  rw [withEnd_length] at hi ⊢
  by_cases hlt : i < l.length
  · rw [withEnd_at hlt]
    have := hk _ (List.getElem_mem hlt)
    constructor
    · intro h; exact absurd h this
    · omega
  · have : i = l.length := by omega
    subst this
    rw [withEnd_last]
    simp

theorem once_walk (s : ByteArray) (w : World) (hs : s.size ≤ maxLen) (hT : Tabs w) :
    Calls Tryz.prog 5 #[.string s] w fun e w' => e = .returned (.bool true) ∧ Below w.heap.size w w' := by
  by_cases hz : 4000 < s.size
  · have hd : decide ((4000 : Int) < (s.size : Int)) = true := decide_eq_true (by omega)
    have HT := Lib.hid hT
    clear hz hT hs
    go_enter Tryz.func5, Tryz.ntmps5
    go_wp2_with fail
    refine (awake_tabs HT.out).mono ?_; rintro e w2 ⟨rfl, hb2⟩
    go_wp2_with fail
    go_ret
    exact ⟨rfl, hb2⟩
  · have hs4 : s.size ≤ 4000 := by omega
    have hs6 : s.size ≤ 65535 := by omega
    obtain ⟨ns, r, hp⟩ := parse_exists _ (bytesL s) (Nat.le_refl _) (bytesL_nonneg s)
    by_cases hr : r = []
    · subst hr
      obtain ⟨l, stop, E, hx⟩ := lex_ex s (by omega) s.size (skipL (bytesL s)) 0 (by have := skipL_le (bytesL s); rw [bytesL_length] at this; exact this) (by omega)
      by_cases hE : E = 0
      · subst hE
        have hLl : (withEnd l s.size).length = l.length + 1 := withEnd_length _ _
        obtain ⟨ld, s', hf, -⟩ := fileR_ex (lex_end2 hx s.size) s0 (by rw [hLl]; show 0 < _; omega)
        have HF := file_of (w := w) hs6 hp hx hf
        by_cases h0 : (endS (withEnd l s.size) s').e = 0
        · obtain ⟨hg, hl⟩ := fileR_good (names_end hx) hf (end_zero h0).1
          exact once_good s w ld s.size _ hs4 hT h0 hl hg HF
        · refine once_bad s w hs4 hT (HF.mono ?_)
          rintro e w' ⟨hb, -, he⟩
          exact ⟨_, _, h0, he h0, hb⟩
      · refine once_bad s w hs4 hT (file_err (a := stop) hE ((tokAll_any s ns w l stop E hs6 hp hx).mono ?_))
        rintro e w' ⟨v, rfl, ha, hb⟩
        obtain rfl := ha.2 hE
        exact ⟨rfl, hb⟩
    · exact once_bad s w hs4 hT (file_err (by decide) (tokAll_utf s ns r w hs6 hp hr))

end Go.Proofs.YteaojmcfppbgiaaGreatDoor
