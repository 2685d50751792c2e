/- The makers of terms: package term's and the document's; the terms that they make. -/
import Derived.Test.YtofmoggjpgjdgaaDoorM3
import Derived.Test.YtofmoggjpgjdgaaDoorM1
namespace Go.Proofs.YtofmoggjpgjdgaaDoor
open Go.RowKit
set_option linter.unusedVariables false
set_option maxRecDepth 100000

theorem leaf_in (w : World) (P : Nat → Prop) (k n : Int) : TermIn w P (.node k n []) none 0 :=
  TermIn.mk k n [] none 0 (fun _ => none) (fun _ => 0) (by simp) (by decide) (fun h => by simp at h) (fun i h => by simp at h)
theorem one_in {w : World} {P : Nat → Prop} {t : TM} {A : Option Addr} {cap g : Nat} {e : TypeId} (ht : TermIn w P t A cap) (hb : Bk w g e #[.int .i64 t.k, .int .i64 t.n, .slice A t.l.length cap]) (hg : P g) (k n : Int) : TermIn w P (.node k n [t]) (some ⟨g, 0, none⟩) 1 := by
  refine TermIn.mk k n [t] _ 1 (fun _ => A) (fun _ => cap) (by simp) (by decide) (fun _ => ⟨g, 0, rfl, hg, fun i h => ?_⟩) (fun i h => ?_)
  · obtain rfl : i = 0 := by simp at h; omega
    exact ⟨hb.cell 0, hb.cell 1, hb.cell 2⟩
  · obtain rfl : i = 0 := by simp at h; omega
    exact ht
theorem two_in {w : World} {P : Nat → Prop} {t u : TM} {A A' : Option Addr} {cap cap' g : Nat} {e : TypeId} (ht : TermIn w P t A cap) (hu : TermIn w P u A' cap')
    (hb : Bk w g e #[.int .i64 t.k, .int .i64 t.n, .slice A t.l.length cap, .int .i64 u.k, .int .i64 u.n, .slice A' u.l.length cap']) (hg : P g) (k n : Int) : TermIn w P (.node k n [t, u]) (some ⟨g, 0, none⟩) 2 := by
  refine TermIn.mk k n [t, u] _ 2 (fun i => if i = 0 then A else A') (fun i => if i = 0 then cap else cap') (by simp) (by decide) (fun _ => ⟨g, 0, rfl, hg, fun i h => ?_⟩) (fun i h => ?_)
  · have h2 : i = 0 ∨ i = 1 := by simp at h; omega
    rcases h2 with rfl | rfl
    · exact ⟨hb.cell 0, hb.cell 1, hb.cell 2⟩
    · exact ⟨hb.cell 3, hb.cell 4, hb.cell 5⟩
  · have h2 : i = 0 ∨ i = 1 := by simp at h; omega
    rcases h2 with rfl | rfl
    · exact ht
    · exact hu
/-- What a call that makes a term of two leaves. -/
def TwoIs (k : Int) (cs : Array Value) (w : World) (e : Ending) (w' : World) : Prop := ∃ g, e = .returned (.agg #[.int .i64 k, .int .i64 0, .slice (some ⟨g, 0, none⟩) 2 2]) ∧ w.heap.size ≤ g ∧ Bk w' g 24 cs ∧ Below w.heap.size w w'
theorem Bk.last (w : World) (e : TypeId) (cs : Array Value) {g : Nat} (h : w.heap.size = g) : Bk (w.alloc (.cells cs e)) g e cs := by subst h; exact Bk.new w e cs

theorem mk_var (n : Int) (w : World) : Calls Tryd.prog 50 #[.int .i64 n] w fun e w' => e = .returned (.agg #[.int .i64 1, .int .i64 n, .slice none 0 0]) ∧ w' = w.alloc (.cells #[.int .i64 1, .int .i64 n, .slice none 0 0] 24) := by
  go_enter Tryd.func50, Tryd.ntmps50
  go_wp2_with fail
  exact bodyPost_ret (v := .agg #[.int .i64 1, .int .i64 n, .slice none 0 0]) (by simp [results, Tryd.results50, go_sem]) rfl ⟨rfl, rfl⟩

theorem mk_leaf (k n : Int) (w : World) : Calls Tryd.prog 75 #[.int .i64 k, .int .i64 n] w fun e w' => e = .returned (.agg #[.int .i64 k, .int .i64 n, .slice none 0 0]) ∧ w' = w.alloc (.cells #[.int .i64 k, .int .i64 n, .slice none 0 0] 24) := by
  go_enter Tryd.func75, Tryd.ntmps75
  go_wp2_with fail
  exact bodyPost_ret (v := .agg #[.int .i64 k, .int .i64 n, .slice none 0 0]) (by simp [results, Tryd.results75, go_sem]) rfl ⟨rfl, rfl⟩

theorem mk_pi (k k' n n' : Int) (A A' : Option Addr) (m m' cap cap' : Nat) (w : World) : Calls Tryd.prog 30 #[.agg #[.int .i64 k, .int .i64 n, .slice A m cap], .agg #[.int .i64 k', .int .i64 n', .slice A' m' cap']] w (TwoIs 3 #[.int .i64 k, .int .i64 n, .slice A m cap, .int .i64 k', .int .i64 n', .slice A' m' cap'] w) := by
  go_enter Tryd.func30, Tryd.ntmps30
  go_wp2_with fail
  refine bodyPost_ret (v := .agg #[.int .i64 3, .int .i64 0, .slice (some ⟨w.heap.size + 1 + 1 + 1, 0, none⟩) 2 2]) (by simp [results, Tryd.results30, go_sem]) rfl ⟨_, rfl, by omega, Bk.last _ _ _ (by simp), ?_⟩
  exact ((((Below.refl _ _).alloc (Nat.le_refl _) _).alloc (by simp) _).alloc (by simp; omega) _).alloc (by simp; omega) _

theorem mk_lam (k k' n n' : Int) (A A' : Option Addr) (m m' cap cap' : Nat) (w : World) : Calls Tryd.prog 32 #[.agg #[.int .i64 k, .int .i64 n, .slice A m cap], .agg #[.int .i64 k', .int .i64 n', .slice A' m' cap']] w (TwoIs 4 #[.int .i64 k, .int .i64 n, .slice A m cap, .int .i64 k', .int .i64 n', .slice A' m' cap'] w) := by
  go_enter Tryd.func32, Tryd.ntmps32
  go_wp2_with fail
  refine bodyPost_ret (v := .agg #[.int .i64 4, .int .i64 0, .slice (some ⟨w.heap.size + 1 + 1 + 1, 0, none⟩) 2 2]) (by simp [results, Tryd.results32, go_sem]) rfl ⟨_, rfl, by omega, Bk.last _ _ _ (by simp), ?_⟩
  exact ((((Below.refl _ _).alloc (Nat.le_refl _) _).alloc (by simp) _).alloc (by simp; omega) _).alloc (by simp; omega) _

theorem mk_two (kk : Int) (k k' n n' : Int) (A A' : Option Addr) (m m' cap cap' : Nat) (w : World) : Calls Tryd.prog 31 #[.int .i64 kk, .agg #[.int .i64 k, .int .i64 n, .slice A m cap], .agg #[.int .i64 k', .int .i64 n', .slice A' m' cap']] w (TwoIs kk #[.int .i64 k, .int .i64 n, .slice A m cap, .int .i64 k', .int .i64 n', .slice A' m' cap'] w) := by
  go_enter Tryd.func31, Tryd.ntmps31
  go_wp2_with fail
  refine bodyPost_ret (v := .agg #[.int .i64 kk, .int .i64 0, .slice (some ⟨w.heap.size + 1 + 1 + 1, 0, none⟩) 2 2]) (by simp [results, Tryd.results31, go_sem]) rfl ⟨_, rfl, by omega, Bk.last _ _ _ (by simp), ?_⟩
  exact ((((Below.refl _ _).alloc (Nat.le_refl _) _).alloc (by simp) _).alloc (by simp; omega) _).alloc (by simp; omega) _

end Go.Proofs.YtofmoggjpgjdgaaDoor
