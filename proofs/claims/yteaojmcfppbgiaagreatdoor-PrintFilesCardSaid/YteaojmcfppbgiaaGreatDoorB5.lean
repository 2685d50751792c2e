/- parse: a variable with its type, and what stands beneath it; a name with the patterns behind it. -/
import Derived.Test.YteaojmcfppbgiaaGreatDoorB4
import Derived.Test.YteaojmcfppbgiaaGreatDoorB3
import Derived.Deep.RegionHeld3
import Derived.ProofKit
namespace Go.Proofs.YteaojmcfppbgiaaGreatDoor
open Go.RowKit
set_option linter.unusedVariables false
set_option maxRecDepth 100000

theorem Rd.txt {w : World} {r g : Nat} {L : List Tk} {cap : Nat} {s : St} (h : Rd w r g L cap s) (k : Nat) : (tk L k).2.1.size ≤ maxLen := by
  by_cases hk : k < L.length
  · exact h.toks.txt k hk
  · have e : tk L k = (0, ⟨#[]⟩, 0) := by unfold tk; rw [List.getD_eq_getElem?_getD, List.getElem?_eq_none (by omega)]; rfl
    rw [e]; decide

end Go.Proofs.YteaojmcfppbgiaaGreatDoor

/- parse: a name with the patterns behind it. -/
namespace Go.Proofs.YteaojmcfppbgiaaGreatDoor
open Go.RowKit
set_option linter.unusedVariables false
set_option maxRecDepth 100000

end Go.Proofs.YteaojmcfppbgiaaGreatDoor

/- parse: an application, from the left on. -/
namespace Go.Proofs.YteaojmcfppbgiaaGreatDoor
open Go.RowKit
set_option linter.unusedVariables false
set_option maxRecDepth 100000

def mkApp (n a : RT) : RT := .node 5 n.a ⟨#[]⟩ 0 [n, a]
end Go.Proofs.YteaojmcfppbgiaaGreatDoor

/- What parse reads, as a relation over the tokens: each step of the grammar; and that the program's functions do just this. -/
namespace Go.Proofs.YteaojmcfppbgiaaGreatDoor
open Go.RowKit
set_option linter.unusedVariables false
set_option maxRecDepth 100000

/-- What is being read. -/
inductive Job
  | expr
  | bound (kd a : Int)
  | app
  | atom
  | atoms (n : Nat)
  | pat
  | encl
  | appl (a : Int)
  | pats (n : Nat)
def openT : ByteArray := ⟨#[40]⟩
def closeT : ByteArray := ⟨#[41]⟩
def colonT : ByteArray := ⟨#[58]⟩
def arrowT : ByteArray := ⟨#[45, 62]⟩
def lamT : ByteArray := ⟨#[92]⟩
def dotT : ByteArray := ⟨#[46]⟩
def setT : ByteArray := ⟨#[83, 101, 116]⟩
inductive RE (L : List Tk) : Job → St → List RT → St → Prop
  | lam {s s2 : St} {t : RT} : mkB L s.k lamT = true → RE L (.bound 4 (tk L s.k).2.2) (stepS L s) [t] s2 → RE L .expr s [t] s2
  | pi {s s2 : St} {t : RT} : mkB L s.k lamT = false → fnB L s.k = true → RE L (.bound 3 (tk L s.k).2.2) s [t] s2 → RE L .expr s [t] s2
  | plain {s s2 : St} {t : RT} : mkB L s.k lamT = false → fnB L s.k = false → RE L .app s [t] s2 → mkB L s2.k arrowT = false → RE L .expr s [t] s2
  | arr {s s2 s3 : St} {t u : RT} : mkB L s.k lamT = false → fnB L s.k = false → RE L .app s [t] s2 → mkB L s2.k arrowT = true → RE L .expr (stepS L s2) [u] s3 → RE L .expr s [.node 3 t.a ⟨#[95]⟩ 0 [t, u]] s3
  | bound {kd a : Int} {s s1 s2 s3 s4 s5 s6 s7 : St} {z : Nat} {t u : RT} : takeS L openT s = s1 → (varS L s1).k = z → stepS L (varS L s1) = s2 → takeS L colonT s2 = s3 → RE L .expr s3 [t] s4 → takeS L closeT s4 = s5 → takeS L arrowT s5 = s6 → RE L .expr s6 [u] s7 →
      RE L (.bound kd a) s [.node kd a (tk L z).2.1 0 [t, u]] s7
  | app {s s1 s2 : St} {t : RT} {l : List RT} : RE L .atom s [t] s1 → RE L (.atoms 0) s1 l s2 → RE L .app s [l.foldl mkApp t] s2
  | atomsStop {n : Nat} {s : St} : ¬ (s.e = 0 ∧ agB L s.k = true) → RE L (.atoms n) s [] s
  | atomsFull {n : Nat} {s : St} : s.e = 0 → agB L s.k = true → n = 8192 → RE L (.atoms n) s [] (failS L s (tk L s.k).2.2 2)
  | atomsNext {n : Nat} {s s1 s2 : St} {t : RT} {l : List RT} : s.e = 0 → agB L s.k = true → n ≠ 8192 → RE L .atom s [t] s1 → RE L (.atoms (n + 1)) s1 l s2 → RE L (.atoms n) s (t :: l) s2
  | atomName {s : St} : nmdB L s.k = true → RE L .atom s [.node 1 (tk L s.k).2.2 (tk L s.k).2.1 0 []] (stepS L s)
  | atomSet {s s2 : St} {v : Nat} : nmdB L s.k = false → kyB L s.k setT = true → LevelR L (stepS L s) v s2 → RE L .atom s [.node 2 (tk L s.k).2.2 ⟨#[]⟩ v []] s2
  | atomPar {s s2 : St} {t : RT} : nmdB L s.k = false → kyB L s.k setT = false → mkB L s.k openT = true → RE L .expr (stepS L s) [t] s2 → RE L .atom s [t] (takeS L closeT s2)
  | atomBad {s : St} : nmdB L s.k = false → kyB L s.k setT = false → mkB L s.k openT = false → RE L .atom s [.node 0 0 ⟨#[]⟩ 0 []] (badS L s)
  | patName {s : St} : nmdB L s.k = true → RE L .pat s [.node 6 (tk L s.k).2.2 (tk L s.k).2.1 0 []] (stepS L s)
  | patAny {s : St} : nmdB L s.k = false → loB L s.k = true → RE L .pat s [.node 7 (tk L s.k).2.2 ⟨#[]⟩ 0 []] (stepS L s)
  | patDot {s s2 : St} {t : RT} : nmdB L s.k = false → loB L s.k = false → mkB L s.k dotT = true → RE L .atom (stepS L s) [t] s2 → RE L .pat s [.node 10 (tk L s.k).2.2 ⟨#[]⟩ 0 [t]] s2
  | patPar {s s2 : St} {t : RT} : nmdB L s.k = false → loB L s.k = false → mkB L s.k dotT = false → mkB L s.k openT = true → RE L .encl s [t] s2 → RE L .pat s [t] s2
  | patBad {s : St} : nmdB L s.k = false → loB L s.k = false → mkB L s.k dotT = false → mkB L s.k openT = false → RE L .pat s [.node 0 0 ⟨#[]⟩ 0 []] (badS L s)
  | encName {s s2 : St} {t : RT} : nmdB L (stepS L s).k = true → RE L (.appl (tk L s.k).2.2) (stepS L s) [t] s2 → RE L .encl s [t] (takeS L closeT s2)
  | encNone {s : St} : nmdB L (stepS L s).k = false → mkB L (stepS L s).k closeT = true → RE L .encl s [.node 9 (tk L s.k).2.2 ⟨#[]⟩ 0 []] (takeS L closeT (stepS L s))
  | encPat {s s2 : St} {t : RT} : nmdB L (stepS L s).k = false → mkB L (stepS L s).k closeT = false → RE L .pat (stepS L s) [t] s2 → RE L .encl s [t] (takeS L closeT s2)
  | applNil {a : Int} {s s2 : St} {l : List RT} : l.length = 0 → RE L (.pats 0) (stepS L s) l s2 → RE L (.appl a) s [.node 6 (tk L s.k).2.2 (tk L s.k).2.1 0 []] s2
  | applCons {a : Int} {s s2 : St} {l : List RT} : l.length ≠ 0 → RE L (.pats 0) (stepS L s) l s2 → RE L (.appl a) s [.node 8 a (tk L s.k).2.1 0 l] s2
  | patsStop {n : Nat} {s : St} : ¬ (s.e = 0 ∧ ptB L s.k = true) → RE L (.pats n) s [] s
  | patsFull {n : Nat} {s : St} : s.e = 0 → ptB L s.k = true → n = 8192 → RE L (.pats n) s [] (failS L s (tk L s.k).2.2 2)
  | patsNext {n : Nat} {s s1 s2 : St} {t : RT} {l : List RT} : s.e = 0 → ptB L s.k = true → n ≠ 8192 → RE L .pat s [t] s1 → RE L (.pats (n + 1)) s1 l s2 → RE L (.pats n) s (t :: l) s2

end Go.Proofs.YteaojmcfppbgiaaGreatDoor
