/- A declaration's value; how it lies. -/
import Derived.Test.YtpahohbpilgdnaaDoorDecM
import Derived.Test.YtpahohbpilgdnaaDoorApp
namespace Go.Proofs.YtpahohbpilgdnaaDoor
open Go.RowKit
set_option linter.unusedVariables false
set_option maxRecDepth 100000

/-- Where a declaration's lists lie. -/
structure DP where
  A : Option Addr
  a : Nat
  F : Option Addr
  C : Nat
  B : Option Addr
  b : Nat
  D : Option Addr
  d : Nat
def declV (x : DT) (p : DP) : Value := .agg #[.int .i64 x.k, .int .i64 x.a, .string x.s, .slice p.A x.te.length p.a, .int .i64 x.t.k, .int .i64 x.t.a, .string x.t.s, .int .i64 x.t.n, .slice p.F x.t.l.length p.C, .slice p.B x.co.length p.b, .slice p.D x.ro.length p.d]
structure IsDecl (w : World) (lo hi : Nat) (x : DT) (p : DP) : Prop where
  hs : x.s.size ≤ maxLen
  la : x.te.length ≤ p.a
  ma : p.a ≤ maxLen
  lb : x.co.length ≤ p.b
  mb : p.b ≤ maxLen
  ld : x.ro.length ≤ p.d
  md : p.d ≤ maxLen
  te : BindsAt w lo hi p.A x.te
  t : IsNode w lo hi x.t p.F p.C
  co : BindsAt w lo hi p.B x.co
  ro : RowsAt w lo hi p.D x.ro
theorem IsDecl.kept {w w' : World} {lo hi B : Nat} {x : DT} {p : DP} (h : IsDecl w lo hi x p) (hb : Below B w w') (hB : hi ≤ B) : IsDecl w' lo hi x p :=
  ⟨h.hs, h.la, h.ma, h.lb, h.mb, h.ld, h.md, h.te.kept hb hB, h.t.kept hb hB, h.co.kept hb hB, h.ro.kept hb hB⟩

/-- The table of rooms. -/
def roomT : List (List Int) := [[0, 0, 0], [24, 16, 0], [24, 16, 0], [0, 0, 32]]
def rm (i j : Nat) : Int := (roomT.getD i []).getD j 0
def Rooms (w : World) : Prop := ∀ i j, i < 4 → j < 3 → w.cell? ⟨0, i * 3 + j, none⟩ = some (.int .i64 (rm i j))

/-- What is right; what is the same. -/
def roomB (k : Int) (x y z : Nat) : Bool := if k = 3 then decide (x ≤ 0) && (decide (y ≤ 0) && decide (z ≤ 32)) else decide (x ≤ 24) && (decide (y ≤ 16) && decide (z ≤ 0))
noncomputable def declB (x : DT) : Bool :=
  decide (1 ≤ x.k) && (decide (x.k ≤ 3) && (nmB x.s && (roomB x.k x.te.length x.co.length x.ro.length && (bindsB x.te && (exprB x.t && (bindsB x.co && rowsB x.ro))))))
def sameDc (x y : DT) : Bool := decide (x.k = y.k) && (decide (x.s = y.s) && (pairsX sameBd x.te y.te && (sameB x.t y.t && (pairsX sameBd x.co y.co && pairsX sameRw x.ro y.ro))))

end Go.Proofs.YtpahohbpilgdnaaDoor
