package print

import (
	"math"
	"slices"
	"strings"
	"testing"

	"scholium/api"
	"scholium/tree"
)

func ref(s string) tree.Node { return tree.Node{Kind: tree.EName, Name: s} }
func set(n int) tree.Node    { return tree.Node{Kind: tree.ESet, N: n} }
func pi(s string, a, b tree.Node) tree.Node {
	return tree.Node{Kind: tree.EPi, Name: s, Sub: []tree.Node{a, b}}
}
func lam(s string, a, b tree.Node) tree.Node {
	return tree.Node{Kind: tree.ELam, Name: s, Sub: []tree.Node{a, b}}
}
func app(f, a tree.Node) tree.Node             { return tree.Node{Kind: tree.EApp, Sub: []tree.Node{f, a}} }
func pvar(s string) tree.Node                  { return tree.Node{Kind: tree.PName, Name: s} }
func wild() tree.Node                          { return tree.Node{Kind: tree.PAny} }
func absurd() tree.Node                        { return tree.Node{Kind: tree.PNone} }
func dot(n tree.Node) tree.Node                { return tree.Node{Kind: tree.PDot, Sub: []tree.Node{n}} }
func con(s string, l ...tree.Node) tree.Node   { return tree.Node{Kind: tree.PCon, Name: s, Sub: l} }
func bind(s string, n tree.Node) tree.Bind     { return tree.Bind{Name: s, Type: n} }
func none(l ...tree.Node) tree.Row             { return tree.Row{Pats: l} }
func row(n tree.Node, l ...tree.Node) tree.Row { return tree.Row{Pats: l, Has: true, Body: n} }

func data(s string, of tree.Node, cons ...tree.Bind) tree.Decl {
	return tree.Decl{Kind: tree.DData, Name: s, Type: of, Cons: cons}
}

func record(s string, of tree.Node, fields ...tree.Bind) tree.Decl {
	return tree.Decl{Kind: tree.DRecord, Name: s, Type: of, Cons: fields}
}

func def(s string, of tree.Node, rows ...tree.Row) tree.Decl {
	return tree.Decl{Kind: tree.DDef, Name: s, Type: of, Rows: rows}
}

// over lays bindings ahead of a declaration's type.
func over(d tree.Decl, l ...tree.Bind) tree.Decl {
	d.Tele = l
	return d
}

// told checks what a call answers.
func told(t *testing.T, call, got string, e api.Errno, want string) {
	t.Helper()
	if got != want || e != api.OK {
		t.Errorf("%s: %.300q, %v; not %.300q", call, got, e, want)
	}
}

// refused checks that a call answers an error, and nothing beside it.
func refused(t *testing.T, call, got string, e, want api.Errno) {
	t.Helper()
	if got != "" || e != want {
		t.Errorf("%s: %.300q, %v; not %v", call, got, e, want)
	}
}

func tellsExpr(t *testing.T, n tree.Node, want string) {
	t.Helper()
	got, e := Expr(n)
	told(t, "Expr", got, e, want)
}

func tellsPattern(t *testing.T, n tree.Node, want string) {
	t.Helper()
	got, e := Pattern(n)
	told(t, "Pattern", got, e, want)
}

func tellsDecl(t *testing.T, d tree.Decl, want string) {
	t.Helper()
	got, e := Decl(d)
	told(t, "Decl", got, e, want)
	got, e = File([]tree.Decl{d})
	told(t, "File", got, e, want)
}

func TestExprs(t *testing.T) { // P6.1
	a, b, c, f, x := ref("A"), ref("B"), ref("C"), ref("f"), ref("x")
	for _, s := range []struct {
		n    tree.Node
		want string
	}{
		{x, "x"},
		{ref("_x'1"), "_x'1"},
		{ref("ℕ"), "ℕ"},
		{ref(strings.Repeat("a", api.MaxName)), strings.Repeat("a", api.MaxName)},
		{set(0), "Set"},
		{set(1), "Set 1"},
		{set(api.MaxLevel), "Set 7"},
		{app(f, x), "f x"},
		{app(app(f, x), a), "f x A"},
		{app(f, app(f, x)), "f (f x)"},
		{app(f, app(ref("g"), x)), "f (g x)"},
		{app(f, set(0)), "f Set"},
		{app(app(f, set(3)), x), "f Set 3 x"},
		{app(set(0), set(1)), "Set Set 1"},
		{app(set(1), set(0)), "Set 1 Set"},
		{app(f, pi("_", a, b)), "f (A -> B)"},
		{app(pi("_", a, b), x), "(A -> B) x"},
		{app(f, lam("x", a, x)), `f (\ (x : A) -> x)`},
		{app(lam("x", a, x), x), `(\ (x : A) -> x) x`},
		{pi("_", a, b), "A -> B"},
		{pi("_", pi("_", a, b), c), "(A -> B) -> C"},
		{pi("_", a, pi("_", b, c)), "A -> B -> C"},
		{pi("_", app(f, x), app(f, x)), "f x -> f x"},
		{pi("_", set(1), set(2)), "Set 1 -> Set 2"},
		{pi("x", a, b), "(x : A) -> B"},
		{pi("x", a, app(f, x)), "(x : A) -> f x"},
		{pi("x", pi("_", a, b), c), "(x : A -> B) -> C"},
		{pi("x", pi("y", a, b), c), "(x : (y : A) -> B) -> C"},
		{pi("x", set(0), pi("_", x, x)), "(x : Set) -> x -> x"},
		{pi("_", pi("x", a, b), c), "((x : A) -> B) -> C"},
		{pi("_", lam("x", a, b), c), `(\ (x : A) -> B) -> C`},
		{lam("x", a, x), `\ (x : A) -> x`},
		{lam("_", a, x), `\ (_ : A) -> x`},
		{lam("x", a, lam("y", b, app(f, x))), `\ (x : A) -> \ (y : B) -> f x`},
		{lam("x", lam("y", a, b), c), `\ (x : \ (y : A) -> B) -> C`},
		{lam("x", a, pi("_", a, b)), `\ (x : A) -> A -> B`},
	} {
		tellsExpr(t, s.n, s.want)
	}
}

// sample is an expression, its text at level 0, and the least level at which it stands in parentheses.
type sample struct {
	n      tree.Node
	text   string
	closed int
}

// at gives a sample's text at a level.
func (s sample) at(level int) string {
	if level >= s.closed {
		return "(" + s.text + ")"
	}
	return s.text
}

const never = 3

// alone are samples without parts that could stand in parentheses, one of each kind and more.
func alone() []sample {
	a, b := ref("A"), ref("B")
	return []sample{
		{a, "A", never}, {set(0), "Set", never}, {set(5), "Set 5", never}, {app(a, b), "A B", 2},
		{pi("_", a, b), "A -> B", 1}, {pi("x", a, b), "(x : A) -> B", 1},
		{lam("_", a, b), `\ (_ : A) -> B`, 1}, {lam("x", a, b), `\ (x : A) -> B`, 1},
	}
}

// around gives all samples that have s as a part, at each level that there is.
func around(s sample) []sample {
	c := ref("C")
	return []sample{
		{pi("_", s.n, c), s.at(1) + " -> C", 1}, {pi("_", c, s.n), "C -> " + s.at(0), 1},
		{pi("y", s.n, c), "(y : " + s.at(0) + ") -> C", 1}, {pi("y", c, s.n), "(y : C) -> " + s.at(0), 1},
		{lam("_", s.n, c), `\ (_ : ` + s.at(0) + ") -> C", 1}, {lam("_", c, s.n), `\ (_ : C) -> ` + s.at(0), 1},
		{lam("y", s.n, c), `\ (y : ` + s.at(0) + ") -> C", 1}, {lam("y", c, s.n), `\ (y : C) -> ` + s.at(0), 1},
		{app(s.n, c), s.at(1) + " C", 2}, {app(c, s.n), "C " + s.at(2), 2},
	}
}

// TestLevels holds each kind at each level against its text, three levels deep, wherever an expression may stand.
func TestLevels(t *testing.T) { // P6.1
	l := alone()
	for range 4 {
		var next []sample
		for _, s := range l {
			tellsExpr(t, s.n, s.at(0))
			tellsPattern(t, dot(s.n), "."+s.at(2))
			tellsPattern(t, con("c", wild(), dot(s.n), absurd()), "(c _ ."+s.at(2)+" ())")
			if len(l) < 1000 {
				standsInDecls(t, s)
			}
			next = append(next, around(s)...)
		}
		l = next
	}
}

// standsInDecls checks a sample's text in each place of a declaration.
func standsInDecls(t *testing.T, s sample) {
	t.Helper()
	c := ref("C")
	tellsDecl(t, over(data("D", c), bind("x", s.n)), "data D (x : "+s.at(0)+") : C {\n}\n")
	tellsDecl(t, over(record("D", c), bind("y", c), bind("x", s.n)), "record D (y : C) (x : "+s.at(0)+") : C {\n}\n")
	tellsDecl(t, data("D", s.n), "data D : "+s.at(0)+" {\n}\n")
	tellsDecl(t, record("D", s.n), "record D : "+s.at(0)+" {\n}\n")
	tellsDecl(t, def("D", s.n), "def D : "+s.at(0)+" {\n}\n")
	tellsDecl(t, data("D", c, bind("x", s.n)), "data D : C {\n  x : "+s.at(0)+";\n}\n")
	tellsDecl(t, record("D", c, bind("y", c), bind("x", s.n)), "record D : C {\n  y : C;\n  x : "+s.at(0)+";\n}\n")
	tellsDecl(t, def("D", c, row(s.n)), "def D : C {\n  = "+s.at(0)+";\n}\n")
	tellsDecl(t, def("D", c, row(s.n, dot(s.n))), "def D : C {\n  ."+s.at(2)+" = "+s.at(0)+";\n}\n")
}

func TestPatterns(t *testing.T) { // P6.1
	for _, s := range []struct {
		n    tree.Node
		want string
	}{
		{pvar("n"), "n"},
		{pvar("ℕ'"), "ℕ'"},
		{wild(), "_"},
		{absurd(), "()"},
		{dot(ref("x")), ".x"},
		{dot(set(0)), ".Set"},
		{dot(set(2)), ".Set 2"},
		{dot(app(ref("suc"), ref("x"))), ".(suc x)"},
		{dot(pi("_", ref("A"), ref("B"))), ".(A -> B)"},
		{dot(pi("x", ref("A"), ref("B"))), ".((x : A) -> B)"},
		{dot(lam("x", ref("A"), ref("x"))), `.(\ (x : A) -> x)`},
		{con("suc", pvar("n")), "(suc n)"},
		{con("suc", wild()), "(suc _)"},
		{con("suc", absurd()), "(suc ())"},
		{con("suc", dot(ref("x"))), "(suc .x)"},
		{con("suc", con("suc", pvar("n"))), "(suc (suc n))"},
		{con("c", pvar("a"), wild(), absurd(), dot(ref("b")), con("d", pvar("e")), pvar("f")), "(c a _ () .b (d e) f)"},
		{con("c", con("d", pvar("a"), pvar("b")), con("e", wild())), "(c (d a b) (e _))"},
	} {
		tellsPattern(t, s.n, s.want)
	}
}

// decls are right declarations, and their texts.
func decls() ([]tree.Decl, []string) {
	nat, a, s := ref("Nat"), ref("A"), set(0)
	var l []tree.Decl
	var texts []string
	add := func(d tree.Decl, text string) {
		l, texts = append(l, d), append(texts, text)
	}
	add(data("Nat", s, bind("zero", nat), bind("suc", pi("_", nat, nat))), "data Nat : Set {\n  zero : Nat;\n  suc : Nat -> Nat;\n}\n")
	add(data("Bot", set(2)), "data Bot : Set 2 {\n}\n")
	add(over(data("D", pi("_", nat, s), bind("c", app(app(ref("D"), a), ref("n")))), bind("A", s), bind("n", pi("x", a, nat))),
		"data D (A : Set) (n : (x : A) -> Nat) : Nat -> Set {\n  c : D A n;\n}\n")
	add(record("Unit", s), "record Unit : Set {\n}\n")
	add(over(record("P", set(1), bind("fst", a), bind("snd", pi("_", app(ref("fst"), a), a))), bind("A", set(1))),
		"record P (A : Set 1) : Set 1 {\n  fst : A;\n  snd : fst A -> A;\n}\n")
	add(def("f", pi("_", nat, nat), row(ref("zero"), pvar("zero")), row(app(ref("f"), ref("n")), con("suc", pvar("n")))),
		"def f : Nat -> Nat {\n  zero = zero;\n  (suc n) = f n;\n}\n")
	add(def("f", nat), "def f : Nat {\n}\n")
	add(def("f", nat, none()), "def f : Nat {\n  ;\n}\n")
	add(def("f", nat, row(a)), "def f : Nat {\n  = A;\n}\n")
	add(def("f", nat, none(absurd())), "def f : Nat {\n  () ;\n}\n")
	add(def("f", nat, none(), none(pvar("x"), wild()), row(a), row(pi("_", a, a), dot(a), con("c", wild()), wild()), none()),
		"def f : Nat {\n  ;\n  x _ ;\n  = A;\n  .A (c _) _ = A -> A;\n  ;\n}\n")
	add(over(data("D", s, slices.Repeat([]tree.Bind{bind("c", a)}, api.MaxCons)...), slices.Repeat([]tree.Bind{bind("x", a)}, api.MaxTele)...),
		"data D"+strings.Repeat(" (x : A)", api.MaxTele)+" : Set {\n"+strings.Repeat("  c : A;\n", api.MaxCons)+"}\n")
	full := row(a, slices.Repeat([]tree.Node{wild()}, api.MaxTele)...)
	add(def("f", a, slices.Repeat([]tree.Row{full}, api.MaxRows)...),
		"def f : A {\n"+strings.Repeat("  "+strings.Repeat("_ ", api.MaxTele)+"= A;\n", api.MaxRows)+"}\n")
	return l, texts
}

func TestDecls(t *testing.T) { // P6.1
	l, texts := decls()
	for i, d := range l {
		tellsDecl(t, d, texts[i])
	}
}

func TestFiles(t *testing.T) { // P6.1
	l, texts := decls()
	for i := range len(l) + 1 {
		got, e := File(l[:i])
		told(t, "File", got, e, strings.Join(texts[:i], ""))
	}
	got, e := File(nil)
	told(t, "File", got, e, "")
	got, e = File([]tree.Decl{l[1], l[0], l[1]})
	told(t, "File", got, e, texts[1]+texts[0]+texts[1])
}

func TestOffsets(t *testing.T) { // P6.1: where something stood is not told
	x := tree.Node{Kind: tree.EName, Name: "x", At: 7}
	tellsExpr(t, tree.Node{Kind: tree.EApp, At: -3, Sub: []tree.Node{x, x}}, "x x")
	tellsPattern(t, tree.Node{Kind: tree.PDot, At: math.MaxInt, Sub: []tree.Node{x}}, ".x")
	tellsDecl(t, tree.Decl{Kind: tree.DDef, Name: "f", At: 9, Type: x, Rows: []tree.Row{{At: 8, Has: true, Body: x}}}, "def f : x {\n  = x;\n}\n")
}

func TestNumber(t *testing.T) { // P6.1
	for n, want := range map[int]string{
		0: "0", 1: "1", 7: "7", 9: "9", 10: "10", 100: "100", 1234567890: "1234567890", -1: "-1", -9: "-9", -10: "-10", -205: "-205",
		math.MaxInt: "9223372036854775807", math.MinInt: "-9223372036854775808", math.MinInt + 1: "-9223372036854775807",
	} {
		if got := Number(n); got != want {
			t.Errorf("Number(%s): %s", want, got)
		}
	}
	for n := -1200; n <= 1200; n++ {
		value, sign := 0, 1
		for _, c := range Number(n) {
			if c == '-' && value == 0 && sign == 1 {
				sign = -1
			} else {
				value = 10*value + int(c-'0')
			}
		}
		if value*sign != n {
			t.Errorf("Number: %s, not %d in all", Number(n), n)
		}
	}
}

// TestHandedIn checks that what is handed in, and what lies behind a list's end, stays as it was, and is asked anew each time.
func TestHandedIn(t *testing.T) { // P6.1
	subs := []tree.Node{ref("f"), ref("x"), ref("behind")}
	n := tree.Node{Kind: tree.EApp, Sub: subs[:2]}
	l, _ := decls()
	copies, _ := decls()
	list := append(l[:len(l):len(l)], tree.Decl{Name: "behind"})
	first, _ := Expr(n)
	if _, e := File(list[:len(l)]); e != api.OK {
		t.Errorf("%v", e)
	}
	if !tree.Same(n, app(ref("f"), ref("x"))) || subs[2].Name != "behind" || !slices.EqualFunc(l, copies, tree.SameDecl) || list[len(l)].Name != "behind" {
		t.Errorf("%v %v", subs, list)
	}
	subs[1] = set(3)
	tellsExpr(t, n, "f Set 3")
	if first != "f x" {
		t.Errorf("%q", first)
	}
}
