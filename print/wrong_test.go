package print

import (
	"math"
	"slices"
	"strings"
	"testing"

	"scholium/api"
	"scholium/tree"
)

// names are names whose texts, with a blank between, have n bytes in all; the longest of them have a sign of several bytes.
func names(n int) []string {
	var l []string
	for n > 0 {
		k := n
		if n > api.MaxName {
			k = min(api.MaxName, n-2)
		}
		s := strings.Repeat("a", k)
		if k == api.MaxName {
			s = strings.Repeat("ℕ", k/3) + strings.Repeat("a", k%3)
		}
		l = append(l, s)
		n -= k + 1
	}
	return l
}

// applied is an application of a name to names, with a text of n bytes.
func applied(n int) tree.Node {
	l := names(n)
	f := ref(l[0])
	for _, s := range l[1:] {
		f = app(f, ref(s))
	}
	return f
}

// longExpr is an expression with a text of n bytes, from 1000 on: a name with groups of names behind it.
func longExpr(n int) tree.Node {
	f := ref("f")
	for n--; n > 0; {
		k := 900
		if n < 1000 {
			k = n
		}
		f = app(f, applied(k-len(" ()")))
		n -= k
	}
	return f
}

// longPattern is a pattern with a text of n bytes.
func longPattern(n int) tree.Node {
	l := names(n - 2)
	p := tree.Node{Kind: tree.PCon, Name: l[0]}
	for _, s := range l[1:] {
		p.Sub = append(p.Sub, pvar(s))
	}
	return p
}

// longDecls are declarations with a text of n bytes, each of another kind, or long at another place.
func longDecls(n int) []tree.Decl {
	a := ref("A")
	rest := func(s string) int { return n - len(s) }
	return []tree.Decl{
		data("D", longExpr(rest("data D :  {\n}\n"))),
		over(data("D", a), bind("x", longExpr(rest("data D (x : ) : A {\n}\n")))),
		data("D", a, bind("x", a), bind("x", longExpr(rest("data D : A {\n  x : A;\n  x : ;\n}\n")))),
		record("D", a, bind("x", longExpr(rest("record D : A {\n  x : ;\n}\n")))),
		def("D", a, row(longExpr(rest("def D : A {\n  = ;\n}\n")))),
		def("D", a, none(), none(longPattern(rest("def D : A {\n  ;\n   ;\n}\n")))),
		def("D", a, none(wild(), longPattern(rest("def D : A {\n  _  ;\n}\n")))),
	}
}

func TestLong(t *testing.T) { // P6.1: a text may have MaxText bytes, and no more
	for n := api.MaxText - 21; n <= api.MaxText+21; n++ {
		got, e := Expr(longExpr(n))
		measured(t, "Expr", got, e, n)
		got, e = Pattern(longPattern(n))
		measured(t, "Pattern", got, e, n)
		got, e = Pattern(dot(longExpr(n - len(".()"))))
		measured(t, "Pattern", got, e, n)
		for _, d := range longDecls(n) {
			got, e = Decl(d)
			measured(t, "Decl", got, e, n)
			got, e = File([]tree.Decl{d})
			measured(t, "File", got, e, n)
		}
	}
}

// measured checks the answer to what has a text of n bytes.
func measured(t *testing.T, call, got string, e api.Errno, n int) {
	t.Helper()
	if n > api.MaxText {
		refused(t, call, got, e, api.ErrLong)
	} else if len(got) != n || e != api.OK {
		t.Errorf("%s: %d bytes, %v; not %d", call, len(got), e, n)
	}
}

func TestLongFiles(t *testing.T) { // P6.1: the declarations' texts together
	small := data("D", ref("A"))
	size := len("data D : A {\n}\n")
	for n := api.MaxText - 3; n <= api.MaxText+3; n++ {
		for _, d := range longDecls(n - 2*size) {
			for _, l := range [][]tree.Decl{{d, small, small}, {small, d, small}, {small, small, d}} {
				got, e := File(l)
				measured(t, "File", got, e, n)
			}
		}
		half := longDecls(n / 2)
		for i, d := range longDecls(n - n/2) {
			got, e := File([]tree.Decl{half[i], d})
			measured(t, "File", got, e, n)
		}
	}
	for k := api.MaxText/size - 2; k <= api.MaxText/size+2; k++ {
		got, e := File(slices.Repeat([]tree.Decl{small}, k))
		measured(t, "File", got, e, k*size)
	}
	got, e := File(slices.Repeat([]tree.Decl{small}, 1<<16))
	refused(t, "File", got, e, api.ErrLong)
}

// doubled is an expression of 2 to the power of n+1, less one, nodes, with the same node often within.
func doubled(n int) tree.Node {
	t := ref(strings.Repeat("a", api.MaxName))
	for range n {
		t = app(t, t)
	}
	return t
}

// deep is an expression n deep.
func deep(n int) tree.Node {
	t := ref("x")
	for range n - 1 {
		t = pi("x", t, ref("y"))
	}
	return t
}

// endless is a node that stands within its own Subs.
func endless(kind int) tree.Node {
	subs := make([]tree.Node, 2)
	n := tree.Node{Kind: kind, Sub: subs}
	subs[0], subs[1] = n, n
	return n
}

func TestMuchLonger(t *testing.T) { // P6.1: what is right may be far longer than its text may be
	most := doubled(12)
	got, e := Expr(most)
	refused(t, "Expr", got, e, api.ErrLong)
	got, e = Pattern(dot(most))
	refused(t, "Pattern", got, e, api.ErrLong)
	full := row(most, slices.Repeat([]tree.Node{dot(most)}, api.MaxTele)...)
	d := def("f", most, full, full)
	got, e = Decl(d)
	refused(t, "Decl", got, e, api.ErrLong)
	got, e = File([]tree.Decl{d, d})
	refused(t, "File", got, e, api.ErrLong)
	tellsExpr(t, deep(api.MaxDepth), strings.Repeat("(x : ", api.MaxDepth-1)+"x"+strings.Repeat(") -> y", api.MaxDepth-1))
}

// wrongs are nodes that are no right expressions, and no right patterns.
func wrongs() []tree.Node {
	x, p := ref("x"), pvar("x")
	return []tree.Node{
		{}, {Kind: -1}, {Kind: tree.PDot + 1}, {Kind: math.MinInt}, {Kind: math.MaxInt, Name: "x"}, {Sub: []tree.Node{x}},
		ref(""), ref("_"), ref("Set"), ref("a b"), ref("\xff"), ref(strings.Repeat("a", api.MaxName+1)), {Kind: tree.EName, Name: "x", Sub: []tree.Node{x}},
		set(-1), set(api.MaxLevel + 1), set(math.MaxInt), {Kind: tree.ESet, Name: "x"},
		pi("", x, x), pi("def", x, x), pi("x", x, p), lam("1", x, x), lam("x", p, x), app(x, p), app(p, x), app(x, tree.Node{}),
		{Kind: tree.EPi, Name: "x"}, {Kind: tree.EPi, Name: "_", Sub: []tree.Node{x}}, {Kind: tree.ELam, Name: "x", Sub: []tree.Node{x, x, x}}, {Kind: tree.EApp}, {Kind: tree.EApp, Sub: []tree.Node{x}},
		pvar(""), pvar("_"), pvar("data"), {Kind: tree.PName, Name: "x", N: 1}, {Kind: tree.PAny, Name: "_"}, {Kind: tree.PNone, Sub: []tree.Node{p}},
		con("suc"), con("_", p), con("suc", x), con("suc", p, tree.Node{}), dot(p), dot(dot(x)), {Kind: tree.PDot}, {Kind: tree.PDot, Sub: []tree.Node{x, x}},
		doubled(13), doubled(100), deep(api.MaxDepth + 1), dot(doubled(13)), dot(deep(api.MaxDepth)), con("c", slices.Repeat([]tree.Node{p}, api.MaxNodes)...),
		endless(tree.EApp), endless(tree.PCon), endless(0), con("c", endless(tree.PCon)),
	}
}

func TestWrongNodes(t *testing.T) { // P6.1
	x, p := ref("x"), pvar("x")
	for _, n := range append(wrongs(), p, wild(), absurd(), con("c", p), dot(x)) {
		for _, m := range []tree.Node{n, app(x, n), app(n, x), pi("_", n, x), pi("x", x, n), lam("x", n, x), lam("_", x, n), app(app(x, n), x)} {
			got, e := Expr(m)
			refused(t, "Expr", got, e, api.ErrShape)
		}
		got, e := Pattern(dot(n))
		refused(t, "Pattern", got, e, api.ErrShape)
	}
	for _, n := range append(wrongs(), x, set(0), app(x, x), pi("_", x, x), lam("x", x, x)) {
		for _, m := range []tree.Node{n, con("c", n), con("c", p, n), con("c", n, p), con("c", con("d", n))} {
			got, e := Pattern(m)
			refused(t, "Pattern", got, e, api.ErrShape)
		}
	}
}

// wrongDecls are declarations that are not right, each in one thing.
func wrongDecls() []tree.Decl {
	a, p := ref("A"), wild()
	l := []tree.Decl{
		{}, {Kind: -1, Name: "D", Type: a}, {Name: "D", Type: a}, {Kind: tree.DDef + 1, Name: "D", Type: a}, {Kind: math.MaxInt, Name: "D", Type: a}, {Kind: math.MinInt, Name: "D", Type: a},
		data("", a), data("_", a), record("Set", a), def("a b", a), def(strings.Repeat("a", api.MaxName+1), a),
		over(data("D", a), bind("_", a)), over(record("D", a), bind("x", a), bind("", a)), data("D", a, bind("_", a)), record("D", a, bind("x", a), bind("1", a)),
		over(data("D", a), slices.Repeat([]tree.Bind{bind("x", a)}, api.MaxTele+1)...), data("D", a, slices.Repeat([]tree.Bind{bind("x", a)}, api.MaxCons+1)...),
		over(def("f", a), bind("x", a)), {Kind: tree.DDef, Name: "f", Type: a, Cons: []tree.Bind{bind("c", a)}}, {Kind: tree.DData, Name: "D", Type: a, Rows: []tree.Row{none()}},
		def("f", a, slices.Repeat([]tree.Row{none()}, api.MaxRows+1)...), def("f", a, none(slices.Repeat([]tree.Node{p}, api.MaxTele+1)...)),
		def("f", a, tree.Row{Body: a}), def("f", a, tree.Row{Has: true}), def("f", a, row(a), none(p, a)), def("f", a, row(p, p)),
	}
	for _, n := range append(wrongs(), p) {
		l = append(l, data("D", n), record("R", n), def("f", n), over(data("D", a), bind("x", n)), over(record("D", a), bind("x", a), bind("y", n)),
			data("D", a, bind("x", n)), record("R", a, bind("x", a), bind("y", n)), def("f", a, row(n)), def("f", a, none(), row(a, dot(n))))
	}
	for _, n := range append(wrongs(), a) {
		l = append(l, def("f", a, none(n)), def("f", a, row(a), row(a, p, n)))
	}
	return l
}

func TestWrongDecls(t *testing.T) { // P6.1: a wrong one is told ahead of a text that is too long, wherever it stands
	right, _ := decls()
	long := longDecls(api.MaxText + 1)
	for _, d := range wrongDecls() {
		got, e := Decl(d)
		refused(t, "Decl", got, e, api.ErrShape)
		for _, l := range [][]tree.Decl{
			{d}, {d, d}, {d, right[0]}, {right[0], d}, {right[0], d, right[1]}, {right[0], right[1], right[2], d},
			{right[0], d, long[0]}, {long[0], d}, {long[1], long[2], d, right[0]}, {d, long[3]},
		} {
			got, e := File(l)
			refused(t, "File", got, e, api.ErrShape)
		}
	}
	got, e := Decl(func() tree.Decl { d := long[4]; d.Name = "_"; return d }())
	refused(t, "Decl", got, e, api.ErrShape)
}
