package tree

import (
	"math"
	"reflect"
	"slices"
	"strconv"
	"strings"
	"testing"

	"scholium/api"
	"scholium/name"
)

func ref(s string) Node            { return Node{Kind: EName, Name: s} }
func set(n int) Node               { return Node{Kind: ESet, N: n} }
func pi(s string, a, b Node) Node  { return Node{Kind: EPi, Name: s, Sub: []Node{a, b}} }
func lam(s string, a, b Node) Node { return Node{Kind: ELam, Name: s, Sub: []Node{a, b}} }
func app(f, a Node) Node           { return Node{Kind: EApp, Sub: []Node{f, a}} }
func pvar(s string) Node           { return Node{Kind: PName, Name: s} }
func wild() Node                   { return Node{Kind: PAny} }
func con(s string, l ...Node) Node { return Node{Kind: PCon, Name: s, Sub: l} }
func absurd() Node                 { return Node{Kind: PNone} }
func dot(n Node) Node              { return Node{Kind: PDot, Sub: []Node{n}} }

// expressions and patterns are right ones, no two of them the same.
func expressions() []Node {
	x, y := ref("x"), ref("y")
	return []Node{
		x, y, ref("_x"), ref("x'1"), ref("ℕ"), ref(strings.Repeat("a", api.MaxName)),
		set(0), set(1), set(api.MaxLevel),
		pi("_", x, y), pi("x", x, y), pi("y", x, y), pi("_", y, x), pi("_", x, x),
		lam("_", x, y), lam("x", x, y), lam("y", x, y), lam("x", y, x),
		app(x, y), app(y, x), app(x, set(0)), app(x, set(1)),
		app(app(x, y), x), app(x, app(y, x)),
		pi("A", set(0), pi("x", ref("A"), app(app(app(ref("Eq"), ref("A")), x), x))),
		lam("x", ref("Nat"), app(ref("suc"), x)),
	}
}

func patterns() []Node {
	x, y := pvar("x"), pvar("y")
	return []Node{
		x, y, pvar("_x"), pvar("ℕ'"), pvar(strings.Repeat("a", api.MaxName)),
		wild(), absurd(),
		con("suc", x), con("suc", y), con("suc", wild()), con("suc", absurd()), con("pred", x),
		con("pair", x, y), con("pair", y, x), con("pair", x, y, x), con("pair", con("x", y)),
		con("suc", con("suc", x)),
		dot(ref("x")), dot(ref("y")), dot(set(0)), dot(set(3)), dot(app(ref("suc"), ref("x"))),
		con("vcons", dot(ref("n")), x, con("vcons", wild(), absurd(), y)),
	}
}

// wrongs are nodes that are right nowhere.
func wrongs() []Node {
	x, p := ref("x"), pvar("x")
	return []Node{
		{}, {Kind: -1}, {Kind: PDot + 1}, {Kind: math.MinInt}, {Kind: math.MaxInt, Name: "x"}, {Name: "x"}, {Kind: 0, Sub: []Node{x}},
		ref(""), ref("_"), ref("Set"), ref("1x"), ref("a b"), ref("\xff"), ref(strings.Repeat("a", api.MaxName+1)),
		{Kind: EName, Name: "x", N: 1}, {Kind: EName, Name: "x", Sub: []Node{x}},
		set(-1), set(api.MaxLevel + 1), set(math.MaxInt), set(math.MinInt), {Kind: ESet, Name: "x"}, {Kind: ESet, Sub: []Node{x}},
		pi("", x, x), pi("def", x, x), pi("__ ", x, x), pi("_", p, x), pi("_", x, p), pi("_", x, Node{}), {Kind: EPi, Name: "_"},
		{Kind: EPi, Name: "_", Sub: []Node{x}}, {Kind: EPi, Name: "_", Sub: []Node{x, x, x}}, {Kind: EPi, Name: "_", N: 1, Sub: []Node{x, x}},
		lam("", x, x), lam("data", x, x), lam("x", p, x), lam("x", x, dot(x)), {Kind: ELam, Name: "x", Sub: []Node{x}},
		{Kind: ELam, Name: "x", Sub: []Node{x, x, x}}, {Kind: ELam, Name: "x", N: -1, Sub: []Node{x, x}},
		app(x, p), app(p, x), {Kind: EApp}, {Kind: EApp, Sub: []Node{x}}, {Kind: EApp, Sub: []Node{x, x, x}},
		{Kind: EApp, Name: "x", Sub: []Node{x, x}}, {Kind: EApp, Name: "_", Sub: []Node{x, x}}, {Kind: EApp, N: 1, Sub: []Node{x, x}},
		pvar(""), pvar("_"), pvar("record"), pvar("'x"), pvar(strings.Repeat("a", api.MaxName+1)), {Kind: PName, Name: "x", N: 1}, {Kind: PName, Name: "x", Sub: []Node{p}},
		{Kind: PAny, Name: "_"}, {Kind: PAny, N: 1}, {Kind: PAny, Sub: []Node{p}},
		con("suc"), con("", p), con("_", p), con("Set", p), con("suc", x), con("suc", p, x), con("suc", Node{}), {Kind: PCon, Name: "suc", N: 1, Sub: []Node{p}},
		{Kind: PNone, Name: "x"}, {Kind: PNone, N: -1}, {Kind: PNone, Sub: []Node{p}},
		dot(p), dot(wild()), dot(dot(x)), dot(Node{}), {Kind: PDot}, {Kind: PDot, Sub: []Node{x, x}}, {Kind: PDot, Name: "x", Sub: []Node{x}}, {Kind: PDot, N: 1, Sub: []Node{x}},
	}
}

// chain is n levels of an application, deep in its function or in its argument; chainOf is n levels of a pattern.
func chain(n int, left bool) Node {
	t := ref("x")
	for range n - 1 {
		if left {
			t = app(t, ref("x"))
		} else {
			t = app(ref("x"), t)
		}
	}
	return t
}

func chainOf(n int) Node {
	p := wild()
	for range n - 1 {
		p = con("suc", p)
	}
	return p
}

// wide is a pattern of n nodes, bush an expression of n nodes (as an expression has them: 1, 3, 5..), neither of them deep.
func wide(n int) Node {
	return con("c", slices.Repeat([]Node{wild()}, n-1)...)
}

func bush(n int) Node {
	if n < 3 {
		return ref("y")
	}
	left := (n - 1) / 2
	left -= 1 - left%2
	return app(bush(left), bush(n-1-left))
}

// endless is a node that stands within its own Subs.
func endless(kind int) Node {
	subs := make([]Node, 2)
	n := Node{Kind: kind, Sub: subs}
	subs[0], subs[1] = n, n
	return n
}

// doubled is a node with twice itself within, so often: far more nodes than there is memory.
func doubled(n int) Node {
	t := ref("x")
	for range n {
		t = app(t, t)
	}
	return t
}

// tooMuch are nodes beyond the limits.
func tooMuch() []Node {
	return []Node{
		chain(api.MaxDepth+1, true), chain(api.MaxDepth+1, false), chainOf(api.MaxDepth + 1), chain(1<<12, true), chainOf(1 << 16),
		wide(api.MaxNodes + 1), wide(1 << 20), bush(api.MaxNodes + 1), dot(bush(api.MaxNodes + 1)), doubled(13), doubled(100),
		endless(EApp), endless(PCon), endless(0), app(ref("x"), endless(EApp)), con("c", wild(), endless(PCon)),
	}
}

// atLimit are right nodes that are just as great, or as deep, as they may be.
func atLimit() (exprs, pats []Node) {
	exprs = []Node{chain(api.MaxDepth, true), chain(api.MaxDepth, false), bush(api.MaxNodes - 1), doubled(12)}
	pats = []Node{chainOf(api.MaxDepth), wide(api.MaxNodes), dot(bush(api.MaxNodes - 1)), dot(chain(api.MaxDepth-1, false))}
	return exprs, pats
}

func TestKinds(t *testing.T) { // P4.1: the numbers of the chapter's tables
	kinds := []int{EName, ESet, EPi, ELam, EApp, PName, PAny, PCon, PNone, PDot, DData, DRecord, DDef}
	if !slices.Equal(kinds, []int{1, 2, 3, 4, 5, 6, 7, 8, 9, 10, 1, 2, 3}) {
		t.Errorf("%v", kinds)
	}
}

// asserts checks what Expr and Pattern tell of a node.
func asserts(t *testing.T, n Node, expr, pat bool) {
	t.Helper()
	if got := Expr(n); got != expr {
		t.Errorf("Expr(%.200s): %v", told(n), got)
	}
	if got := Pattern(n); got != pat {
		t.Errorf("Pattern(%.200s): %v", told(n), got)
	}
}

// told writes a node that ends.
func told(n Node) string {
	if Size(n) > 100 {
		return "a node of kind " + strconv.Itoa(n.Kind) + ", size " + strconv.Itoa(Size(n)) + ", depth " + strconv.Itoa(Depth(n))
	}
	words := []string{strconv.Itoa(n.Kind), strconv.Quote(n.Name), strconv.Itoa(n.N)}
	for _, s := range n.Sub {
		words = append(words, told(s))
	}
	return "(" + strings.Join(words, " ") + ")"
}

func TestRightNodes(t *testing.T) { // P4.1
	for _, n := range expressions() {
		asserts(t, n, true, false)
		asserts(t, dot(n), false, true)
	}
	for _, n := range patterns() {
		asserts(t, n, false, true)
	}
	for _, n := range wrongs() {
		asserts(t, n, false, false)
	}
}

// TestWrongWithin puts what is wrong into each place of what is right.
func TestWrongWithin(t *testing.T) { // P4.1
	for _, n := range append(expressions(), patterns()...) {
		for _, bad := range append(wrongs(), tooMuch()...) {
			for i := range Size(n) {
				m, _ := replaced(n, i, func(Node) Node { return bad })
				asserts(t, m, false, false)
			}
		}
	}
}

// replaced makes n anew, with another node in the place of the i-th of its own, and tells how many are left to be gone over.
func replaced(n Node, i int, with func(Node) Node) (Node, int) {
	if i == 0 {
		return with(n), -1
	}
	i--
	subs := slices.Clone(n.Sub)
	for j := range subs {
		if i < 0 {
			break
		}
		subs[j], i = replaced(subs[j], i, with)
	}
	n.Sub = subs
	return n, i
}

// shaped tells, by the chapter's table, whether a node is an expression, or a pattern, if its Subs are what they are told to be.
func shaped(n Node, exprs, pats []bool) (expr, pat bool) {
	right, bare := name.Right(n.Name), n.Name == "" && n.N == 0
	none, two := len(n.Sub) == 0, len(n.Sub) == 2 && exprs[0] && exprs[1]
	switch n.Kind {
	case 1:
		expr = right && n.N == 0 && none
	case 2:
		expr = n.Name == "" && n.N >= 0 && n.N <= 7 && none
	case 3, 4:
		expr = (right || n.Name == "_") && n.N == 0 && two
	case 5:
		expr = bare && two
	case 6:
		pat = right && n.N == 0 && none
	case 7, 9:
		pat = bare && none
	case 8:
		pat = right && n.N == 0 && !none && !slices.Contains(pats, false)
	case 10:
		pat = bare && len(n.Sub) == 1 && exprs[0]
	}
	return expr, pat
}

// TestShapes goes over all nodes of one level above a few.
func TestShapes(t *testing.T) { // P4.1
	subs := [][]Node{nil}
	below := []Node{ref("x"), pi("_", set(7), ref("y")), wild(), con("c", dot(ref("x"))), {}}
	for from := 0; len(subs[from]) < 3; from++ {
		for _, n := range below {
			subs = append(subs, append(slices.Clone(subs[from]), n))
		}
	}
	yes := 0
	for kind := -1; kind <= 12; kind++ {
		for _, s := range []string{"", "x", "_", "Set", "x y", "ℕ"} {
			for _, number := range []int{math.MinInt, -1, 0, 1, 7, 8, math.MaxInt} {
				for _, l := range subs {
					var exprs, pats []bool
					for _, m := range l {
						exprs = append(exprs, m.Kind == EName || m.Kind == EPi)
						pats = append(pats, m.Kind == PAny || m.Kind == PCon)
					}
					n := Node{Kind: kind, At: number, Name: s, N: number, Sub: l}
					expr, pat := shaped(n, exprs, pats)
					asserts(t, n, expr, pat)
					if expr || pat {
						yes++
					}
				}
			}
		}
	}
	if yes == 0 || len(subs) != 1+5+25+125 {
		t.Errorf("%d right ones, %d lists", yes, len(subs))
	}
}

func TestNodeLimits(t *testing.T) { // P4.1
	exprs, pats := atLimit()
	for _, n := range exprs {
		asserts(t, n, true, false)
	}
	for _, n := range pats {
		asserts(t, n, false, true)
	}
	for _, n := range tooMuch() {
		asserts(t, n, false, false)
	}
	// A node may be as deep and as great at once.
	both := con("c", append(slices.Repeat([]Node{wild()}, api.MaxNodes-api.MaxDepth), chainOf(api.MaxDepth-1))...)
	asserts(t, both, false, true)
	if Size(both) != api.MaxNodes || Depth(both) != api.MaxDepth {
		t.Errorf("%d %d", Size(both), Depth(both))
	}
}

func TestOffsetsAnyway(t *testing.T) { // P4.1: an offset makes nothing right or wrong
	for _, at := range []int{math.MinInt, -1, 1, api.MaxText + 1, math.MaxInt} {
		for _, n := range expressions() {
			asserts(t, moved(n, at), true, false)
		}
		for _, n := range patterns() {
			asserts(t, moved(n, at), false, true)
		}
		for _, d := range decls() {
			if !Right(movedDecl(d, at)) {
				t.Errorf("%s", d.Name)
			}
		}
	}
}

// moved gives n with other offsets.
func moved(n Node, at int) Node {
	n.At += at
	n.Sub = slices.Clone(n.Sub)
	for i, s := range n.Sub {
		n.Sub[i] = moved(s, at+i)
	}
	return n
}

// movedDecl gives d with other offsets, but for that of a body that is none, which has none.
func movedDecl(d Decl, at int) Decl {
	d.At += at
	d.Type = moved(d.Type, at)
	for _, l := range []*[]Bind{&d.Tele, &d.Cons} {
		*l = slices.Clone(*l)
		for i, b := range *l {
			(*l)[i] = Bind{Name: b.Name, At: b.At + at, Type: moved(b.Type, at)}
		}
	}
	d.Rows = slices.Clone(d.Rows)
	for i, r := range d.Rows {
		r.At += at
		r.Pats = slices.Clone(r.Pats)
		for j, p := range r.Pats {
			r.Pats[j] = moved(p, at)
		}
		if r.Has {
			r.Body = moved(r.Body, at)
		}
		d.Rows[i] = r
	}
	return d
}

func TestSize(t *testing.T) { // P4.1
	for _, c := range []struct {
		n           Node
		size, depth int
	}{
		{Node{}, 1, 1}, {ref("x"), 1, 1}, {Node{Kind: -7, N: math.MaxInt}, 1, 1}, {Node{Sub: []Node{}}, 1, 1},
		{con("suc", con("suc", pvar("x"))), 3, 3}, // the chapter's example
		{app(ref("f"), ref("x")), 3, 2}, {app(app(ref("f"), ref("x")), ref("y")), 5, 3}, {app(ref("f"), app(ref("g"), ref("x"))), 5, 3},
		{Node{Sub: []Node{{}, {Sub: []Node{{}}}, {}}}, 5, 3},
		{Node{Sub: []Node{{Sub: []Node{{}, {Sub: []Node{{}}}}}, {Sub: []Node{{}}}}}, 7, 4},
		{chain(api.MaxDepth-1, true), 2*api.MaxDepth - 3, api.MaxDepth - 1},
		{chain(api.MaxDepth, true), 2*api.MaxDepth - 1, api.MaxDepth},
		{chain(api.MaxDepth+1, true), 2*api.MaxDepth + 1, api.MaxDepth + 1},
		{chain(api.MaxDepth+2, false), 2*api.MaxDepth + 3, api.MaxDepth + 1},
		{chainOf(api.MaxNodes - 1), api.MaxNodes - 1, api.MaxDepth + 1}, {chainOf(api.MaxNodes), api.MaxNodes, api.MaxDepth + 1},
		{chainOf(api.MaxNodes + 1), api.MaxNodes + 1, api.MaxDepth + 1}, {chainOf(api.MaxNodes + 2), api.MaxNodes + 1, api.MaxDepth + 1},
		{chainOf(1 << 16), api.MaxNodes + 1, api.MaxDepth + 1},
		{wide(api.MaxNodes - 1), api.MaxNodes - 1, 2}, {wide(api.MaxNodes), api.MaxNodes, 2},
		{wide(api.MaxNodes + 1), api.MaxNodes + 1, api.MaxDepth + 1}, {wide(api.MaxNodes + 2), api.MaxNodes + 1, api.MaxDepth + 1},
		{con("c", wide(4000), wide(4191)), api.MaxNodes, 3}, {con("c", wide(4000), wide(4192)), api.MaxNodes + 1, api.MaxDepth + 1},
		{con("c", wide(4000), wide(4192), wide(4192), wide(9000)), api.MaxNodes + 1, api.MaxDepth + 1},
		{doubled(12), api.MaxNodes - 1, 13}, {doubled(13), api.MaxNodes + 1, api.MaxDepth + 1}, {doubled(100), api.MaxNodes + 1, api.MaxDepth + 1},
		{endless(0), api.MaxNodes + 1, api.MaxDepth + 1}, {endless(EApp), api.MaxNodes + 1, api.MaxDepth + 1},
	} {
		if size, depth := Size(c.n), Depth(c.n); size != c.size || depth != c.depth {
			t.Errorf("%.200s: %d %d, not %d %d", told(c.n), size, depth, c.size, c.depth)
		}
	}
}

// decls are right declarations, no two of them the same.
func decls() []Decl {
	nat, x := ref("Nat"), ref("x")
	zero, suc := Bind{Name: "zero", Type: nat}, Bind{Name: "suc", Type: pi("_", nat, nat)}
	a := Bind{Name: "A", Type: set(0)}
	return []Decl{
		{Kind: DData, Name: "Nat", Type: set(0)},
		{Kind: DRecord, Name: "Nat", Type: set(0)},
		{Kind: DDef, Name: "Nat", Type: set(0)},
		{Kind: DData, Name: "Nat", Type: set(0), Cons: []Bind{zero, suc}},
		{Kind: DData, Name: "Nat", Type: set(0), Cons: []Bind{suc, zero}},
		{Kind: DData, Name: "Nat", Type: set(0), Cons: []Bind{zero, suc, suc}},
		{Kind: DData, Name: "List", Tele: []Bind{a}, Type: set(0), Cons: []Bind{{Name: "nil", Type: app(ref("List"), ref("A"))}}},
		{Kind: DRecord, Name: "Pair", Tele: []Bind{a, {Name: "B", Type: set(1)}}, Type: set(1), Cons: []Bind{{Name: "fst", Type: ref("A")}, {Name: "snd", Type: ref("B")}}},
		{Kind: DRecord, Name: "Pair", Tele: []Bind{a, {Name: "B", Type: set(1)}}, Type: set(1), Cons: []Bind{{Name: "fst", Type: ref("A")}}},
		{Kind: DDef, Name: "f", Type: pi("_", nat, nat), Rows: []Row{{}}},
		{Kind: DDef, Name: "f", Type: pi("_", nat, nat), Rows: []Row{{}, {}}},
		{Kind: DDef, Name: "f", Type: pi("_", nat, nat), Rows: []Row{{Pats: []Node{absurd()}}}},
		{Kind: DDef, Name: "f", Type: pi("_", nat, nat), Rows: []Row{{Has: true, Body: x}}},
		{Kind: DDef, Name: "f", Type: pi("_", nat, nat), Rows: []Row{{Pats: []Node{pvar("x")}, Has: true, Body: x}}},
		{Kind: DDef, Name: "f", Type: pi("_", nat, nat), Rows: []Row{
			{Pats: []Node{pvar("zero"), wild()}, Has: true, Body: ref("zero")},
			{Pats: []Node{con("suc", pvar("x")), dot(x)}, Has: true, Body: app(ref("f"), x)},
		}},
	}
}

func TestRightDecls(t *testing.T) { // P4.1
	for i, d := range decls() {
		if !Right(d) {
			t.Errorf("%d: %s", i, d.Name)
		}
	}
	if Right(Decl{}) {
		t.Errorf("the zero declaration")
	}
	// Lists without elements are nil's like, and room behind an end counts for nothing.
	d := Decl{Kind: DDef, Name: "f", Type: set(0), Tele: []Bind{}, Cons: []Bind{{Name: "c"}}[:0], Rows: []Row{{Pats: []Node{}, Body: Node{Sub: []Node{{}}[:0]}}}}
	if !Right(d) {
		t.Errorf("empty lists")
	}
	d = Decl{Kind: DData, Name: "D", Type: set(0), Rows: []Row{{}, {}}[:0]}
	if !Right(d) {
		t.Errorf("empty rows")
	}
	// Names may stand twice: to be right asks nothing of scopes.
	d = Decl{Kind: DData, Name: "D", Type: ref("D"), Tele: []Bind{{Name: "D", Type: ref("D")}, {Name: "D", Type: ref("D")}}, Cons: []Bind{{Name: "D", Type: ref("D")}}}
	if !Right(d) {
		t.Errorf("names that stand twice")
	}
}

func TestWrongDecls(t *testing.T) { // P4.1
	x := ref("x")
	data := Decl{Kind: DData, Name: "D", Tele: []Bind{{Name: "A", Type: set(0)}}, Type: set(0), Cons: []Bind{{Name: "c", Type: x}}}
	def := Decl{Kind: DDef, Name: "f", Type: x, Rows: []Row{{Pats: []Node{pvar("x")}, Has: true, Body: x}, {Pats: []Node{absurd()}}}}
	wrong := func(what string, d Decl, change func(d *Decl)) {
		t.Helper()
		d.Tele, d.Cons, d.Rows = slices.Clone(d.Tele), slices.Clone(d.Cons), slices.Clone(d.Rows)
		if !Right(d) {
			t.Errorf("%s: not right before", what)
		}
		change(&d)
		if Right(d) {
			t.Errorf("%s: right", what)
		}
	}
	for _, kind := range []int{math.MinInt, -1, 0, 4, math.MaxInt} {
		wrong("kind", data, func(d *Decl) { d.Kind = kind })
		wrong("kind", Decl{Kind: DDef, Name: "f", Type: x}, func(d *Decl) { d.Kind = kind })
	}
	for _, s := range []string{"", "_", "def", "1", "x y", "\xff", strings.Repeat("a", api.MaxName+1)} {
		wrong("name", data, func(d *Decl) { d.Name = s })
		wrong("name of a def", def, func(d *Decl) { d.Name = s })
		wrong("name in Tele", data, func(d *Decl) { d.Tele[0].Name = s })
		wrong("name in Cons", data, func(d *Decl) { d.Cons[0].Name = s })
	}
	for _, n := range slices.Concat(wrongs(), tooMuch(), patterns()) {
		wrong("type", data, func(d *Decl) { d.Type = n })
		wrong("type of a def", def, func(d *Decl) { d.Type = n })
		wrong("type in Tele", data, func(d *Decl) { d.Tele[0].Type = n })
		wrong("type in Cons", data, func(d *Decl) { d.Cons[0].Type = n })
		wrong("body", def, func(d *Decl) { d.Rows[0].Body = n })
	}
	for _, n := range slices.Concat(wrongs(), tooMuch(), expressions()) {
		wrong("pattern", def, func(d *Decl) { d.Rows[0].Pats = []Node{n} })
		wrong("second pattern", def, func(d *Decl) { d.Rows[1].Pats = []Node{pvar("x"), n} })
	}
	for _, n := range []Node{x, {At: 1}, {Kind: 1}, {Name: "x"}, {N: -1}, {Sub: []Node{{}}}, endless(0)} {
		wrong("body of none", def, func(d *Decl) { d.Rows[1].Body = n })
	}
	wrong("Tele of a def", def, func(d *Decl) { d.Tele = data.Tele })
	wrong("Cons of a def", def, func(d *Decl) { d.Cons = data.Cons })
	wrong("Rows of data", data, func(d *Decl) { d.Rows = def.Rows })
	wrong("an empty row of data", data, func(d *Decl) { d.Rows = []Row{{}} })
	wrong("data as def", data, func(d *Decl) { d.Kind = DDef })
	wrong("def as data", def, func(d *Decl) { d.Kind = DData })
	wrong("def as record", def, func(d *Decl) { d.Kind = DRecord })
	data.Kind = DRecord
	wrong("Rows of a record", data, func(d *Decl) { d.Rows = def.Rows })
	wrong("an empty row of a record", data, func(d *Decl) { d.Rows = []Row{{}} })
	// The second of a list is looked at, too.
	wrong("second in Tele", data, func(d *Decl) { d.Tele = append(d.Tele, Bind{Name: "B"}) })
	wrong("second in Cons", data, func(d *Decl) { d.Cons = append(d.Cons, Bind{Name: "_", Type: x}) })
	wrong("third row", def, func(d *Decl) { d.Rows = append(d.Rows, Row{Has: true}) })
}

func TestDeclLimits(t *testing.T) { // P4.1
	b := Bind{Name: "x", Type: set(0)}
	for _, c := range []struct {
		most int
		make func(n int) Decl
	}{
		{api.MaxTele, func(n int) Decl {
			return Decl{Kind: DData, Name: "D", Type: set(0), Tele: slices.Repeat([]Bind{b}, n)}
		}},
		{api.MaxTele, func(n int) Decl {
			return Decl{Kind: DRecord, Name: "D", Type: set(0), Tele: slices.Repeat([]Bind{b}, n)}
		}},
		{api.MaxCons, func(n int) Decl {
			return Decl{Kind: DData, Name: "D", Type: set(0), Cons: slices.Repeat([]Bind{b}, n)}
		}},
		{api.MaxCons, func(n int) Decl {
			return Decl{Kind: DRecord, Name: "D", Type: set(0), Cons: slices.Repeat([]Bind{b}, n)}
		}},
		{api.MaxRows, func(n int) Decl {
			return Decl{Kind: DDef, Name: "f", Type: set(0), Rows: make([]Row, n)}
		}},
		{api.MaxTele, func(n int) Decl {
			return Decl{Kind: DDef, Name: "f", Type: set(0), Rows: []Row{{}, {Pats: slices.Repeat([]Node{wild()}, n)}}}
		}},
		{api.MaxLevel, func(n int) Decl { return Decl{Kind: DDef, Name: "f", Type: set(n)} }},
		{api.MaxDepth, func(n int) Decl { return Decl{Kind: DDef, Name: "f", Type: chain(max(n, 1), true)} }},
		{api.MaxNodes, func(n int) Decl {
			return Decl{Kind: DDef, Name: "f", Type: set(0), Rows: []Row{{Pats: []Node{wide(max(n, 2)), wild()}}}}
		}},
	} {
		for n, want := range map[int]bool{0: true, 1: true, c.most - 1: true, c.most: true, c.most + 1: false, c.most + 1000: false} {
			if d := c.make(n); Right(d) != want {
				t.Errorf("kind %d, most %d: %d: %v", d.Kind, c.most, n, !want)
			}
		}
	}
	// The limit of nodes is one of each node, not of all together; and all lists may be full at once.
	big := Bind{Name: "x", Type: bush(api.MaxNodes - 1)}
	if !Right(Decl{Kind: DData, Name: "D", Type: big.Type, Tele: slices.Repeat([]Bind{big}, api.MaxTele), Cons: slices.Repeat([]Bind{big}, api.MaxCons)}) {
		t.Errorf("great bindings")
	}
	row := Row{Pats: slices.Repeat([]Node{wide(api.MaxNodes)}, api.MaxTele), Has: true, Body: big.Type}
	if !Right(Decl{Kind: DDef, Name: "f", Type: big.Type, Rows: slices.Repeat([]Row{row}, api.MaxRows)}) {
		t.Errorf("great rows")
	}
}

// odd are nodes within the limits that are no right ones, no two of them the same.
func odd() []Node {
	return []Node{
		{}, {Kind: -1}, {Kind: math.MaxInt}, {N: 1}, {N: math.MinInt}, {Name: "x"}, {Name: "\xff"}, {Name: "x\x00"},
		{Sub: []Node{{}}}, {Sub: []Node{{}, {}}}, {Sub: []Node{{Sub: []Node{{}}}}}, {Kind: EName, Name: "x", Sub: []Node{ref("x")}}, {Kind: EApp}, dot(pvar("x")),
	}
}

func TestSame(t *testing.T) { // P4.2, P4.5
	exprs, pats := atLimit()
	all := slices.Concat(expressions(), patterns(), odd(), exprs, pats)
	for i, a := range all {
		for j, b := range all {
			if Same(a, b) != (i == j) || Same(b, a) != (i == j) {
				t.Errorf("%d %.200s, %d %.200s: %v %v", i, told(a), j, told(b), Same(a, b), Same(b, a))
			}
		}
		for _, at := range []int{-3, 1, math.MaxInt} {
			if b := moved(a, at); !Same(a, b) || !Same(b, a) {
				t.Errorf("%d %.200s: with other offsets not the same", i, told(a))
			}
		}
	}
	if !Same(Node{Sub: []Node{}}, Node{}) || !Same(Node{}, Node{Sub: []Node{{N: 1}}[:0]}) {
		t.Errorf("lists without elements are not the same")
	}
}

// changes make a node another one.
var changes = []func(Node) Node{
	func(n Node) Node { n.Kind++; return n },
	func(n Node) Node { n.Kind -= 3; return n },
	func(n Node) Node { n.N++; return n },
	func(n Node) Node { n.Name += "a"; return n },
	func(n Node) Node { n.Name = strings.ToUpper(n.Name) + "'"; return n },
	func(n Node) Node { n.Sub = append(slices.Clone(n.Sub), Node{}); return n },
	func(n Node) Node { n.Sub = append([]Node{ref("x")}, n.Sub...); return n },
	func(n Node) Node { return app(n, n) },
}

func TestSameChanged(t *testing.T) { // P4.2, P4.5
	for _, n := range slices.Concat(expressions(), patterns(), odd()) {
		for i := range Size(n) {
			for _, change := range changes {
				if m, _ := replaced(n, i, change); Same(n, m) || Same(m, n) {
					t.Errorf("%s, %s: the same", told(n), told(m))
				}
			}
		}
	}
}

func TestSameTooMuch(t *testing.T) { // P4.2, P4.5
	all := tooMuch()
	for i, a := range all {
		if Same(a, a) {
			t.Errorf("%d: the same as itself", i)
		}
		for _, b := range append(expressions(), Node{}) {
			if Same(a, b) || Same(b, a) {
				t.Errorf("%d, %s: the same", i, told(b))
			}
		}
		d := Decl{Kind: DData, Name: "D", Type: set(0), Cons: []Bind{{Name: "c", Type: set(0)}}, Rows: []Row{{Pats: []Node{wild()}}}}
		for j, change := range []func(d *Decl){
			func(d *Decl) { d.Type = a },
			func(d *Decl) { d.Tele = []Bind{{Name: "c", Type: a}} },
			func(d *Decl) { d.Cons = []Bind{{Name: "c", Type: a}} },
			func(d *Decl) { d.Rows = []Row{{Pats: []Node{a}}} },
			func(d *Decl) { d.Rows = []Row{{Body: a}} },
			func(d *Decl) { d.Rows = []Row{{Has: true, Body: a}} },
		} {
			m := d
			change(&m)
			if SameDecl(m, m) || SameDecl(d, m) || SameDecl(m, d) {
				t.Errorf("%d, %d: declarations are the same", i, j)
			}
		}
	}
	exprs, pats := atLimit()
	for _, n := range append(exprs, pats...) {
		if m := moved(n, 1); !Same(n, m) || !Same(m, n) {
			t.Errorf("%s: not the same", told(n))
		}
	}
}

func TestSameDecl(t *testing.T) { // P4.2, P4.5
	all := append(decls(), Decl{}, Decl{Kind: -1}, Decl{Name: "\xff"}, Decl{Rows: []Row{{Has: true}}}, Decl{Rows: []Row{{Body: ref("x")}}}, Decl{Tele: []Bind{{}}}, Decl{Cons: []Bind{{}}}, Decl{Rows: []Row{{}}})
	for i, a := range all {
		for j, b := range all {
			if SameDecl(a, b) != (i == j) || SameDecl(b, a) != (i == j) {
				t.Errorf("%d, %d: %v %v", i, j, SameDecl(a, b), SameDecl(b, a))
			}
		}
		for _, at := range []int{-3, 1, math.MaxInt} {
			if b := movedDecl(a, at); !SameDecl(a, b) || !SameDecl(b, a) {
				t.Errorf("%d: with other offsets not the same", i)
			}
		}
	}
	if !SameDecl(Decl{Tele: []Bind{}, Cons: []Bind{}, Rows: []Row{}}, Decl{}) || !SameDecl(Decl{Rows: []Row{{Pats: []Node{}}}}, Decl{Rows: []Row{{}}}) {
		t.Errorf("lists without elements are not the same")
	}
	// That a body is none is told by Has, but an offset in one is none's matter either.
	if !SameDecl(Decl{Rows: []Row{{Body: Node{At: 3}}}}, Decl{Rows: []Row{{}}}) {
		t.Errorf("offsets of bodies that are none")
	}
}

func TestSameDeclChanged(t *testing.T) { // P4.2, P4.5
	x := ref("x")
	b := []Bind{{Name: "a", Type: x}, {Name: "b", Type: app(x, x)}}
	d := Decl{Kind: DData, Name: "D", Tele: b, Type: app(x, x), Cons: b, Rows: []Row{{}, {Pats: []Node{wild(), con("c", pvar("x"))}, Has: true, Body: app(x, x)}}}
	other := app(x, ref("y"))
	for i, change := range []func(d *Decl){
		func(d *Decl) { d.Kind++ },
		func(d *Decl) { d.Name = "d" },
		func(d *Decl) { d.Type = other },
		func(d *Decl) { d.Tele[0].Name = "c" },
		func(d *Decl) { d.Tele[1].Name = "c" },
		func(d *Decl) { d.Tele[1].Type = other },
		func(d *Decl) { d.Tele = d.Tele[:1] },
		func(d *Decl) { d.Tele = append(d.Tele, Bind{}) },
		func(d *Decl) { d.Tele[0], d.Tele[1] = d.Tele[1], d.Tele[0] },
		func(d *Decl) { d.Cons[0].Name = "c" },
		func(d *Decl) { d.Cons[1].Type = other },
		func(d *Decl) { d.Cons = nil },
		func(d *Decl) { d.Cons = append(d.Cons, d.Cons[0]) },
		func(d *Decl) { d.Rows[0].Has = true },
		func(d *Decl) { d.Rows[1].Has = false },
		func(d *Decl) { d.Rows[0].Body = x },
		func(d *Decl) { d.Rows[1].Body = other },
		func(d *Decl) { d.Rows[0].Pats = []Node{wild()} },
		func(d *Decl) { d.Rows[1].Pats = d.Rows[1].Pats[:1] },
		func(d *Decl) { d.Rows[1].Pats = []Node{wild(), con("c", pvar("y"))} },
		func(d *Decl) { d.Rows = d.Rows[:1] },
		func(d *Decl) { d.Rows = append(d.Rows, Row{}) },
	} {
		m := d
		m.Tele, m.Cons, m.Rows = slices.Clone(d.Tele), slices.Clone(d.Cons), slices.Clone(d.Rows)
		if !SameDecl(d, m) {
			t.Errorf("%d: not the same before", i)
		}
		change(&m)
		if SameDecl(d, m) || SameDecl(m, d) {
			t.Errorf("%d: the same", i)
		}
	}
}

func TestCopy(t *testing.T) { // P4.2, P4.4
	exprs, pats := atLimit()
	for _, n := range slices.Concat(expressions(), patterns(), odd(), exprs, pats) {
		n = moved(n, 5)
		m := Copy(n)
		if !Same(n, m) || !reflect.DeepEqual(n, m) {
			t.Errorf("%.200s: %.200s", told(n), told(m))
		}
	}
	for i, n := range tooMuch() {
		if m := Copy(n); !reflect.DeepEqual(m, Node{}) {
			t.Errorf("%d: %.200s", i, told(m))
		}
	}
	if m := Copy(Node{At: 3, Sub: []Node{}}); m.At != 3 || len(m.Sub) != 0 {
		t.Errorf("%v", m)
	}
}

// spoil overwrites a node's lists, and what room there is behind their ends.
func spoil(n Node) {
	for i := range n.Sub {
		spoil(n.Sub[i])
	}
	l := n.Sub[:cap(n.Sub)]
	for i := range l {
		l[i] = Node{Kind: -9, Name: "spoilt"}
	}
}

func TestCopyStays(t *testing.T) { // P4.2, P4.4
	for _, make := range []func() []Node{expressions, patterns, odd} {
		for i := range make() {
			n, want := make()[i], make()[i]
			m := Copy(n)
			spoil(n)
			if !reflect.DeepEqual(m, want) {
				t.Errorf("%s: the copy is %s", told(want), told(m))
			}
			n = make()[i]
			m = Copy(n)
			spoil(m)
			if !reflect.DeepEqual(n, want) {
				t.Errorf("%s: is %s", told(want), told(n))
			}
			// No list of a copy shares any room with another one of it.
			m = Copy(want)
			for j := range m.Sub {
				spoil(m.Sub[j])
				for k := range m.Sub {
					if k > j && !reflect.DeepEqual(m.Sub[k], want.Sub[k]) {
						t.Errorf("%s: Subs %d and %d share room", told(want), j, k)
					}
				}
			}
		}
	}
	// A node that stands there twice is two in a copy.
	m := Copy(doubled(2))
	m.Sub[0].Sub[0].Name = "y"
	if m.Sub[1].Sub[0].Name != "x" {
		t.Errorf("two of one")
	}
}

func TestNames(t *testing.T) { // P4.3
	x, y, z := ref("x"), ref("y"), ref("z")
	for _, c := range []struct {
		n    Node
		want string
	}{
		{x, "x"}, {set(2), ""}, {app(x, y), "x y"}, {app(y, x), "y x"}, {app(x, x), "x x"},
		{app(app(x, y), app(z, x)), "x y z x"}, {pi("x", y, z), "y z"}, {pi("_", set(0), x), "x"}, {lam("y", app(x, y), y), "x y y"},
		{app(ref("data'"), ref("ℕ")), "data' ℕ"},
		{pvar("x"), ""}, {wild(), ""}, {absurd(), ""}, {con("suc", pvar("x")), ""},
		{dot(x), "x"}, {dot(app(y, x)), "y x"}, {con("c", dot(z), pvar("y"), con("d", dot(app(x, z)), wild()), dot(y)), "z x z y"},
	} {
		if got := Names(c.n); !slices.Equal(got, strings.Fields(c.want)) {
			t.Errorf("%s: %q", told(c.n), got)
		}
	}
	exprs, _ := atLimit()
	for _, n := range exprs {
		if got := Names(n); len(got) != (Size(n)+1)/2 {
			t.Errorf("%s: %d names", told(n), len(got))
		}
	}
	if got := Names(dot(bush(api.MaxNodes - 1))); len(got) != api.MaxNodes/2 {
		t.Errorf("%d names", len(got))
	}
}

func TestVars(t *testing.T) { // P4.3
	x, y, z := pvar("x"), pvar("y"), pvar("z")
	for _, c := range []struct {
		l    []Node
		want string
	}{
		{nil, ""}, {[]Node{}, ""}, {[]Node{x}, "x"}, {[]Node{x, y}, "x y"}, {[]Node{y, x, y}, "y x y"},
		{[]Node{wild(), absurd(), dot(ref("x"))}, ""},
		{[]Node{con("suc", con("suc", x))}, "x"}, // the chapter's example
		{[]Node{con("c", z, con("d", x, dot(ref("n")), y), wild(), x), absurd(), y}, "z x y x y"},
		{[]Node{pvar("zero"), con("suc", pvar("_x"))}, "zero _x"},
	} {
		if got := Vars(c.l); !slices.Equal(got, strings.Fields(c.want)) {
			t.Errorf("%q: %q", c.want, got)
		}
	}
	// A list may be as long as it will; each pattern has its own limit.
	n := con("c", slices.Repeat([]Node{x}, api.MaxNodes-1)...)
	if got := Vars(slices.Repeat([]Node{n}, 100)); len(got) != 100*(api.MaxNodes-1) {
		t.Errorf("%d", len(got))
	}
	if got := Vars([]Node{con("c", slices.Repeat([]Node{x}, api.MaxNodes)...), chainOf(api.MaxDepth), y}); !slices.Equal(got, []string{"y"}) {
		t.Errorf("%d", len(got))
	}
}

func TestNothingOfWrongs(t *testing.T) { // P4.3
	for _, n := range append(wrongs(), tooMuch()...) {
		for _, m := range []Node{n, app(ref("x"), n), con("c", pvar("x"), dot(ref("x")), n), dot(n), lam("x", n, ref("x"))} {
			if got := Names(m); len(got) != 0 {
				t.Errorf("Names(%.200s): %.200q", told(m), got)
			}
			// One that is not right tells nothing; those beside it tell theirs.
			if got := Vars([]Node{m}); len(got) != 0 {
				t.Errorf("Vars(%.200s): %.200q", told(m), got)
			}
			if got := Vars([]Node{pvar("a"), m, con("c", pvar("b"))}); !slices.Equal(got, []string{"a", "b"}) {
				t.Errorf("Vars(%.200s): %.200q", told(m), got)
			}
		}
	}
	for _, n := range expressions() {
		if got := Vars([]Node{n, pvar("z")}); !slices.Equal(got, []string{"z"}) {
			t.Errorf("%s: %q", told(n), got)
		}
	}
}

func TestNewLists(t *testing.T) { // P4.3: what is answered is new memory
	n := app(ref("x"), ref("y"))
	l := Names(n)
	l[0] = "z"
	if got := Names(n); !slices.Equal(got, []string{"x", "y"}) {
		t.Errorf("%q", got)
	}
	v := Vars([]Node{pvar("x")})
	v[0] = "z"
	if got := Vars([]Node{pvar("x")}); !slices.Equal(got, []string{"x"}) {
		t.Errorf("%q", got)
	}
}

// TestUntouched checks that no call changes what it is given, or what stands in the room behind a list.
func TestUntouched(t *testing.T) { // P4.1, P4.2, P4.3
	roomy := func() Node {
		l := []Node{pvar("x"), dot(app(ref("f"), ref("x"))), {Kind: -9, Name: "behind"}}
		return con("c", l[:2]...)
	}
	decl := func() Decl {
		b := []Bind{{Name: "a", Type: set(0)}, {Name: "behind"}}
		rows := []Row{{Pats: []Node{roomy()}, Has: true, Body: ref("x")}, {Has: true}}
		return Decl{Kind: DData, Name: "D", Tele: b[:1], Type: ref("x"), Cons: b[:1], Rows: rows[:1]}
	}
	n, d := roomy(), decl()
	Expr(n)
	Pattern(n)
	Size(n)
	Depth(n)
	Same(n, n)
	Copy(n)
	Names(n)
	Vars([]Node{n})
	Right(d)
	SameDecl(d, decl())
	if !reflect.DeepEqual(n, roomy()) || !reflect.DeepEqual(n.Sub[:3], roomy().Sub[:3]) {
		t.Errorf("%v", n.Sub[:3])
	}
	if !reflect.DeepEqual(d, decl()) || !reflect.DeepEqual(d.Tele[:2], decl().Tele[:2]) || !reflect.DeepEqual(d.Rows[:2], decl().Rows[:2]) {
		t.Errorf("%v", d)
	}
}
