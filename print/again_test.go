package print

import (
	"math/rand"
	"slices"
	"strconv"
	"strings"
	"testing"

	"scholium/api"
	"scholium/parse"
	"scholium/token"
	"scholium/tree"
)

// few tells whether a text has no more than MaxNodes tokens.
func few(s string) bool {
	_, _, e := token.All(s)
	return e == api.OK
}

// rereadExpr checks that an expression's text is read as the same.
func rereadExpr(t *testing.T, n tree.Node) string {
	t.Helper()
	s, e := Expr(n)
	got, _, f := parse.Expr(s)
	if e != api.OK || f != api.OK || !tree.Same(got, n) {
		t.Fatalf("Expr: %.400q: %v, %v", s, e, f)
	}
	return s
}

// rereadPattern checks that a pattern's text is read as the same.
func rereadPattern(t *testing.T, n tree.Node) {
	t.Helper()
	s, e := Pattern(n)
	got, _, f := parse.Pats(s)
	if e != api.OK || f != api.OK || len(got) != 1 || !tree.Same(got[0], n) {
		t.Fatalf("Pattern: %.400q: %v, %v", s, e, f)
	}
}

// rereadFile checks that a file's text is read as the same, and that it is the declarations' texts.
func rereadFile(t *testing.T, l []tree.Decl) {
	t.Helper()
	var each string
	for _, d := range l {
		s, e := Decl(d)
		got, _, f := parse.File(s)
		if e != api.OK || f != api.OK || len(got) != 1 || !tree.SameDecl(got[0], d) {
			t.Fatalf("Decl: %.400q: %v, %v", s, e, f)
		}
		each += s
	}
	s, e := File(l)
	got, _, f := parse.File(s)
	if e != api.OK || f != api.OK || s != each || !slices.EqualFunc(got, l, tree.SameDecl) {
		t.Fatalf("File: %.400q: %v, %v", s, e, f)
	}
}

// every gives all expressions of so many nodes, of a few leaves.
func every(nodes int) []tree.Node {
	if nodes == 1 {
		return []tree.Node{ref("x"), set(0), set(7)}
	}
	var l []tree.Node
	for of := 1; of < nodes-1; of += 2 {
		for _, a := range every(of) {
			for _, b := range every(nodes - 1 - of) {
				l = append(l, app(a, b), pi("_", a, b), pi("x", a, b), lam("_", a, b), lam("y", a, b))
			}
		}
	}
	return l
}

func TestAllAgain(t *testing.T) { // P6.2
	for nodes := 1; nodes <= 7; nodes += 2 {
		texts := map[string]int{}
		for i, n := range every(nodes) {
			s := rereadExpr(t, n)
			if j, twice := texts[s]; twice {
				t.Errorf("%q: of the %d-th and the %d-th", s, j, i)
			}
			texts[s] = i
			if nodes < 7 {
				rereadPattern(t, dot(n))
				rereadPattern(t, con("c", dot(n), dot(n), wild()))
				noneLess(t, n, s)
			}
		}
	}
}

// noneLess checks that no parentheses can be left out of an expression's text, but those that belong to a variable.
func noneLess(t *testing.T, n tree.Node, s string) {
	t.Helper()
	var opened []int
	for i := range s {
		switch s[i] {
		case '(':
			opened = append(opened, i)
		case ')':
			at := opened[len(opened)-1]
			opened = opened[:len(opened)-1]
			less := s[:at] + s[at+1:i] + s[i+1:]
			if got, _, e := parse.Expr(less); e == api.OK && tree.Same(got, n) {
				t.Errorf("%q: as well %q", s, less)
			}
		}
	}
}

// maker makes right trees by chance.
type maker struct {
	*rand.Rand
}

func (m maker) name() string {
	l := []string{"x", "y'", "_z", "ℕ", "suc", "A1", "recorded", "_'_", strings.Repeat("n", api.MaxName)}
	return l[m.Intn(len(l))]
}

func (m maker) expr(deep int) tree.Node {
	kind := m.Intn(7)
	switch {
	case deep == 0 || kind == 0:
		return ref(m.name())
	case kind == 1:
		return set(m.Intn(api.MaxLevel + 1))
	}
	a, b := m.expr(deep-1), m.expr(deep-1)
	return []tree.Node{pi("_", a, b), pi(m.name(), a, b), lam("_", a, b), lam(m.name(), a, b), app(a, b)}[kind-2]
}

func (m maker) pattern(deep int) tree.Node {
	switch kind := m.Intn(6); {
	case deep == 0 || kind == 0:
		return pvar(m.name())
	case kind == 1:
		return wild()
	case kind == 2:
		return absurd()
	case kind == 3:
		return dot(m.expr(deep - 1))
	}
	return con(m.name(), some(1+m.Intn(4), func() tree.Node { return m.pattern(deep - 1) })...)
}

func (m maker) bind() tree.Bind { return bind(m.name(), m.expr(3)) }

func (m maker) row() tree.Row {
	l := some(m.Intn(5), func() tree.Node { return m.pattern(3) })
	if m.Intn(3) == 0 {
		return none(l...)
	}
	return row(m.expr(4), l...)
}

func (m maker) decl() tree.Decl {
	switch m.Intn(3) {
	case 0:
		return def(m.name(), m.expr(4), some(m.Intn(5), m.row)...)
	case 1:
		return over(data(m.name(), m.expr(3), some(m.Intn(5), m.bind)...), some(m.Intn(4), m.bind)...)
	}
	return over(record(m.name(), m.expr(3), some(m.Intn(5), m.bind)...), some(m.Intn(4), m.bind)...)
}

// some gives n that are made one by one.
func some[T any](n int, one func() T) []T {
	var l []T
	for range n {
		l = append(l, one())
	}
	return l
}

func TestMadeAgain(t *testing.T) { // P6.2
	m := maker{rand.New(rand.NewSource(6))}
	for range 4000 {
		rereadExpr(t, m.expr(7))
		rereadPattern(t, m.pattern(5))
	}
	for range 1000 {
		rereadFile(t, some(m.Intn(4), m.decl))
	}
	l, _ := decls()
	rereadFile(t, l)
	rereadFile(t, nil)
}

func TestGreatAgain(t *testing.T) { // P6.2: at the limits
	rereadExpr(t, longExpr(api.MaxText))
	rereadPattern(t, longPattern(api.MaxText))
	for _, d := range longDecls(api.MaxText) {
		rereadFile(t, []tree.Decl{d})
	}
	rereadExpr(t, deep(api.MaxDepth))
	for _, leaves := range []int{api.MaxNodes - 3, api.MaxNodes - 2} {
		p := con("c", slices.Repeat([]tree.Node{wild()}, leaves)...)
		s, e := Pattern(p)
		if fits := leaves+3 <= api.MaxNodes; e != api.OK || few(s) != fits {
			t.Errorf("%d leaves: %v", leaves, e)
		} else if fits {
			rereadPattern(t, p)
		}
	}
}

// calls read a text and print it.
var calls = map[string]func(string) (string, api.Errno){
	"Expr": func(s string) (string, api.Errno) {
		n, _, e := parse.Expr(s)
		if e != api.OK {
			return "", e
		}
		return Expr(n)
	},
	"Pats": func(s string) (string, api.Errno) {
		l, _, e := parse.Pats(s)
		var texts []string
		for _, n := range l {
			text, f := Pattern(n)
			if f != api.OK {
				return "", f
			}
			texts = append(texts, text)
		}
		return strings.Join(texts, " "), e
	},
	"File": func(s string) (string, api.Errno) {
		l, _, e := parse.File(s)
		if e != api.OK {
			return "", e
		}
		return File(l)
	},
}

// settled checks that a text is printed as another one, which is printed as itself.
func settled(t *testing.T, call, s, want string) {
	t.Helper()
	first, e := calls[call](s)
	again, f := calls[call](first)
	if first != want || again != first || e != api.OK || f != api.OK {
		t.Errorf("%s(%.200q): %.300q, %v, then %.300q, %v; not %.300q", call, s, first, e, again, f, want)
	}
}

func TestSettled(t *testing.T) { // P6.3
	for _, c := range []struct{ call, s, want string }{
		{"Expr", " ((x)) ", "x"},
		{"Expr", "Set 0", "Set"},
		{"Expr", "(Set\n1)", "Set 1"},
		{"Expr", "f (Set 1) ((x))", "f Set 1 x"},
		{"Expr", "(((f x)) y)", "f x y"},
		{"Expr", "(A)→(B→(C))", "A -> B -> C"},
		{"Expr", "(A->B)->C", "(A -> B) -> C"},
		{"Expr", "(_ : A) -> B", "A -> B"},
		{"Expr", "(_ : (_ : A) -> B) -> C", "(A -> B) -> C"},
		{"Expr", "λ(x:A)→(λ(_:(A))→x)", `\ (x : A) -> \ (_ : A) -> x`},
		{"Expr", "((x:A)->(B)) -- a remark", "(x : A) -> B"},
		{"Expr", "(x : {- a type -} A) -> (((y : B) -> C))", "(x : A) -> (y : B) -> C"},
		{"Pats", "", ""},
		{"Pats", "(n) ((_)) (()) ( ) (suc (n)) ((suc n))", "n _ () () (suc n) (suc n)"},
		{"Pats", ". x .(x) .((x)) .(f x) .Set .(Set 2) (.Set 0)", ".x .x .x .(f x) .Set .Set 2 .Set"},
		{"File", "", ""},
		{"File", "-- nothing", ""},
		{"File", "data Nat:Set{zero:Nat;suc:Nat->Nat;}", "data Nat : Set {\n  zero : Nat;\n  suc : Nat -> Nat;\n}\n"},
		{"File", "record P(A:Set)(B:(x:A)->Set):Set{fst:A;snd:B fst;}", "record P (A : Set) (B : (x : A) -> Set) : Set {\n  fst : A;\n  snd : B fst;\n}\n"},
		{"File", "def f:(A){;()\n;(x)=(x);=\n\ny;.(x)(c _)=λ(x:A)→x;}", "def f : A {\n  ;\n  () ;\n  x = x;\n  = y;\n  .x (c _) = \\ (x : A) -> x;\n}\n"},
		{"File", "def f : A { } data D : Set 0 { } record R : Set 7 { }", "def f : A {\n}\ndata D : Set {\n}\nrecord R : Set 7 {\n}\n"},
	} {
		settled(t, c.call, c.s, c.want)
	}
	l, texts := decls()
	for i := range l {
		settled(t, "File", texts[i], texts[i])
		settled(t, "File", strings.Join(strings.Fields(texts[i]), "\n{- "+strconv.Itoa(i)+" -}\t"), texts[i])
	}
}

// TestSettledByChance spoils texts, and prints those that can still be read.
func TestSettledByChance(t *testing.T) { // P6.3
	m := maker{rand.New(rand.NewSource(63))}
	pieces := []string{"(", ")", "x", "_", ":", "->", `\`, "Set", "1", "0", ".", ";", "=", "(x)", "()", "(_ : x)", "{- - -}"}
	read := 0
	for range 20000 {
		var l []string
		for range 1 + m.Intn(8) {
			l = append(l, pieces[m.Intn(len(pieces))])
		}
		s := strings.Join(l, " ")
		for call, text := range map[string]string{"Expr": s, "Pats": s, "File": "def f : A { " + s + "; }"} {
			if first, e := calls[call](text); e == api.OK {
				read++
				settled(t, call, text, first)
			}
		}
	}
	if read < 1000 {
		t.Errorf("%d texts were read", read)
	}
}
