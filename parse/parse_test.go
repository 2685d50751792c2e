package parse

import (
	"reflect"
	"strconv"
	"strings"
	"testing"

	"scholium/api"
	"scholium/tree"
)

// told writes a node with its offset: a name or a number, or a word ahead of what stands in it.
func told(n tree.Node) string {
	words := [...]string{"none", "", "Set", "pi", "lam", "app", "", "any", "con", "no", "dot"}
	word := words[n.Kind] + n.Name
	if n.Kind == tree.ESet {
		word += strconv.Itoa(n.N)
	}
	if n.Name != "" && words[n.Kind] != "" {
		word = words[n.Kind] + " " + n.Name
	}
	word += "@" + strconv.Itoa(n.At)
	if len(n.Sub) == 0 {
		return word
	}
	return "(" + word + " " + strings.Join(each(n.Sub, told), " ") + ")"
}

func toldBind(b tree.Bind) string {
	return b.Name + "@" + strconv.Itoa(b.At) + ":" + told(b.Type)
}

func toldRow(w tree.Row) string {
	s := "row@" + strconv.Itoa(w.At) + " " + strings.Join(each(w.Pats, told), " ")
	if w.Has {
		return s + " = " + told(w.Body)
	}
	return s
}

func toldDecl(d tree.Decl) string {
	words := [...]string{"none", "data", "record", "def"}
	return words[d.Kind] + " " + d.Name + "@" + strconv.Itoa(d.At) + " [" + strings.Join(each(d.Tele, toldBind), ", ") + "] " + told(d.Type) +
		" {" + strings.Join(append(each(d.Cons, toldBind), each(d.Rows, toldRow)...), "; ") + "}"
}

func each[T any](l []T, one func(T) string) []string {
	var told []string
	for _, x := range l {
		told = append(told, one(x))
	}
	return told
}

func toldPats(l []tree.Node) string  { return strings.Join(each(l, told), " ") }
func toldDecls(l []tree.Decl) string { return strings.Join(each(l, toldDecl), " ") }

// reads are the calls, with what they answer told: a text, an offset, an error, and whether the answer is empty.
var reads = map[string]func(string) (string, int, api.Errno, bool){
	"File": func(s string) (string, int, api.Errno, bool) {
		l, at, e := File(s)
		return toldDecls(l), at, e, l == nil
	},
	"Expr": func(s string) (string, int, api.Errno, bool) {
		n, at, e := Expr(s)
		return told(n), at, e, reflect.DeepEqual(n, tree.Node{})
	},
	"Pats": func(s string) (string, int, api.Errno, bool) {
		l, at, e := Pats(s)
		return toldPats(l), at, e, l == nil
	},
}

// taken checks that a text is read, and as what.
func taken(t *testing.T, call, s, want string) {
	t.Helper()
	if got, at, e, _ := reads[call](s); got != want || at != len(s) || e != api.OK {
		t.Errorf("%s(%.200q): %.400s at %d, %v; not %.400s", call, s, got, at, e, want)
	}
}

// right checks that a text is read.
func right(t *testing.T, call, s string) {
	t.Helper()
	if _, at, e, _ := reads[call](s); at != len(s) || e != api.OK {
		t.Errorf("%s(%.200q): %d, %v", call, s, at, e)
	}
}

// refused checks that a text has an error, at an offset, and nothing beside it.
func refused(t *testing.T, call, s string, at int, want api.Errno) {
	t.Helper()
	if got, stop, e, empty := reads[call](s); !empty || stop != at || e != want {
		t.Errorf("%s(%.200q): %.200s at %d, %v; not %v at %d", call, s, got, stop, e, want, at)
	}
}

func TestExprs(t *testing.T) { // P5.1
	for _, c := range []struct{ s, want string }{
		{"x", "x@0"},
		{" x ", "x@1"},
		{"_x", "_x@0"},
		{"α'", "α'@0"},
		{"(x)", "x@1"},
		{"((x))", "x@2"},
		{"Set", "Set0@0"},
		{"Set 0", "Set0@0"},
		{"Set 1", "Set1@0"},
		{"Set 7", "Set7@0"},
		{"Set\n6 x", "(app@0 Set6@0 x@6)"},
		{"Set Set 1", "(app@0 Set0@0 Set1@4)"},
		{"Set x Set 2", "(app@0 (app@0 Set0@0 x@4) Set2@6)"},
		{"A -> B -> C", "(pi _@0 A@0 (pi _@5 B@5 C@10))"},
		{"(A -> B) -> C", "(pi _@1 (pi _@1 A@1 B@6) C@12)"},
		{"A → B", "(pi _@0 A@0 B@6)"},
		{"f x y", "(app@0 (app@0 f@0 x@2) y@4)"},
		{"f (x y)", "(app@0 f@0 (app@3 x@3 y@5))"},
		{"(f x) y", "(app@1 (app@1 f@1 x@3) y@6)"},
		{"(f) x", "(app@1 f@1 x@4)"},
		{"f x -> g y", "(pi _@0 (app@0 f@0 x@2) (app@7 g@7 y@9))"},
		{"(f) -> x", "(pi _@1 f@1 x@7)"},
		{"(f) x -> y", "(pi _@1 (app@1 f@1 x@4) y@9)"},
		{"f Set 1 -> Set 2", "(pi _@0 (app@0 f@0 Set1@2) Set2@11)"},
		{"(x : A) -> B", "(pi x@0 A@5 B@11)"},
		{"(_ : A) -> B", "(pi _@0 A@5 B@11)"},
		{"(x:A)->x", "(pi x@0 A@3 x@7)"},
		{"((x : A) -> B)", "(pi x@1 A@6 B@12)"},
		{"((x : A) -> B) C", "(app@1 (pi x@1 A@6 B@12) C@15)"},
		{"((x : A) -> B) -> C", "(pi _@1 (pi x@1 A@6 B@12) C@18)"},
		{"(x : A) -> (y : B) -> C", "(pi x@0 A@5 (pi y@11 B@16 C@22))"},
		{"A -> (x : B) -> C", "(pi _@0 A@0 (pi x@5 B@10 C@16))"},
		{"(x : A) -> B -> C", "(pi x@0 A@5 (pi _@11 B@11 C@16))"},
		{"(x : (y : A) -> B) -> C", "(pi x@0 (pi y@5 A@10 B@16) C@22)"},
		{"(x : A -> B) -> C", "(pi x@0 (pi _@5 A@5 B@10) C@16)"},
		{`\ (x : A) -> x`, "(lam x@0 A@7 x@13)"},
		{`\(_ : A) -> x y`, "(lam _@0 A@6 (app@12 x@12 y@14))"},
		{"λ (x : A) → x", "(lam x@0 A@8 x@15)"},
		{`\ (x : A) -> \ (y : B) -> x`, "(lam x@0 A@7 (lam y@13 B@20 x@26))"},
		{`\ (x : \ (y : A) -> y) -> x -> x`, "(lam x@0 (lam y@7 A@14 y@20) (pi _@26 x@26 x@31))"},
		{`(\ (x : A) -> x) y`, "(app@1 (lam x@1 A@8 x@14) y@17)"},
		{`f (\ (x : A) -> x)`, "(app@0 f@0 (lam x@3 A@10 x@16))"},
		{`A -> \ (x : A) -> x`, "(pi _@0 A@0 (lam x@5 A@12 x@18))"},
		{`f ((x : A) -> B)`, "(app@0 f@0 (pi x@3 A@8 B@14))"},
		{"x -- a remark", "x@0"},
		{"{- f -} x {- {- : -} -} y", "(app@8 x@8 y@24)"},
		{strings.Repeat("x", api.MaxName), strings.Repeat("x", api.MaxName) + "@0"},
	} {
		taken(t, "Expr", c.s, c.want)
	}
}

func TestPats(t *testing.T) { // P5.1
	for _, c := range []struct{ s, want string }{
		{"", ""},
		{" -- nothing", ""},
		{"n", "n@0"},
		{"(n)", "n@1"},
		{"((n))", "n@2"},
		{"_", "any@0"},
		{"(_)", "any@1"},
		{"()", "no@0"},
		{" ( )", "no@1"},
		{"(())", "no@1"},
		{"(suc n)", "(con suc@0 n@5)"},
		{"((suc n))", "(con suc@1 n@6)"},
		{" ( suc n)", "(con suc@1 n@7)"},
		{"(suc (suc n))", "(con suc@0 (con suc@5 n@10))"},
		{"(suc ((n)))", "(con suc@0 n@7)"},
		{"(suc (zero))", "(con suc@0 zero@6)"},
		{"(c a _ () .b (d e) (f))", "(con c@0 a@3 any@5 no@7 (dot@10 b@11) (con d@13 e@16) f@20)"},
		{"x y", "x@0 y@2"},
		{"x _ () (y)", "x@0 any@2 no@4 y@8"},
		{"suc n", "suc@0 n@4"},
		{".x", "(dot@0 x@1)"},
		{". x", "(dot@0 x@2)"},
		{".x y", "(dot@0 x@1) y@3"},
		{".(x y)", "(dot@0 (app@2 x@2 y@4))"},
		{"(.x)", "(dot@1 x@2)"},
		{"((.x))", "(dot@2 x@3)"},
		{".(x)", "(dot@0 x@2)"},
		{".((x))", "(dot@0 x@3)"},
		{".Set", "(dot@0 Set0@1)"},
		{".Set 3 x", "(dot@0 Set3@1) x@7"},
		{".Set x", "(dot@0 Set0@1) x@5"},
		{".((x : A) -> B)", "(dot@0 (pi x@2 A@7 B@13))"},
		{".(A -> B)", "(dot@0 (pi _@2 A@2 B@7))"},
		{`.(\ (x : A) -> x)`, "(dot@0 (lam x@2 A@9 x@15))"},
		{".(f ((x : A) -> x)) .y", "(dot@0 (app@2 f@2 (pi x@5 A@10 x@16))) (dot@20 y@21)"},
	} {
		taken(t, "Pats", c.s, c.want)
	}
}

func TestDecls(t *testing.T) { // P5.1
	for _, c := range []struct{ s, want string }{
		{"", ""},
		{" {- nothing -}\n", ""},
		{"data D : Set { }", "data D@0 [] Set0@9 {}"},
		{"record R : Set 1 { }", "record R@0 [] Set1@11 {}"},
		{"def f : A { }", "def f@0 [] A@8 {}"},
		{" data D:A->Set 1{}", "data D@1 [] (pi _@8 A@8 Set1@11) {}"},
		{"data Nat : Set { zero : Nat; suc : Nat -> Nat; }", "data Nat@0 [] Set0@11 {zero@17:Nat@24; suc@29:(pi _@35 Nat@35 Nat@42)}"},
		{"data D (A : Set) (a : A) : Set { c : D A a; }", "data D@0 [A@8:Set0@12, a@18:A@22] Set0@27 {c@33:(app@37 (app@37 D@37 A@39) a@41)}"},
		{"record P (A : Set) : Set { fst : A; snd : (x : A) -> A; }", "record P@0 [A@10:Set0@14] Set0@21 {fst@27:A@33; snd@36:(pi x@42 A@47 A@53)}"},
		{"def f : Nat -> Nat { zero = zero; (suc n) = f n; }", "def f@0 [] (pi _@8 Nat@8 Nat@15) {row@21 zero@21 = zero@28; row@34 (con suc@34 n@39) = (app@44 f@44 n@46)}"},
		{"def f : A { ; }", "def f@0 [] A@8 {row@12 }"},
		{"def f : A { = x; }", "def f@0 [] A@8 {row@12  = x@14}"},
		{"def f : A { () ; x _ ; .x y = y ; (x) ; }", "def f@0 [] A@8 {row@12 no@12; row@17 x@17 any@19; row@23 (dot@23 x@24) y@26 = y@30; row@34 x@35}"},
		{"def f : A { ; ; = x ; }", "def f@0 [] A@8 {row@12 ; row@14 ; row@16  = x@18}"},
		{"data A : Set { } data B : Set { } def c : A { }", "data A@0 [] Set0@9 {} data B@17 [] Set0@26 {} def c@34 [] A@42 {}"},
		{"data A (a : (b : C) -> D) : Set { }", "data A@0 [a@8:(pi b@12 C@17 D@23)] Set0@28 {}"},
		{"data A : (b : C) -> D { }", "data A@0 [] (pi b@9 C@14 D@20) {}"},
		{`def f : A { = \ (x : A) -> x; }`, "def f@0 [] A@8 {row@12  = (lam x@14 A@21 x@27)}"},
	} {
		taken(t, "File", c.s, c.want)
	}
}

func TestWrong(t *testing.T) { // P5.1: ; ahead of the token that may not stand there tells where it is
	for call, texts := range map[string][]string{
		"Expr": {
			"§", "  §", "-- x§", "§_", "§)", "§;", "§:", "§->", "§.x", "§3", "§=", "§data", "§{", "(§)", "(§_)", "(x§", "(§", "x §)", "x §_", "x §.", "x §;", "x §=", "x §3", "x §def", "x §}",
			"x §: A", "x §, y", "x §| y", "f §\\ (x : A) -> x", "A -> §", "A -> §-> B", "A -> §_", "A -> B §)", "A -> §)",
			"Set §8", "Set §999", "Set §10", "Set 3 §4", "Set 7 §7", "Set §_", "(Set §8)", "f Set §9",
			"(x :§", "(x : §)", "(x : A§", "(x : A)§", "(x : A) §x", "(x : A) §= B", "(x : A) -> §", "(x : A §, B) -> C", "(x : A §: B) -> C", "(_ : A) §", "(§_ A) -> B", "(x §_ : A) -> B", "(x y §: A) -> B",
			"(f x §: A) -> B", "((x) §: A) -> B", "(§3 : A) -> B", "(§def : A) -> B", "(Set §: A) -> B", "((x : A)§) -> B", "(x : A) -> B §: C",
			`\§`, `\ §x`, `\ (§`, `\ (§) -> x`, `\ (x§`, `\ (x §) -> x`, `\ (x :§`, `\ (x : §) -> x`, `\ (x : A§`, `\ (x : A §: B) -> x`, `\ (x : A)§`, `\ (x : A) §x`, `\ (x : A) -> §`, `\ (§Set : A) -> x`, `\ (x §y : A) -> x`, `\ (x : A) -> \§`, `\ §: A -> x`,
			"f §(x : A) -> B", "f x §(_ : A) -> B", "f §(x : A)", "(f §(x : A) -> B)", "Set §(x : A) -> B", "Set 1 §(x : A) -> B", "(f) §(x :", "f §(x : ;",
		},
		"Pats": {
			"§)", "§:", "§=", "§;", "§3", "§Set", "§data", "§->", `§\`, "§{", "§|", "§,", "x §:", "x §=", "x §;", "x §)", "(§", "(x§", "(x §: A)", "(x y§", "(§: A)", "(_ §x)", "(_ §: A)", "(_§", "(() §x)", "((x) §y)", "((c x) §y)", "(.x §y)", "((c x §: A))",
			"(c §Set)", "(c x §-> y)", "(§Set)", "(§3)", ".§", ".§_", ".§)", ".§.x", ".§.", ".§\\ (x : A) -> x", ".(§)", ".(x§", ".(x §: A)", ".(x §: A) -> B", ".(§_", ".Set §8", ".x §-> y", "(c .(x §: A) -> B)", "(.(x §: A) -> B)", ".(§_ : A)", ".((x : A)§)", ".(f §(x : A))", ".§def", "( §}",
		},
		"File": {
			"§x", "§}", "§Set", "§(", "§;", "data§", "data §_ : Set { }", "data §data", "data §(", "data §3", "data §Set : Set { }", "data D§", "data D §{ }", "data D :§", "data D : §{ }", "data D : Set§", "data D : Set §;", "data D : Set {§", "data D : Set { } §}", "data D : Set { } §;", "data D : Set { } §x",
			"data D : Set { §_ : D; }", "data D : Set { §; }", "data D : Set { §= }", "data D : Set { c§", "data D : Set { c §; }", "data D : Set { c §x : D; }", "data D : Set { c :§", "data D : Set { c : §; }", "data D : Set { c : D §}", "data D : Set { c : D§", "data D : Set { c : D; §; }", "data D : Set { c : D; §data", "data D : Set { §(c) : D; }", "data D : Set { c : D §= D; }",
			"data D (§_ : A) : Set { }", "data D (§) : Set { }", "data D (x §) : Set { }", "data D (x §y : A) : Set { }", "data D (x :§", "data D (x : §) : Set { }", "data D (x : A§", "data D (x : A §: B) : Set { }", "data D (x : A) §-> Set { }", "data D (x : A) §Set { }", "data D (x : A) (§", "data D §x : Set { }", "data D (x : A)§", "data D §_ : Set { }", "data D (§(x : A)) : Set { }",
			"record R§", "record §_ : Set { }", "record R : Set { f : A §, g : A; }", "record R : Set { §() : A; }",
			"def f §(x : A) : B { }", "def f§", "def f :§", "def §_ : A { }", "def §def", "def f : A {§", "def f : A { x§", "def f : A { x §}", "def f : A { x §: A; }", "def f : A { x =§", "def f : A { x = §; }", "def f : A { x = y§", "def f : A { x = y §}", "def f : A { x = y §= z; }", "def f : A { §Set = x; }", "def f : A { §{", "def f : A { x = y §_; }", "def f : A { x §3 = y; }", "def f : A { (x §: A) = y; }", "def f : A { = x; §data", "def f : A { ; §def", "def f : A { ; §) }", "def f : A { x = f §(y : A) -> B; }", "def f : A { §\\ (x : A) -> x; }", "def f : A { x §-> y; }",
			"data A : Set { } def b : A §} data", "def f : A { } §= ",
		},
	} {
		for _, s := range texts {
			if at := strings.Index(s, "§"); strings.Count(s, "§") == 1 {
				refused(t, call, s[:at]+s[at+len("§"):], at, api.ErrForm)
			} else {
				t.Errorf("no place in %q", s)
			}
		}
	}
}

func TestTokensFirst(t *testing.T) { // P5.1: what can't be cut is told ahead of what may not stand
	for _, c := range []struct {
		s  string
		at int
		e  api.Errno
	}{
		{") x #", 4, api.ErrForm},
		{"x \xff", 2, api.ErrForm},
		{") {- x", 2, api.ErrForm},
		{") 1000", 2, api.ErrForm},
		{"Set 8 - x", 6, api.ErrForm},
		{"x " + strings.Repeat("a", api.MaxName+1), 2, api.ErrForm},
		{strings.Repeat(" ", api.MaxText+1), 0, api.ErrLong},
		{") " + strings.Repeat(" ", api.MaxText), 0, api.ErrLong},
		{") " + strings.Repeat("x ", api.MaxNodes), 2 * api.MaxNodes, api.ErrLong},
		{strings.Repeat(".", api.MaxNodes+1), api.MaxNodes, api.ErrLong},
	} {
		for call := range reads {
			refused(t, call, c.s, c.at, c.e)
		}
	}
	refused(t, "Expr", strings.Repeat(".", api.MaxNodes), 0, api.ErrForm)
	right(t, "Expr", "x"+strings.Repeat(" ", api.MaxText-1))
	right(t, "File", strings.Repeat(" ", api.MaxText))
	right(t, "Pats", strings.Repeat(" ", api.MaxText))
}

func TestManyTokens(t *testing.T) { // P5.1: parentheses are no nodes, and declarations as many as there is room for
	n := api.MaxNodes/2 - 1
	taken(t, "Expr", strings.Repeat("(", n)+"x"+strings.Repeat(")", n), "x@"+strconv.Itoa(n))
	taken(t, "Pats", strings.Repeat("(", n)+"_"+strings.Repeat(")", n), "any@"+strconv.Itoa(n))
	refused(t, "Expr", strings.Repeat("(", 2*n), 2*n, api.ErrForm)
	refused(t, "Pats", strings.Repeat("(", 2*n), 2*n, api.ErrForm)
	refused(t, "Expr", strings.Repeat("x->", n), 3*n, api.ErrForm)
	decl := "def f:A{}"
	l, at, e := File(strings.Repeat(decl, api.MaxNodes/6))
	if len(l) != api.MaxNodes/6 || at != len(decl)*len(l) || e != api.OK || l[len(l)-1].At != at-len(decl) {
		t.Errorf("%d at %d, %v", len(l), at, e)
	}
	// The longest list of patterns there can be.
	l2, _, e := Pats("(c" + strings.Repeat(" _", api.MaxNodes-3) + ")")
	if e != api.OK || len(l2) != 1 || len(l2[0].Sub) != api.MaxNodes-3 {
		t.Errorf("%d, %v", len(l2), e)
	}
}

// deep gives texts of one node that is n deep: first with which call each is read.
func deep(n int) map[string][]string {
	m := n - 1
	return map[string][]string{
		"Expr": {
			strings.Repeat("A -> ", m) + "A",
			strings.Repeat("(", m) + "A" + strings.Repeat(" -> A)", m),
			strings.Repeat("(x : A) -> ", m) + "A",
			strings.Repeat("(_ : ", m) + "A" + strings.Repeat(") -> A", m),
			strings.Repeat(`\ (x : A) -> `, m) + "x",
			strings.Repeat(`\ (x : `, m) + "A" + strings.Repeat(") -> x", m),
			"f" + strings.Repeat(" x", m),
			"f" + strings.Repeat(" Set 3", m),
			strings.Repeat("f (", m) + "x" + strings.Repeat(")", m),
		},
		"Pats": {
			strings.Repeat("(suc ", m) + "n" + strings.Repeat(")", m),
			strings.Repeat("(suc (", m) + "()" + strings.Repeat("))", m),
			".(f" + strings.Repeat(" x", m-1) + ")",
			".(" + strings.Repeat("f (", m-1) + "x" + strings.Repeat(")", m-1) + ")",
			strings.Repeat("(c _ ", m-2) + ".(A -> A)" + strings.Repeat(" x)", m-2),
		},
	}
}

// places are texts in which an expression, or a pattern, may stand: what is ahead of it, and what is behind.
var places = map[string][][2]string{
	"Expr": {
		{"data D : ", " { }"}, {"record D : ", " { }"}, {"def f : ", " { }"}, {"data D (x : ", ") : Set { }"}, {"data D (x : A) (y : ", ") : Set { c : D; }"}, {"record D (x : ", ") : Set { }"},
		{"data D : Set { c : ", "; }"}, {"record D : Set { c : A; d : ", "; e : A; }"}, {"def f : A { = ", "; }"}, {"def f : A { x y = z; (x) _ = ", "; }"},
	},
	"Pats": {{"def f : A { ", " }"}, {"def f : A { x ", " = z; }"}, {"def f : A { ; x () ", "; = y; }"}},
}

// within checks a text wherever it may stand in a file.
func within(t *testing.T, call, s string, at int, e api.Errno) {
	t.Helper()
	for _, p := range places[call] {
		behind := p[1]
		if call == "Pats" && behind == " }" {
			behind = "; }"
		}
		if e == api.OK {
			right(t, "File", p[0]+s+behind)
		} else {
			refused(t, "File", p[0]+s+behind, len(p[0])+at, e)
		}
	}
}

func TestDepth(t *testing.T) { // P5.1, P5.2
	for call, texts := range deep(api.MaxDepth) {
		for _, s := range texts {
			right(t, call, s)
			right(t, call, "(("+s+"))")
			within(t, call, s, 0, api.OK)
		}
	}
	for _, n := range []int{api.MaxDepth + 1, api.MaxDepth + 2, 2 * api.MaxDepth} {
		for call, texts := range deep(n) {
			for _, s := range texts {
				// Of what is read as a whole it is the first token that tells the place: a parenthesis too.
				refused(t, call, s, 0, api.ErrLong)
				refused(t, call, " (("+s+"))", 1, api.ErrLong)
				within(t, call, s, 0, api.ErrLong)
				within(t, call, "("+s+")", 0, api.ErrLong)
			}
		}
	}
	refused(t, "Pats", "x (y) "+deep(api.MaxDepth + 1)["Pats"][0], 6, api.ErrLong)
}

// bush gives an expression of leaves, at most 100 deep, and of twice as many nodes but one: the further behind a group stands, the more leaves it has.
func bush(leaves int) string {
	var groups []string
	for leaves > 0 {
		n := min(36+len(groups), leaves)
		leaves -= n
		groups = append(groups, "(x"+strings.Repeat(" x", n-1)+")")
	}
	return strings.Join(groups, " ")
}

func TestNodes(t *testing.T) { // P5.1, P5.2
	most, more := bush(api.MaxNodes/2), bush(api.MaxNodes/2+1)
	n, _, e := Expr(most)
	if e != api.OK || tree.Size(n) != api.MaxNodes-1 || tree.Depth(n) > 100 {
		t.Fatalf("%d nodes, %d deep, %v", tree.Size(n), tree.Depth(n), e)
	}
	within(t, "Expr", most, 0, api.OK)
	refused(t, "Expr", more, 0, api.ErrLong)
	refused(t, "Expr", "\n("+more+")", 1, api.ErrLong)
	within(t, "Expr", more, 0, api.ErrLong)
	for _, s := range []string{".(" + most + ")", "(.(" + most + "))"} {
		right(t, "Pats", s)
		within(t, "Pats", s, 0, api.OK)
	}
	for _, s := range []string{"(c .(" + most + "))", "(c .(" + bush(api.MaxNodes/2-1) + ") _ _)", ".(" + more + ")", "(.(" + more + "))"} {
		refused(t, "Pats", s, 0, api.ErrLong)
		refused(t, "Pats", "_ "+s, 2, api.ErrLong)
		within(t, "Pats", s, 0, api.ErrLong)
	}
	right(t, "Pats", "(c .("+bush(api.MaxNodes/2-1)+") _)")
	// The limits are each one's, not a list's and not a declaration's.
	right(t, "Pats", ".("+bush(1200)+") (c .("+bush(1200)+") .("+bush(1200)+") _) _ .("+bush(1200)+") .("+bush(1200)+")")
	right(t, "File", "data D (x : "+bush(1200)+") : "+bush(1200)+" { c : "+bush(1200)+"; d : "+bush(1200)+"; e : "+bush(1200)+"; }")
}

func TestLongOrForm(t *testing.T) { // P5.1: what was read is asked, ahead of what stands behind it, but behind what stands in it
	for call, texts := range deep(api.MaxDepth + 1) {
		for _, s := range texts {
			refused(t, call, s+" }", 0, api.ErrLong)
			refused(t, call, s+" ;", 0, api.ErrLong)
			refused(t, call, "("+s+" =)", len(s)+2, api.ErrForm)
			refused(t, call, "("+s, len(s)+1, api.ErrForm)
		}
	}
	long := deep(api.MaxDepth + 1)["Expr"][0]
	refused(t, "Expr", "(x : "+long+") }", len(long)+7, api.ErrForm)
	refused(t, "Expr", long+" -> ", len(long)+4, api.ErrForm)
	refused(t, "File", "data D : "+long+" x", 9, api.ErrLong)
	refused(t, "File", "data D : x : "+long, 11, api.ErrForm)
	refused(t, "File", "data D (x : "+long+" : A) : Set { }", 12, api.ErrLong)
	refused(t, "File", "def f : A { .("+long+") } = "+long, 12, api.ErrLong)
	refused(t, "File", "def f : A { .("+long+" } = "+long, 12+2+len(long)+1, api.ErrForm)
	refused(t, "Pats", strings.Repeat("x ", api.MaxTele)+".("+long+")", 2*api.MaxTele, api.ErrLong)
	refused(t, "Pats", strings.Repeat("x ", api.MaxTele-1)+".("+long+") x", 2*api.MaxTele-2, api.ErrLong)
}

func TestLists(t *testing.T) { // P5.1, P5.2: one too many, wherever it breaks off
	for _, c := range []struct {
		call, ahead, one, behind string
		most                     int
		begins, others           []string
	}{
		{"Pats", "", "x ", "", api.MaxTele, []string{"x", "_", "()", "(", ".", ". )", "(c x)", "_ :"}, []string{")", "=", "Set", "3", ":", "data", "}"}},
		{"File", "def f : A { ", "_ ", "; }", api.MaxTele, []string{"x ;", "_", "()", "(", ".x = y", ". )"}, []string{")", ":", "Set", "3", "}", "", "def"}},
		{"File", "def f : A { x; ", "(c x) ", "= y; z; }", api.MaxTele, []string{"x ;", "_", "()", "(", ".x = y", ". )"}, []string{")", ":", "Set", "3", "}", "", "def"}},
		{"File", "data D ", "(x : A) ", ": Set { }", api.MaxTele, []string{"(", "(x : A)", "( )", "(_", "((", "( } :"}, []string{"x", "_", ")", "{", "}", "", "->", "Set"}},
		{"File", "record D ", "(x : A) ", ": Set { }", api.MaxTele, []string{"(", "(x : A)", "( )", "(_", "(("}, []string{"x", ")", "{", "=", ""}},
		{"File", "data D : Set { ", "c : D; ", "}", api.MaxCons, []string{"c : D;", "c", "_", ")", ";", "", "data", "{", "8", "->", "Set", "("}, nil},
		{"File", "record D : Set { ", "c : D; ", "}", api.MaxCons, []string{"c : D;", "c", "_", ")", ";", "", "data", "{", "8", "->", "Set", "("}, nil},
		{"File", "def f : A { ", "x y = z; ", "}", api.MaxRows, []string{"x = y;", ";", "=", "_", ")", "", "def", "{", "8", ":", "Set", "(", ".x"}, nil},
		{"File", "def f : A { ", ";", "}", api.MaxRows, []string{"x = y;", ";", "=", "_", ")", "", "def", "{", "8", ":", "Set", "(", ".x"}, nil},
	} {
		ahead := c.ahead + strings.Repeat(c.one, c.most)
		right(t, c.call, ahead+c.behind)
		right(t, c.call, c.ahead+c.behind)
		for _, s := range c.begins {
			refused(t, c.call, ahead+s, len(ahead), api.ErrLong)
			if s != "" {
				refused(t, c.call, ahead+s+" "+c.behind, len(ahead), api.ErrLong)
			}
		}
		for _, s := range c.others {
			refused(t, c.call, ahead+s, len(ahead), api.ErrForm)
		}
		refused(t, c.call, ahead+c.one+c.behind, len(ahead), api.ErrLong)
	}
	// One less: the same token is no more one too many.
	refused(t, "File", "data D : Set { "+strings.Repeat("c : D; ", api.MaxCons-1), 15+7*(api.MaxCons-1), api.ErrForm)
	refused(t, "File", "def f : A { "+strings.Repeat("x; ", api.MaxRows-1), 12+3*(api.MaxRows-1), api.ErrForm)
	refused(t, "File", "def f : A { "+strings.Repeat("x; ", api.MaxRows-1)+")", 12+3*(api.MaxRows-1), api.ErrForm)
	// Each row, each declaration counts its own.
	right(t, "File", "def f : A { "+strings.Repeat(strings.Repeat("_ ", api.MaxTele)+"= x; ", api.MaxRows)+"}")
	full := "data D " + strings.Repeat("(x : A)", api.MaxTele) + " : Set { " + strings.Repeat("c : D; ", api.MaxCons) + "} "
	right(t, "File", full+full+full)
	// Patterns within a pattern are bound by its nodes alone.
	right(t, "Pats", "(c "+strings.Repeat("x ", 2*api.MaxTele)+")")
}
