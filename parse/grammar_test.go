package parse

import (
	"math/rand"
	"reflect"
	"slices"
	"strings"
	"testing"

	"scholium/api"
	"scholium/token"
	"scholium/tree"
)

// grammar is the chapter's, each list as a kind of its own; "(:" is a parenthesis that begins the type of functions.
var grammar = map[string][]string{
	"FILE":  {"", "DECL FILE"},
	"DECL":  {"data NAME BINDS : EXPR { CONS }", "record NAME BINDS : EXPR { CONS }", "def NAME : EXPR { ROWS }"},
	"BINDS": {"", "OPEN NAME : EXPR ) BINDS"},
	"CONS":  {"", "NAME : EXPR ; CONS"},
	"ROWS":  {"", "PATS ; ROWS", "PATS = EXPR ; ROWS"},
	"PATS":  {"", "PAT PATS"},
	"EXPR":  {`\ OPEN VAR : EXPR ) -> EXPR`, "(: VAR : EXPR ) -> EXPR", "ATOM ATOMS", "ATOM ATOMS -> EXPR"},
	"VAR":   {"NAME", "_"},
	"ATOMS": {"", "ATOM ATOMS"},
	"ATOM":  {"NAME", "Set", "Set LEVEL", "( EXPR )"},
	"PAT":   {"NAME", "_", "OPEN )", ". ATOM", "OPEN NAME PATS )", "OPEN PAT )"},
	"OPEN":  {"(", "(:"},
}

// called tells a token by the grammar's words.
func called(l []token.Token, i int) string {
	switch t := l[i]; {
	case t.Kind == token.TEnd:
		return "END"
	case t.Kind == token.TName && t.Text != "_":
		return "NAME"
	case t.Kind == token.TNum && len(t.Text) == 1 && t.Text < "8":
		return "LEVEL"
	case t.Text == "(" && l[i+1].Kind == token.TName && l[i+2].Text == ":" && (i == 0 || l[i-1].Text != "."):
		return "(:"
	default:
		return t.Text
	}
}

// state is what must still come: a word of the grammar, and the rest.
type state struct {
	word string
	rest *state
}

// words lays the words of an alternative ahead of a state.
func words(l []string, rest *state) *state {
	for i := len(l) - 1; i >= 0; i-- {
		rest = &state{l[i], rest}
	}
	return rest
}

// after gives all states behind one more word.
func after(now []*state, word string) []*state {
	var next []*state
	for _, s := range now {
		if alternatives, ok := grammar[s.word]; ok {
			for _, a := range alternatives {
				next = append(next, after([]*state{words(strings.Fields(a), s.rest)}, word)...)
			}
		} else if s.word == word {
			next = append(next, s.rest)
		}
	}
	return next
}

// firstBad tells the first token that may not stand where it stands, by trying all ways there are; -1: none.
func firstBad(start string, l []token.Token) int {
	now := []*state{words([]string{start, "END"}, nil)}
	for i := range l {
		now = after(now, called(l, i))
		if len(now) == 0 {
			return i
		}
	}
	return -1
}

var starts = map[string]string{"File": "FILE", "Expr": "EXPR", "Pats": "PATS"}

// judged holds a text, of small trees and short lists, against the grammar.
func judged(t *testing.T, call, s string) {
	t.Helper()
	l, at, e := token.All(s)
	if e != api.OK {
		refused(t, call, s, at, e)
	} else if i := firstBad(starts[call], l); i >= 0 {
		refused(t, call, s, l[i].At, api.ErrForm)
	} else {
		right(t, call, s)
		isRight(t, s)
	}
}

// isRight checks that what is told of a text is right, as far as it is told.
func isRight(t *testing.T, s string) {
	t.Helper()
	if n, _, e := Expr(s); e == api.OK && !tree.Expr(n) {
		t.Errorf("no right expression: %.200q", s)
	}
	if l, _, e := Pats(s); e == api.OK && (len(l) > api.MaxTele || slices.ContainsFunc(l, func(n tree.Node) bool { return !tree.Pattern(n) })) {
		t.Errorf("no right patterns: %.200q", s)
	}
	if l, _, e := File(s); e == api.OK && slices.ContainsFunc(l, func(d tree.Decl) bool { return !tree.Right(d) }) {
		t.Errorf("no right declarations: %.200q", s)
	}
}

// every gives all texts of at most so many of some words.
func every(l []string, most int, check func(string)) {
	var more func(string, int)
	more = func(s string, n int) {
		check(s)
		for i := 0; i < len(l) && n < most; i++ {
			more(s+l[i]+" ", n+1)
		}
	}
	more("", 0)
}

func TestEachShort(t *testing.T) { // P5.1, P5.2
	every([]string{"x", "_", "Set", "3", "8", "(", ")", ":", "->", `\`, ".", "}"}, 4, func(s string) { judged(t, "Expr", s) })
	every([]string{"x", "_", "Set", "3", "(", ")", ":", "->", ".", ";", "="}, 4, func(s string) { judged(t, "Pats", s) })
	every([]string{"x", "(", ")", ":", "->"}, 6, func(s string) { judged(t, "Expr", s) })
	every([]string{"x", "(", ")", ".", ":"}, 6, func(s string) { judged(t, "Pats", s) })
	every([]string{"x", "_", "(", ")", ":", "->", "Set"}, 3, func(s string) {
		judged(t, "Expr", `\ (x : `+s)
		judged(t, "Expr", `(x : A) `+s)
		judged(t, "Expr", `f (x `+s)
	})
	every([]string{"data", "record", "def", "x", "_", ":", "{", "}", "(", ")", ";", "="}, 4, func(s string) { judged(t, "File", s) })
	every([]string{"x", "_", ":", "{", "}", "(", ")", ";", "=", "."}, 4, func(s string) {
		for _, ahead := range []string{"data D (x : ", "data D (x : A) ", "record D : Set ", "record D : Set {", "def f : A { ", "def f : A { = ", "def f : A { x "} {
			judged(t, "File", ahead+s)
			if strings.Contains(ahead, "{") {
				judged(t, "File", ahead+s+"}")
			}
		}
	})
}

// writer writes random texts word by word, and keeps where each word stands.
type writer struct {
	*rand.Rand
	text  strings.Builder
	tight bool
	ends  []int // where each word ends
}

var gaps = []string{" ", "  ", "\n", "\t", "\r\n", " -- a remark: ) } ;\n", "{- ( -}", " {- {--} -- -} ", " --\n"}

// put writes a word behind a blank, or a remark, and tells where the word begins.
func (w *writer) put(s string) int {
	if w.tight {
		w.text.WriteString(" ")
	} else {
		w.text.WriteString(gaps[w.Intn(len(gaps))])
	}
	at := w.text.Len()
	w.text.WriteString(s)
	w.ends = append(w.ends, w.text.Len())
	return at
}

func (w *writer) pick(l ...string) string { return l[w.Intn(len(l))] }
func (w *writer) name() string {
	return w.pick("x", "y", "A", "Nat", "suc", "_z", "α'", "x1", "dataa", "Set1", "__")
}

// expr writes an EXPR; a level as in layer 6 tells what may stand there without parentheses.
func (w *writer) expr(deep, level int) tree.Node {
	kind := w.Intn(7)
	if kind < 5 && level > 0 && (level > 1 || kind > 1) || w.Intn(6) == 0 {
		w.put("(")
		n := w.expr(deep, 0)
		w.put(")")
		return n
	}
	switch {
	case deep <= 0 || kind > 4:
		return w.leaf()
	case kind < 2:
		f := w.expr(deep-1, 1)
		a := w.expr(deep-1, 2)
		return tree.Node{Kind: tree.EApp, At: f.At, Sub: []tree.Node{f, a}}
	case kind == 2:
		// The left of an arrow is an application, whose functions are such ones.
		a := w.expr(deep-1, 1)
		w.put(w.pick("->", "→"))
		b := w.expr(deep-1, 0)
		return tree.Node{Kind: tree.EPi, At: a.At, Name: "_", Sub: []tree.Node{a, b}}
	}
	n := tree.Node{Kind: tree.EPi, Name: w.pick("x", "y", "_")}
	if kind == 3 {
		n.Kind = tree.ELam
		n.At = w.put(w.pick(`\`, "λ"))
		w.put("(")
	} else {
		n.At = w.put("(")
	}
	w.put(n.Name)
	w.put(":")
	a := w.expr(deep-1, 0)
	w.put(")")
	w.put(w.pick("->", "→"))
	n.Sub = []tree.Node{a, w.expr(deep-1, 0)}
	return n
}

func (w *writer) leaf() tree.Node {
	if w.Intn(3) > 0 {
		s := w.name()
		return tree.Node{Kind: tree.EName, At: w.put(s), Name: s}
	}
	n := tree.Node{Kind: tree.ESet, At: w.put("Set"), N: w.Intn(8)}
	if n.N > 0 || w.Intn(2) == 0 {
		w.put(string(rune('0' + n.N)))
	}
	return n
}

func (w *writer) pat(deep int) tree.Node {
	if w.Intn(8) == 0 {
		w.put("(")
		n := w.pat(deep)
		w.put(")")
		return n
	}
	switch kind := w.Intn(6); {
	case kind == 0:
		return tree.Node{Kind: tree.PAny, At: w.put("_")}
	case kind == 1:
		n := tree.Node{Kind: tree.PNone, At: w.put("(")}
		w.put(")")
		return n
	case kind == 2:
		n := tree.Node{Kind: tree.PDot, At: w.put(".")}
		n.Sub = []tree.Node{w.expr(deep-1, 2)}
		return n
	case kind == 3 || deep <= 0:
		s := w.name()
		return tree.Node{Kind: tree.PName, At: w.put(s), Name: s}
	}
	n := tree.Node{Kind: tree.PCon, At: w.put("("), Name: w.name()}
	w.put(n.Name)
	for range 1 + w.Intn(3) {
		n.Sub = append(n.Sub, w.pat(deep-1))
	}
	w.put(")")
	return n
}

func (w *writer) pats(deep int) []tree.Node {
	var l []tree.Node
	for range w.Intn(4) {
		l = append(l, w.pat(deep))
	}
	return l
}

func (w *writer) bind(deep int) tree.Bind {
	s := w.name()
	b := tree.Bind{Name: s, At: w.put(s)}
	w.put(":")
	b.Type = w.expr(deep, 0)
	return b
}

func (w *writer) decl(deep int) tree.Decl {
	kind := 1 + w.Intn(3)
	d := tree.Decl{Kind: kind, At: w.put([]string{"data", "record", "def"}[kind-1]), Name: w.name()}
	w.put(d.Name)
	for range w.Intn(3) {
		if kind != tree.DDef {
			w.put("(")
			d.Tele = append(d.Tele, w.bind(deep))
			w.put(")")
		}
	}
	w.put(":")
	d.Type = w.expr(deep, 0)
	w.put("{")
	for range w.Intn(4) {
		if kind != tree.DDef {
			d.Cons = append(d.Cons, w.bind(deep))
			w.put(";")
		} else {
			d.Rows = append(d.Rows, w.row(deep))
		}
	}
	w.put("}")
	return d
}

func (w *writer) row(deep int) tree.Row {
	begin := len(w.ends)
	r := tree.Row{Pats: w.pats(deep), Has: w.Intn(3) > 0}
	if r.Has {
		w.put("=")
		r.Body = w.expr(deep, 0)
	}
	w.put(";")
	l, _, _ := token.All(w.text.String())
	r.At = l[begin].At
	return r
}

func (w *writer) decls(deep int) []tree.Decl {
	var l []tree.Decl
	for range w.Intn(4) {
		l = append(l, w.decl(deep))
	}
	return l
}

// written gives a random text, and what it must be read as.
func written(seed int64, tight bool) (map[string]string, map[string]any) {
	// A tight text is its words with one blank ahead of each.
	texts, trees := map[string]string{}, map[string]any{}
	for call, one := range map[string]func(*writer) any{
		"File": func(w *writer) any { return w.decls(2) },
		"Expr": func(w *writer) any { return w.expr(4, 0) },
		"Pats": func(w *writer) any { return w.pats(3) },
	} {
		w := &writer{Rand: rand.New(rand.NewSource(seed)), tight: tight}
		trees[call] = one(w)
		texts[call] = w.text.String()
		if !tight {
			texts[call] += gaps[w.Intn(len(gaps))]
		}
	}
	return texts, trees
}

// answer gives what a call answers, as it is.
func answer(call, s string) (any, int, api.Errno) {
	switch call {
	case "File":
		l, at, e := File(s)
		return l, at, e
	case "Expr":
		n, at, e := Expr(s)
		return n, at, e
	}
	l, at, e := Pats(s)
	return l, at, e
}

func TestWritten(t *testing.T) { // P5.1, P5.2
	for seed := range int64(4000) {
		texts, trees := written(seed, seed%2 == 0)
		for call, s := range texts {
			if got, at, e := answer(call, s); !reflect.DeepEqual(got, trees[call]) || at != len(s) || e != api.OK {
				t.Fatalf("%s(%q): %v at %d, %v; not %v", call, s, got, at, e, trees[call])
			}
			isRight(t, s)
		}
	}
}

func TestSpoiled(t *testing.T) { // P5.1, P5.2: a word left out, put in, or another
	others := []string{"x", "_", "Set", "3", "8", "(", ")", ":", "->", `\`, ".", ";", "=", "{", "}", "data", "record", "def", ",", "|", "( x :", "( _ :", ". ("}
	for seed := range int64(1500) {
		r := rand.New(rand.NewSource(seed))
		texts, _ := written(seed, true)
		for _, call := range []string{"File", "Expr", "Pats"} {
			l := strings.Fields(texts[call])
			i := r.Intn(len(l) + 1)
			switch kind := r.Intn(4); {
			case kind == 0 || i == len(l):
				l = slices.Insert(l, i, others[r.Intn(len(others))])
			case kind == 1:
				l = slices.Delete(l, i, i+1)
			case kind == 2:
				l[i] = others[r.Intn(len(others))]
			default:
				l = l[:i]
			}
			judged(t, call, strings.Join(l, " "))
		}
	}
}

// spaced writes a text's tokens anew with other blanks and remarks between, and tells where each of them stands.
func spaced(l []token.Token, r *rand.Rand) (string, []int) {
	var b strings.Builder
	var ats []int
	for _, t := range l {
		b.WriteString(gaps[r.Intn(len(gaps))])
		ats = append(ats, b.Len())
		b.WriteString(t.Text)
	}
	return b.String(), ats
}

// sameTree tells whether two answers are the same, but for offsets.
func sameTree(a, b any) bool {
	switch a := a.(type) {
	case []tree.Decl:
		return slices.EqualFunc(a, b.([]tree.Decl), tree.SameDecl)
	case []tree.Node:
		return slices.EqualFunc(a, b.([]tree.Node), tree.Same)
	}
	return reflect.DeepEqual(a, b) || tree.Same(a.(tree.Node), b.(tree.Node))
}

func TestSpaced(t *testing.T) { // P5.3
	for seed := range int64(1500) {
		r := rand.New(rand.NewSource(seed))
		texts, _ := written(seed, true)
		for call, s := range texts {
			if seed%3 == 0 {
				l := strings.Fields(s)
				i := r.Intn(len(l) + 1)
				s = strings.Join(append(l[:i:i], l[min(i+1, len(l)):]...), " ")
			}
			l, _, _ := token.All(s)
			anew, ats := spaced(l, r)
			one, at, e := answer(call, s)
			two, at2, e2 := answer(call, anew)
			if e != e2 || !sameTree(one, two) {
				t.Fatalf("%s(%q) and %q: %v, %v; %v, %v", call, s, anew, one, e, two, e2)
			}
			want := len(anew)
			if e != api.OK {
				i := slices.IndexFunc(l, func(t token.Token) bool { return t.At == at })
				want = ats[i]
			}
			if at2 != want {
				t.Fatalf("%s(%q) and %q: at %d, %d; not %d", call, s, anew, at, at2, want)
			}
		}
	}
	long := strings.Fields(deep(api.MaxDepth + 1)["Expr"][2])
	refused(t, "Expr", "--\n"+strings.Join(long, "{-;-}"), 3, api.ErrLong)
	refused(t, "Expr", "--\n"+strings.Join(long, "-- ;\n"), 3, api.ErrLong)
}

// spoil writes over all that a value holds.
func spoil(v reflect.Value) {
	switch v.Kind() {
	case reflect.Slice:
		full := v.Slice3(0, v.Cap(), v.Cap())
		for i := range full.Len() {
			spoil(full.Index(i))
		}
	case reflect.Struct:
		for i := range v.NumField() {
			spoil(v.Field(i))
		}
	case reflect.Int:
		v.SetInt(-7)
	case reflect.String:
		v.SetString("spoilt")
	}
}

// lists counts the lists of a value by their memory.
func lists(v reflect.Value, seen map[uintptr]int) {
	switch v.Kind() {
	case reflect.Slice:
		if v.Cap() > 0 {
			seen[v.Pointer()]++
		}
		for i := range v.Len() {
			lists(v.Index(i), seen)
		}
	case reflect.Struct:
		for i := range v.NumField() {
			lists(v.Field(i), seen)
		}
	}
}

func TestNew(t *testing.T) { // P5.1, rules 3 and 4: what is answered is new memory, and the same each time
	for seed := range int64(200) {
		texts, trees := written(seed, false)
		for call, s := range texts {
			one, _, _ := answer(call, s)
			seen := map[uintptr]int{}
			lists(reflect.ValueOf(one), seen)
			for p, n := range seen {
				if n > 1 {
					t.Fatalf("%s(%q): %d lists at %x", call, s, n, p)
				}
			}
			if call != "Expr" {
				spoil(reflect.ValueOf(one))
			} else {
				spoil(reflect.ValueOf(one.(tree.Node).Sub))
			}
			if two, _, _ := answer(call, s); !reflect.DeepEqual(two, trees[call]) {
				t.Fatalf("%s(%q): %v; not %v", call, s, two, trees[call])
			}
		}
	}
}

func FuzzAll(f *testing.F) { // P5.1, P5.2: each text comes to an end, with an offset within it
	for seed := range int64(20) {
		texts, _ := written(seed, seed%2 == 0)
		for _, s := range texts {
			f.Add(s)
		}
	}
	f.Fuzz(func(t *testing.T, s string) {
		for call := range reads {
			_, at, e, empty := reads[call](s)
			if at < 0 || at > len(s) || e == api.OK && at != len(s) || e != api.OK && !empty || e > api.ErrLong {
				t.Errorf("%s(%q): %d, %v", call, s, at, e)
			}
		}
		isRight(t, s)
		if len(s) > 200 {
			return // short enough for short lists and small trees, and for trying all ways
		}
		if l, _, _ := token.All(s); len(l) < 16 {
			for call := range starts {
				judged(t, call, s)
			}
		}
	})
}
