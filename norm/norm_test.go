package norm

import (
	"strconv"
	"strings"
	"testing"

	"scholium/api"
	"scholium/meter"
	"scholium/sign"
	"scholium/term"
	"scholium/whnf"
)

// set is the least universe.
var set = term.Sort(0)

// v is the variable n.
func v(n int) api.Term { return term.Var(n) }

// x is the named variable n.
func x(n int) api.Term { return term.Free(n) }

// k is entry n, applied to some.
func k(n int, l ...api.Term) api.Term { return term.Apply(term.Const(n), l...) }

// elim is the eliminator of entry n into a universe, applied to some.
func elim(n, level int, l ...api.Term) api.Term { return term.Apply(term.Elim(n, level), l...) }

// app is a term, applied to some.
func app(f api.Term, l ...api.Term) api.Term { return term.Apply(f, l...) }

// laid are all of a list but the last, laid around the last.
func laid(around func(a, b api.Term) api.Term, l []api.Term) api.Term {
	t := l[len(l)-1]
	for i := len(l) - 2; i >= 0; i-- {
		t = around(l[i], t)
	}
	return t
}

// fn is the type of functions of all of a list but the last, to the last.
func fn(l ...api.Term) api.Term { return laid(term.Pi, l) }

// lam is the function of all of a list but the last, to the last.
func lam(l ...api.Term) api.Term { return laid(term.Lam, l) }

// terms are a list of some.
func terms(l ...api.Term) []api.Term { return l }

// told writes a term, if it is not too great to be read.
func told(t api.Term) string {
	if term.Size(t) > 100 {
		return "a term of size " + strconv.Itoa(term.Size(t))
	}
	words := []string{strconv.Itoa(t.Kind), strconv.Itoa(t.N)}
	for _, s := range t.Sub {
		words = append(words, told(s))
	}
	return "(" + strings.Join(words, " ") + ")"
}

// The places of world's entries.
const (
	nat, zero, suc   = 0, 1, 2
	vec, vnil, vcons = 3, 4, 5
	tree, sup        = 6, 7
	sigma, pair      = 8, 9
	fst, snd         = 10, 11
	unit, box, open  = 12, 13, 14 // a record without parameters
	wrap, bare, more = 15, 16, 17 // numbers with a parameter
	one, two         = 18, 19
	plus, times, ack = 20, 21, 22
	id               = 23
	couple           = 24 // what only comes to a pair by steps
	again            = 25 // what goes on for ever, applied to itself
	great, tall      = 26, 27
	end              = 28 // no entry's
)

// The nodes of great, and the levels of tall.
const (
	nodes  = 4000
	levels = 100
)

// world is a signature with all that a normal form may meet.
func world() []api.Entry {
	n, family := k(nat), fn(v(0), set)
	w := func(below int) api.Term { return k(tree, v(below+1), v(below)) }
	s := func(below int) api.Term { return k(sigma, v(below+1), v(below)) }
	def := func(name string, t, body api.Term) api.Entry {
		return api.Entry{Kind: api.EDef, Name: name, Type: t, Body: body}
	}
	return []api.Entry{
		{Kind: api.EData, Name: "Nat", Type: set, Cons: []int{zero, suc}},
		{Kind: api.ECon, Name: "zero", Type: n, Of: nat},
		{Kind: api.ECon, Name: "suc", Type: fn(n, n), Of: nat, Place: 1},
		{Kind: api.EData, Name: "Vec", Type: fn(set, n, set), Pars: 1, Inds: 1, Cons: []int{vnil, vcons}},
		{Kind: api.ECon, Name: "vnil", Type: fn(set, k(vec, v(0), k(zero))), Of: vec, Pars: 1},
		{Kind: api.ECon, Name: "vcons", Type: fn(set, n, v(1), k(vec, v(2), v(1)), k(vec, v(3), k(suc, v(2)))), Of: vec, Place: 1, Pars: 1},
		{Kind: api.EData, Name: "W", Type: fn(set, family, set), Pars: 2, Cons: []int{sup}},
		{Kind: api.ECon, Name: "sup", Type: fn(set, family, v(1), fn(app(v(1), v(0)), w(2)), w(2)), Of: tree, Pars: 2},
		{Kind: api.EData, Name: "Sigma", Type: fn(set, family, set), Pars: 2, Cons: []int{pair}, Fields: []int{fst, snd}},
		{Kind: api.ECon, Name: "pair", Type: fn(set, family, v(1), app(v(1), v(0)), s(2)), Of: sigma, Pars: 2},
		{Kind: api.EProj, Name: "fst", Type: fn(set, family, s(0), v(2)), Of: sigma, Pars: 2},
		{Kind: api.EProj, Name: "snd", Type: fn(set, family, s(0), app(v(1), k(fst, v(2), v(1), v(0)))), Of: sigma, Place: 1, Pars: 2},
		{Kind: api.EData, Name: "Unit", Type: set, Cons: []int{box}, Fields: []int{open}},
		{Kind: api.ECon, Name: "box", Type: fn(n, k(unit)), Of: unit},
		{Kind: api.EProj, Name: "open", Type: fn(k(unit), n), Of: unit},
		{Kind: api.EData, Name: "Wrap", Type: fn(set, set), Pars: 1, Cons: []int{bare, more}},
		{Kind: api.ECon, Name: "bare", Type: fn(set, k(wrap, v(0))), Of: wrap, Pars: 1},
		{Kind: api.ECon, Name: "more", Type: fn(set, k(wrap, v(0)), k(wrap, v(1))), Of: wrap, Place: 1, Pars: 1},
		def("one", n, k(suc, k(zero))),
		def("two", n, k(suc, k(one))),
		def("plus", fn(n, n, n), lam(n, n, add(v(1), v(0)))),
		def("times", fn(n, n, n), lam(n, n, elim(nat, 0, lam(n, n), k(zero), lam(n, n, k(plus, v(2), v(0))), v(1)))),
		def("ack", fn(n, n, n), lam(n, elim(nat, 0, lam(n, fn(n, n)), k(suc), lam(n, fn(n, n), n, elim(nat, 0, lam(n, n), app(v(1), k(one)), lam(n, n, app(v(3), v(0))), v(0))), v(0)))),
		def("id", fn(set, v(0), v(1)), lam(set, v(0), v(0))),
		def("couple", fn(n, k(sigma, n, lam(n, n))), lam(n, k(pair, n, lam(n, n), v(0), k(suc, v(0))))),
		def("again", set, lam(set, app(v(0), v(0)))), // no such type is asked here
		def("great", set, bush(nodes, k(zero))),
		def("tall", set, deep(levels, k(zero))),
	}
}

// number is the numeral n.
func number(n int) api.Term {
	t := k(zero)
	for range n {
		t = k(suc, t)
	}
	return t
}

// add is the eliminator that plus unfolds to: b with as many sucs around it as a has.
func add(a, b api.Term) api.Term {
	return elim(nat, 0, lam(k(nat), k(nat)), b, lam(k(nat), k(nat), k(suc, v(0))), a)
}

// machine is that of world.
func machine(t *testing.T) *whnf.Machine {
	t.Helper()
	m, e := whnf.New(world())
	if e != api.OK {
		t.Fatal(e)
	}
	return m
}

// fuel is a meter with so many steps; a nil one, if there are fewer than none.
func fuel(n int) *meter.Meter {
	m, _ := meter.New(n)
	return m
}

// same asks that a call answered a term, and no error.
func same(t *testing.T, what string, got api.Term, e api.Errno, want api.Term) {
	t.Helper()
	if e != api.OK || !term.Same(got, want) {
		t.Errorf("%s: %s, %v, not %s", what, told(got), e, told(want))
	}
}

// errs asks that a call answered an error, and the zero term.
func errs(t *testing.T, what string, got api.Term, e, want api.Errno) {
	t.Helper()
	if e != want || got.Kind != 0 || got.N != 0 || got.Sub != nil {
		t.Errorf("%s: %s, %v, not %v", what, told(got), e, want)
	}
}

// comes asks that a term comes to another one in so many steps: with just so much fuel and with more, and with each that is less not; and that this one is normal, and the first one only if it took none.
func comes(t *testing.T, what string, from, to api.Term, steps int) {
	t.Helper()
	m := machine(t)
	for _, n := range []int{steps, steps + 1, steps + 7, api.MaxFuel} {
		f := fuel(n)
		got, e := Norm(m, from, f)
		same(t, what, got, e, to)
		if f.Used() != steps || f.Left() != n-steps {
			t.Errorf("%s: %d taken, %d left of %d, not %d", what, f.Used(), f.Left(), n, steps)
		}
		got, used, e := Of(world(), from, n)
		same(t, what+", in a signature", got, e, to)
		if used != steps {
			t.Errorf("%s, in a signature: %d steps, not %d", what, used, steps)
		}
	}
	for n := range steps {
		f := fuel(n)
		got, e := Norm(m, from, f)
		errs(t, what, got, e, api.ErrFuel)
		if f.Used() != n || f.Left() != 0 {
			t.Errorf("%s: of %d steps %d are taken, %d left", what, n, f.Used(), f.Left())
		}
		got, used, e := Of(world(), from, n)
		errs(t, what+", in a signature", got, e, api.ErrFuel)
		if used != 0 {
			t.Errorf("%s, in a signature: %d steps beside an error", what, used)
		}
	}
	if Normal(m, from) != (steps == 0) {
		t.Errorf("%s: whether %s is normal", what, told(from))
	}
	stays(t, m, what, to)
}

// stays asks that a term is normal, and its own normal form without a step.
func stays(t *testing.T, m *whnf.Machine, what string, from api.Term) {
	t.Helper()
	if !Normal(m, from) {
		t.Errorf("%s: %s is not normal", what, told(from))
	}
	f := fuel(9)
	got, e := Norm(m, from, f)
	same(t, what+", again", got, e, from)
	if f.Used() != 0 {
		t.Errorf("%s, again: %d steps", what, f.Used())
	}
	got, e = Norm(m, from, nil)
	same(t, what+", again, a nil meter", got, e, from)
}

func TestWorld(t *testing.T) {
	if l := world(); !sign.Formed(l) || len(l) != end {
		t.Error("the world is not formed")
	}
	if term.Size(bush(nodes, x(0))) != nodes || term.Depth(deep(levels, x(0))) != levels {
		t.Error("another size, or depth")
	}
}

// TestExample is the chapter's.
func TestExample(t *testing.T) { // P15.1, P15.2
	comes(t, "plus (suc zero) (suc zero)", k(plus, number(1), number(1)), number(2), 7)
	comes(t, "plus one one", k(plus, k(one), k(one)), number(2), 9)
	got, steps, e := Of(world(), k(plus, k(one), k(one)), 100)
	same(t, "plus one one", got, e, number(2))
	if n, is := Number(machine(t), got); !is || n != 2 || steps != 9 {
		t.Errorf("%d, %v, %d steps", n, is, steps)
	}
}

// TestAtHead takes steps at the head alone.
func TestAtHead(t *testing.T) { // P15.1
	comes(t, "beta", app(lam(set, v(0)), x(1)), x(1), 1)
	comes(t, "beta, a loose one", app(lam(set, v(3)), v(7)), v(2), 1)
	comes(t, "beta, more arguments", app(lam(set, v(0)), x(1), x(2), v(3)), app(x(1), x(2), v(3)), 1)
	comes(t, "delta", k(one), number(1), 1)
	comes(t, "delta and beta", k(id, x(1), x(2)), x(2), 3)
	comes(t, "field", k(fst, x(1), x(2), k(pair, x(3), x(4), x(5), x(6))), x(5), 1)
	comes(t, "field, behind steps", k(snd, x(1), x(2), k(couple, x(3))), k(suc, x(3)), 3)
	comes(t, "iota", elim(nat, 5, x(1), x(2), x(3), k(zero)), x(2), 1)
	comes(t, "an argument that is dropped", app(lam(set, x(1)), app(k(again), k(again))), x(1), 1)
	comes(t, "an argument that is doubled", app(lam(set, app(x(1), v(0), v(0))), k(one)), app(x(1), number(1), number(1)), 3)
}

// TestWithin takes steps within what is in weak head form.
func TestWithin(t *testing.T) { // P15.1
	beta := app(lam(set, v(0)), x(1))
	for what, around := range map[string]func(a, b api.Term) api.Term{
		"a function":              term.Lam,
		"a type of functions":     term.Pi,
		"a constructor":           func(a, b api.Term) api.Term { return k(pair, x(1), x(2), a, b) },
		"parameters":              func(a, b api.Term) api.Term { return k(pair, a, b, x(1), x(2)) },
		"a family":                func(a, b api.Term) api.Term { return k(sigma, a, b) },
		"a constructor of much":   func(a, b api.Term) api.Term { return k(zero, a, x(1), b) },
		"a constructor of little": func(a, b api.Term) api.Term { return k(vcons, a, b) },
		"a variable":              func(a, b api.Term) api.Term { return app(v(1), a, b) },
		"a named variable":        func(a, b api.Term) api.Term { return app(x(1), a, b) },
		"a universe":              func(a, b api.Term) api.Term { return app(set, a, b) },
		"an applied type":         func(a, b api.Term) api.Term { return app(fn(set, set), a, b) },
		"an eliminator":           func(a, b api.Term) api.Term { return elim(nat, 0, a, x(2), b, x(3)) },
		"an eliminator of little": func(a, b api.Term) api.Term { return elim(nat, 0, a, b) },
		"an eliminator of none":   func(a, b api.Term) api.Term { return elim(one, 0, a, b) },
		"a field":                 func(a, b api.Term) api.Term { return k(fst, a, b, x(3)) },
		"a field of little":       func(a, b api.Term) api.Term { return k(snd, a, b) },
	} {
		comes(t, what, around(x(1), v(2)), around(x(1), v(2)), 0)
		comes(t, what+", the first", around(k(one), v(2)), around(number(1), v(2)), 1)
		comes(t, what+", the second", around(x(1), k(two)), around(x(1), number(2)), 2)
		comes(t, what+", both", around(beta, k(two)), around(x(1), number(2)), 3)
		comes(t, what+", within these", around(lam(k(one), k(suc, k(two))), fn(x(2), app(v(0), beta))), around(lam(number(1), number(3)), fn(x(2), app(v(0), x(1)))), 4)
		comes(t, what+", behind steps at the head", k(id, set, around(k(one), v(2))), around(number(1), v(2)), 4)
		comes(t, what+", twice", around(around(k(one), beta), around(v(3), k(one))), around(around(number(1), x(1)), around(v(3), number(1))), 3)
	}
	comes(t, "beneath binders", lam(set, k(one), fn(v(1), app(lam(v(2), v(0)), v(0), v(7)))), lam(set, number(1), fn(v(1), app(v(0), v(7)))), 2)
	comes(t, "all of W", k(sup, k(one), app(lam(set, v(0)), x(1)), k(two), lam(k(one), k(id, set, v(0)))), k(sup, number(1), x(1), number(2), lam(number(1), v(0))), 1+1+2+1+3)
	comes(t, "a vector", k(vcons, set, k(one), k(two), k(id, set, k(vnil, k(one)))), k(vcons, set, number(1), number(2), k(vnil, number(1))), 1+2+3+1)
}

// TestHeadStays asks that an application's head stays as it is.
func TestHeadStays(t *testing.T) { // P15.1, P15.2
	comes(t, "a type of functions, applied", app(fn(k(one), k(two)), k(one)), app(fn(k(one), k(two)), number(1)), 1)
	comes(t, "the same, alone", fn(k(one), k(two)), fn(number(1), number(2)), 3)
	comes(t, "the same, normal", app(fn(k(one), app(k(again), k(again))), x(1)), app(fn(k(one), app(k(again), k(again))), x(1)), 0)
	for _, head := range terms(v(0), v(api.MaxFree), x(0), x(api.MaxFree), set, term.Sort(api.MaxLevel), fn(set, set), k(nat), k(zero), k(suc), k(pair), k(sigma), k(fst), k(open), elim(nat, 0), elim(vec, api.MaxLevel), elim(one, 0)) {
		comes(t, told(head), head, head, 0)
		if head.Kind != api.KConst || head.N != open { // it brings its argument to weak head form
			comes(t, told(head)+", applied", app(head, k(one)), app(head, number(1)), 1)
		}
	}
}

// TestStuck asks for targets that take steps but come to no constructor: these are taken in asking for a step at the head, and again in bringing the target to normal form.
func TestStuck(t *testing.T) { // P15.1, P15.2
	comes(t, "an eliminator", elim(nat, 0, x(1), x(2), x(3), k(plus, x(4), x(5))), elim(nat, 0, x(1), x(2), x(3), add(x(4), x(5))), 3+3)
	comes(t, "a field", k(open, k(id, k(unit), x(1))), k(open, x(1)), 3+3)
	comes(t, "another family's", k(open, k(one)), k(open, number(1)), 1+1)
	comes(t, "with steps in other arguments", k(fst, k(one), x(2), app(lam(set, v(0)), v(3)), k(two)), k(fst, number(1), x(2), v(3), number(2)), 1+1+1+2)
	comes(t, "twice", k(open, k(open, app(lam(set, v(0)), x(1)))), k(open, k(open, x(1))), 1+1+1)
}

// TestLooseAndNamed asks that variables are what they were.
func TestLooseAndNamed(t *testing.T) { // P15.1
	comes(t, "loose ones", lam(v(2), app(lam(set, v(1), app(v(0), v(1), v(2), v(5))), v(0), v(3))), lam(v(2), app(v(3), v(0), v(0), v(3))), 2)
	comes(t, "named ones", lam(x(2), app(lam(set, app(v(0), x(3), v(4))), x(1))), lam(x(2), app(x(1), x(3), v(3))), 1)
	comes(t, "a function put beneath a binder", app(lam(set, lam(set, app(v(1), v(0)))), lam(set, app(v(0), v(4), x(5)))), lam(set, app(v(0), v(4), x(5))), 2)
	comes(t, "the last ones", app(lam(set, app(v(0), x(api.MaxFree))), v(api.MaxFree)), app(v(api.MaxFree), x(api.MaxFree)), 1)
}

// TestNumbers reckons with numbers.
func TestNumbers(t *testing.T) { // P15.1, P15.2
	m := machine(t)
	holds := func(what string, from api.Term, want int) {
		t.Helper()
		got, steps, e := Of(world(), from, api.MaxFuel)
		same(t, what, got, e, number(want))
		if n, is := Number(m, got); !is || n != want || !Value(m, got) {
			t.Errorf("%s: %d, %v", what, n, is)
		}
		comes(t, what, from, number(want), steps)
	}
	for a := range 4 {
		for b := range 4 {
			what := strconv.Itoa(a) + " and " + strconv.Itoa(b)
			holds(what+", plus", k(plus, number(a), number(b)), a+b)
			holds(what+", times", k(times, number(a), number(b)), a*b)
		}
	}
	for a, row := range [][]int{{1, 2, 3, 4}, {2, 3, 4, 5}, {3, 5, 7}} {
		for b, want := range row {
			holds("ack "+strconv.Itoa(a)+" "+strconv.Itoa(b), k(ack, number(a), number(b)), want)
		}
	}
	got, _, e := Of(world(), k(ack, number(3), number(3)), api.MaxFuel)
	same(t, "ack 3 3", got, e, number(61))
}

// TestValue asks what is a value, and what is not.
func TestValue(t *testing.T) { // P15.2
	m := machine(t)
	vector := func(n, a, rest api.Term) api.Term { return k(vcons, x(1), n, a, rest) }
	for what, from := range map[string]api.Term{
		"zero":                              k(zero),
		"a number":                          number(5),
		"a record":                          k(box, number(2)),
		"an empty vector":                   k(vnil, set),
		"a vector":                          vector(number(1), number(4), vector(number(0), k(box, k(zero)), k(vnil, set))),
		"a pair":                            k(pair, set, set, number(1), k(box, number(1))),
		"a pair of what is typed otherwise": k(pair, set, set, k(vnil, set), k(suc, k(box, k(bare, set)))),
		"parameters with steps":             k(pair, k(one), app(k(again), k(again)), k(zero), k(more, k(two), k(bare, k(one)))),
		"parameters, variables":             k(vnil, v(3)),
		"parameters, functions":             k(more, lam(set, v(0)), k(bare, fn(set, set))),
		"parameters, eliminators":           k(bare, elim(nat, 0, x(1), x(2), x(3), k(zero))),
		"parameters of no entry":            k(bare, k(end)), // a value asks only its constructors
		"parameters of too little":          k(bare, k(suc)),
	} {
		if !Value(m, from) {
			t.Errorf("%s, %s, is no value", what, told(from))
		}
	}
	for what, from := range map[string]api.Term{
		"a loose variable":         v(0),
		"a named variable":         x(0),
		"a universe":               set,
		"a type of functions":      fn(k(zero), k(zero)),
		"a function":               lam(k(zero), k(zero)),
		"a family":                 k(nat),
		"a family, applied":        k(vec, set, k(zero)),
		"a definition":             k(one),
		"a field":                  k(open, k(box, k(zero))),
		"an eliminator":            term.Elim(nat, 0),
		"beta":                     app(lam(set, v(0)), k(zero)),
		"iota":                     elim(nat, 0, x(1), k(zero), x(2), k(zero)),
		"no entry":                 k(end),
		"zero of too much":         k(zero, k(zero)),
		"suc of too little":        k(suc),
		"suc of too much":          k(suc, k(zero), k(zero)),
		"vnil of too little":       k(vnil),
		"a vector of too little":   k(vcons, set, k(zero), k(zero)),
		"a pair of too little":     k(pair, set, set, k(zero)),
		"suc of a variable":        k(suc, x(1)),
		"suc of suc of a variable": k(suc, k(suc, v(1))),
		"suc of a definition":      k(suc, k(one)),
		"suc of too little in it":  k(suc, k(suc)),
		"a pair, its first":        k(pair, set, set, x(1), k(zero)),
		"a pair, its second":       k(pair, set, set, k(zero), k(two)),
		"a vector, within":         vector(k(zero), k(zero), vector(k(zero), v(0), k(vnil, set))),
		"a tree with a function":   k(sup, set, set, k(zero), lam(set, k(zero))),
		"a tree without one":       k(sup, set, set, x(0), k(zero)),
	} {
		if Value(m, from) {
			t.Errorf("%s, %s, is a value", what, told(from))
		}
	}
	if !Value(m, k(sup, set, set, k(zero), k(zero))) { // whether it has a type is not asked
		t.Error("a tree of what has no type is no value")
	}
}

// TestNumber asks what is a number, and which.
func TestNumber(t *testing.T) { // P15.2
	m := machine(t)
	for n := range 64 {
		if got, is := Number(m, number(n)); !is || got != n {
			t.Errorf("%d: %d, %v", n, got, is)
		}
	}
	for _, each := range []struct {
		t api.Term
		n int
	}{
		{k(vnil, set), 0},
		{k(bare, x(1)), 0},
		{k(more, x(1), k(bare, x(1))), 1},
		{k(more, k(one), k(more, app(k(again), k(again)), k(bare, lam(set, v(0))))), 2},
		{k(bare, k(end)), 0},
		{k(box, k(zero)), 1},
		{k(box, number(3)), 4},
		{k(more, set, k(box, k(suc, k(vnil, set)))), 3},
	} {
		if got, is := Number(m, each.t); !is || got != each.n {
			t.Errorf("%s: %d, %v", told(each.t), got, is)
		}
	}
	for _, no := range terms(
		v(0), x(0), set, fn(set, set), lam(set, k(zero)), k(nat), k(one), k(suc), k(suc, k(suc)), k(suc, x(1)), k(suc, k(suc, v(1))), k(suc, k(one)), k(zero, k(zero)), k(suc, k(zero), k(zero)), k(suc, k(zero, k(zero))),
		k(vnil), k(bare), k(more, set), k(more, k(bare, set)), k(more, set, k(bare)), k(suc, k(end)), k(end), elim(nat, 0, x(1), k(zero), x(2), k(zero)), app(lam(set, v(0)), k(zero)), k(open, k(box, k(zero))),
		k(pair, set, set, k(zero), k(zero)), k(vcons, set, k(zero), k(zero), k(vnil, set)), k(suc, k(pair, set, set, k(zero), k(zero))), k(box, k(pair, set, set, k(zero), k(zero))), k(sup, set, set, k(zero), k(zero)),
	) {
		if got, is := Number(m, no); is || got != 0 {
			t.Errorf("%s: %d, %v", told(no), got, is)
		}
	}
}

// TestNormal asks what is normal, and what is not.
func TestNormal(t *testing.T) { // P15.2
	m := machine(t)
	for _, no := range terms(
		k(one), k(again), app(k(again), k(again)), app(lam(set, v(0)), x(1)), k(suc, k(one)), lam(k(one), set), lam(set, k(one)), fn(k(one), set), fn(set, k(one)), app(x(1), k(one)), app(x(1), x(2), k(one)), app(x(1), k(one), x(2)),
		k(open, k(box, x(1))), k(open, k(one)), elim(nat, 0, x(1), x(2), x(3), k(zero)), elim(nat, 0, k(one), x(2), x(3), x(4)), lam(set, fn(set, k(suc, app(v(0), app(lam(set, v(0)), v(1)))))),
		app(lam(set, app(v(0), v(0))), bush(5000, x(0))), // a step that would come to too much is one
	) {
		if Normal(m, no) {
			t.Errorf("%s is normal", told(no))
		}
	}
	for _, from := range terms(v(0), x(0), set, number(9), lam(set, v(0)), fn(set, set), app(x(1), lam(set, app(v(0), v(3)))), k(plus, x(1)).Sub[1], add(x(1), x(2)), k(open, k(open, x(1))), elim(nat, 0, x(1), x(2)), bush(api.MaxNodes, x(0)), deep(api.MaxDepth, v(0))) {
		stays(t, m, told(from), from)
	}
}
