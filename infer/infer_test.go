package infer

import (
	"strconv"
	"strings"
	"sync"
	"testing"

	"scholium/api"
	"scholium/meter"
	"scholium/sign"
	"scholium/term"
	"scholium/whnf"
)

// set is the least universe.
var set = term.Sort(0)

// s is universe n.
func s(n int) api.Term { return term.Sort(n) }

// v is the variable n.
func v(n int) api.Term { return term.Var(n) }

// x is the named variable n.
func x(n int) api.Term { return term.Free(n) }

// k is entry n, applied to some.
func k(n int, l ...api.Term) api.Term { return term.Apply(term.Const(n), l...) }

// elim is the eliminator of entry n into a universe, applied to some.
func elim(n, level int, l ...api.Term) api.Term { return term.Apply(term.Elim(n, level), l...) }

// app is a term, applied to some.
func app(f api.Term, l ...api.Term) api.Term { return term.Apply(f, l...) }

// laid are all of a list but the last, laid around the last.
func laid(around func(a, b api.Term) api.Term, l []api.Term) api.Term {
	t := l[len(l)-1]
	for i := len(l) - 2; i >= 0; i-- {
		t = around(l[i], t)
	}
	return t
}

// fn is the type of functions of all of a list but the last, to the last.
func fn(l ...api.Term) api.Term { return laid(term.Pi, l) }

// lam is the function of all of a list but the last, to the last.
func lam(l ...api.Term) api.Term { return laid(term.Lam, l) }

// terms are a list of some.
func terms(l ...api.Term) []api.Term { return l }

// told writes a term, if it is not too great to be read.
func told(t api.Term) string {
	if term.Size(t) > 100 {
		return "a term of size " + strconv.Itoa(term.Size(t))
	}
	words := []string{strconv.Itoa(t.Kind), strconv.Itoa(t.N)}
	for _, s := range t.Sub {
		words = append(words, told(s))
	}
	return "(" + strings.Join(words, " ") + ")"
}

// The places of world's entries.
const (
	nat, zero, suc   = 0, 1, 2
	vec, vnil, vcons = 3, 4, 5
	tree, sup        = 6, 7
	sigma, pairing   = 8, 9
	fst, snd         = 10, 11
	unit, box, open  = 12, 13, 14
	eq, refl         = 15, 16
	some, hold       = 17, 18 // in a greater universe
	one, two         = 19, 20
	plus, times, id  = 21, 22, 23
	couple           = 24
	upper            = 25     // what only comes to a universe by steps
	arrow, onward    = 26, 27 // to a type of functions
	again            = 28     // what goes on for ever, applied to itself: its body has not its type
	end              = 29     // no entry's
)

// def is a definition.
func def(name string, t, body api.Term) api.Entry {
	return api.Entry{Kind: api.EDef, Name: name, Type: t, Body: body}
}

// world is a signature with all that may be asked.
func world() []api.Entry {
	n, family := k(nat), fn(v(0), set)
	w := func(below int) api.Term { return k(tree, v(below+1), v(below)) }
	pairs := func(below int) api.Term { return k(sigma, v(below+1), v(below)) }
	return []api.Entry{
		{Kind: api.EData, Name: "Nat", Type: set, Cons: []int{zero, suc}},
		{Kind: api.ECon, Name: "zero", Type: n, Of: nat},
		{Kind: api.ECon, Name: "suc", Type: fn(n, n), Of: nat, Place: 1},
		{Kind: api.EData, Name: "Vec", Type: fn(set, n, set), Pars: 1, Inds: 1, Cons: []int{vnil, vcons}},
		{Kind: api.ECon, Name: "vnil", Type: fn(set, k(vec, v(0), k(zero))), Of: vec, Pars: 1},
		{Kind: api.ECon, Name: "vcons", Type: fn(set, n, v(1), k(vec, v(2), v(1)), k(vec, v(3), k(suc, v(2)))), Of: vec, Place: 1, Pars: 1},
		{Kind: api.EData, Name: "W", Type: fn(set, family, set), Pars: 2, Cons: []int{sup}},
		{Kind: api.ECon, Name: "sup", Type: fn(set, family, v(1), fn(app(v(1), v(0)), w(2)), w(2)), Of: tree, Pars: 2},
		{Kind: api.EData, Name: "Sigma", Type: fn(set, family, set), Pars: 2, Cons: []int{pairing}, Fields: []int{fst, snd}},
		{Kind: api.ECon, Name: "pair", Type: fn(set, family, v(1), app(v(1), v(0)), pairs(2)), Of: sigma, Pars: 2},
		{Kind: api.EProj, Name: "fst", Type: fn(set, family, pairs(0), v(2)), Of: sigma, Pars: 2},
		{Kind: api.EProj, Name: "snd", Type: fn(set, family, pairs(0), app(v(1), k(fst, v(2), v(1), v(0)))), Of: sigma, Place: 1, Pars: 2},
		{Kind: api.EData, Name: "Unit", Type: set, Cons: []int{box}, Fields: []int{open}},
		{Kind: api.ECon, Name: "box", Type: fn(n, k(unit)), Of: unit},
		{Kind: api.EProj, Name: "open", Type: fn(k(unit), n), Of: unit},
		{Kind: api.EData, Name: "Eq", Type: fn(set, v(0), v(1), set), Pars: 2, Inds: 1, Cons: []int{refl}},
		{Kind: api.ECon, Name: "refl", Type: fn(set, v(0), k(eq, v(1), v(0), v(0))), Of: eq, Pars: 2},
		{Kind: api.EData, Name: "Some", Type: s(1), Level: 1, Cons: []int{hold}},
		{Kind: api.ECon, Name: "hold", Type: fn(set, v(0), k(some)), Of: some},
		def("one", n, k(suc, k(zero))),
		def("two", n, k(suc, k(one))),
		def("plus", fn(n, n, n), lam(n, n, elim(nat, 0, lam(n, n), v(0), lam(n, n, k(suc, v(0))), v(1)))),
		def("times", fn(n, n, n), lam(n, n, elim(nat, 0, lam(n, n), k(zero), lam(n, n, k(plus, v(2), v(0))), v(1)))),
		def("id", fn(set, v(0), v(1)), lam(set, v(0), v(0))),
		def("couple", fn(n, k(sigma, n, lam(n, n))), lam(n, k(pairing, n, lam(n, n), v(0), k(suc, v(0))))),
		def("upper", s(2), s(1)),
		def("arrow", s(1), fn(set, set)),
		def("onward", set, fn(n, n)),
		def("again", set, lam(set, app(v(0), v(0)))),
	}
}

// machineOf is that of a signature.
func machineOf(t *testing.T, l []api.Entry) *whnf.Machine {
	t.Helper()
	m, e := whnf.New(l)
	if e != api.OK {
		t.Fatal(e)
	}
	return m
}

// theWorld is world, and theMachine its machine, made once for all tests that change nothing.
var (
	theWorld   = sync.OnceValue(world)
	theMachine = sync.OnceValues(func() (*whnf.Machine, api.Errno) { return whnf.New(theWorld()) })
)

// machine is that of world.
func machine(t *testing.T) *whnf.Machine {
	t.Helper()
	m, e := theMachine()
	if e != api.OK {
		t.Fatal(e)
	}
	return m
}

// fuel is a meter with so many steps; a nil one, if there are fewer than none.
func fuel(n int) *meter.Meter {
	m, _ := meter.New(n)
	return m
}

// The places of the context's variables, from the innermost one on, and its named ones'.
const (
	second, first, both, number, sort           = 0, 1, 2, 3, 4
	count, choice, family, twice, any, to, moot = 0, 1, 2, 3, 4, 5, 6
)

// proof is the type of proofs that the first field of a pair of something and a number is itself.
func proof(of, pair api.Term) api.Term {
	f := k(fst, of, lam(of, k(nat)), pair)
	return k(eq, of, f, f)
}

// placed is a world with a context of several types that name each other, and with named variables.
func placed(t *testing.T) World {
	t.Helper()
	n := k(nat)
	return World{
		M:       machine(t),
		Context: terms(set, n, k(sigma, v(1), lam(v(1), k(nat))), proof(v(2), v(0)), fn(v(3), k(vec, v(4), v(3)))),
		Names:   []int{twice, count, choice, family, any, twice, to, moot},
		Types:   terms(k(unit), n, set, fn(n, set), fn(set, v(0)), fn(n, n, n), k(upper), k(onward)),
	}
}

// closed is a world without variables.
func closed(t *testing.T) World {
	t.Helper()
	return World{M: machine(t)}
}

// answers asks a call with so much fuel, and with a nil meter, if that is none.
func answers(t *testing.T, name string, w World, what string, of, a api.Term, l []api.Term, n int, want answer) {
	t.Helper()
	fuels := []int{n}
	if n == 0 {
		fuels = append(fuels, -1)
	}
	for _, n := range fuels {
		if got := answered(calls(nil)[name][0], w, n, of, a, l); !got.like(want) {
			t.Errorf("%s, %s, of %d: %s, not %s", what, name, n, got.written(), want.written())
		}
	}
}

// enough asks a call with just as much fuel as it needs, with more, and with each that is less.
func enough(t *testing.T, name string, w World, what string, of, a api.Term, l []api.Term, want answer) {
	t.Helper()
	for _, n := range []int{want.used, want.used + 1, want.used + 7, api.MaxFuel} {
		answers(t, name, w, what, of, a, l, n, want)
	}
	for n := range want.used {
		answers(t, name, w, what, of, a, l, n, answer{e: api.ErrFuel, used: n})
	}
	for n := range want.used + 2 {
		held(t, theWorld(), name, w, what, of, a, l, n)
	}
}

// has asks that t has a type, told after so many steps, against which it is checked.
func has(t *testing.T, w World, what string, of, a api.Term, steps int) {
	t.Helper()
	enough(t, "Infer", w, what, of, api.Term{}, nil, answer{t: a, used: steps})
	if e := Check(World{w.M, fuel(2000), w.Context, w.Names, w.Types}, of, a); e != api.OK { // P17.3
		t.Errorf("%s, against its own type: %v", what, e)
	}
	if len(w.Context)+len(w.Names) > 0 {
		return
	}
	for n := range steps + 2 {
		want, no := a, api.OK
		if n < steps {
			want, no = api.Term{}, api.ErrFuel
		}
		if got, e := Of(theWorld(), of, n); e != no || !(answer{t: got}).like(answer{t: want}) {
			t.Errorf("%s, in a signature, of %d: %s, %v, not %s, %v", what, n, told(got), e, told(want), no)
		}
	}
}

// errs asks that t has no type, which shows after so many steps.
func errs(t *testing.T, w World, what string, of api.Term, want api.Errno, steps int) {
	t.Helper()
	enough(t, "Infer", w, what, of, api.Term{}, nil, answer{e: want, used: steps})
}

// among asks that t is a type of a universe, told after so many steps.
func among(t *testing.T, w World, what string, of api.Term, n, steps int) {
	t.Helper()
	enough(t, "Universe", w, what, of, api.Term{}, nil, answer{n: n, used: steps})
	enough(t, "Tele", w, what, api.Term{}, api.Term{}, terms(of), answer{n: n, used: steps})
}

// none asks that t is no type, which shows after so many steps.
func none(t *testing.T, w World, what string, of api.Term, want api.Errno, steps int) {
	t.Helper()
	enough(t, "Universe", w, what, of, api.Term{}, nil, answer{e: want, used: steps})
	enough(t, "Tele", w, what, api.Term{}, api.Term{}, terms(of), answer{e: want, used: steps})
}

// checked asks whether t is checked against a, which shows after so many steps.
func checked(t *testing.T, w World, what string, of, a api.Term, want api.Errno, steps int) {
	t.Helper()
	enough(t, "Check", w, what, of, a, nil, answer{e: want, used: steps})
}

// TestWorld asks that the world is formed, and that all of it is right by the promises themselves.
func TestWorld(t *testing.T) { // P17.1
	if !sign.Formed(world()) || len(world()) != end {
		t.Fatal("the world is not formed")
	}
	w := closed(t)
	for i, each := range theWorld() {
		w.F = fuel(1000)
		n, e := Universe(w, each.Type)
		if e != api.OK || each.Kind == api.EData && n != each.Level+1 {
			t.Errorf("%s: %d, %v", each.Name, n, e)
		}
		has(t, w, each.Name, k(i), each.Type, 0)
		if each.Kind == api.EDef {
			want := api.OK
			if i == again {
				want = api.ErrType
			}
			if e := Check(w, each.Body, each.Type); e != want {
				t.Errorf("%s: %v, not %v", each.Name, e, want)
			}
		}
	}
	p := placed(t)
	p.F = fuel(1000)
	if e := Context(p); e != api.OK {
		t.Error(e)
	}
	for _, a := range p.Types {
		w.F = fuel(1000)
		if _, e := Universe(w, a); e != api.OK {
			t.Error(told(a), e)
		}
	}
}

// TestExample is the chapter's.
func TestExample(t *testing.T) { // P17.1, P17.2
	w, n := closed(t), k(nat)
	has(t, w, "suc", lam(n, k(suc, v(0))), fn(n, n), 1)
	has(t, w, "functions of universes", fn(set, set), s(1), 0)
	got, e := Of(world(), lam(n, k(suc, v(0))), 1)
	if !term.Same(got, fn(n, n)) || e != api.OK {
		t.Error(told(got), e)
	}
}

// TestVariables asks loose and named variables.
func TestVariables(t *testing.T) { // P17.1
	w, n := placed(t), k(nat)
	has(t, w, "the innermost one", v(second), fn(v(4), k(vec, v(5), v(4))), 0)
	has(t, w, "beneath another one", v(first), proof(v(4), v(2)), 0)
	has(t, w, "in the middle", v(both), k(sigma, v(4), lam(v(4), k(nat))), 0)
	has(t, w, "a closed type", v(number), n, 0)
	has(t, w, "the outermost one", v(sort), set, 0)
	errs(t, w, "just beyond", v(5), api.ErrScope, 0)
	errs(t, w, "far beyond", v(api.MaxFree), api.ErrScope, 0)
	errs(t, closed(t), "none", v(0), api.ErrScope, 0)
	has(t, w, "beneath a binder", lam(n, v(0)), fn(n, n), 0)
	has(t, w, "past a binder", lam(n, v(1)), fn(n, fn(v(5), k(vec, v(6), v(5)))), 0)
	errs(t, w, "just beyond, past a binder", lam(n, v(6)), api.ErrScope, 0)
	errs(t, w, "just beyond, in a binder's type", lam(v(5), v(0)), api.ErrScope, 0)
	errs(t, w, "just beyond, past a type's binder", fn(n, v(6)), api.ErrScope, 0)
	errs(t, w, "just beyond, in an argument", k(suc, v(5)), api.ErrScope, 1)
	errs(t, w, "just beyond, in a function", app(v(5), v(number)), api.ErrScope, 1)
	has(t, w, "a named one", x(count), n, 0)
	has(t, w, "a named one, listed twice", x(twice), fn(n, n, n), 0)
	has(t, w, "a named one of the last", x(moot), k(onward), 0)
	has(t, w, "a named one beneath a binder", lam(set, x(any)), fn(set, set, v(0)), 0)
	for _, m := range []int{7, 8, api.MaxFree} {
		errs(t, w, "a named one that there is not", x(m), api.ErrScope, 0)
	}
	errs(t, closed(t), "no named ones", x(count), api.ErrScope, 0)
	errs(t, w, "within what is applied", k(suc, x(9)), api.ErrScope, 1)
}

// TestNames asks named variables whose numbers there are not, or not in order; and whose types have loose variables.
func TestNames(t *testing.T) { // P17.1
	w := closed(t)
	w.Names = []int{-1, api.MaxFree, 5, api.MaxFree + 1, 5, 0, 5, -5}
	w.Types = terms(s(0), s(1), s(2), s(3), s(4), v(0), fn(v(0), v(2)), s(5))
	has(t, w, "the greatest number", x(api.MaxFree), s(1), 0)
	has(t, w, "a loose variable", x(0), v(0), 0)
	has(t, w, "the last of three", x(5), fn(v(0), v(2)), 0)
	errs(t, w, "none", x(1), api.ErrScope, 0)
	w.Context = terms(set, v(0))
	has(t, w, "a loose variable beneath two", x(0), v(2), 0)
	has(t, w, "the last of three, beneath two", x(5), fn(v(2), v(4)), 0)
	has(t, w, "beneath three", lam(set, x(0)), fn(set, v(3)), 0)
	has(t, w, "the greatest number beneath two", x(api.MaxFree), s(1), 0)
	has(t, w, "a loose variable that is beyond", v(0), v(1), 0)
	w.Context = terms(v(7), fn(v(9), v(0)))
	has(t, w, "a type that is beyond", v(1), v(9), 0)
	has(t, w, "a type that is beyond, of functions", v(0), fn(v(10), v(0)), 0)
	w.Names, w.Types = []int{}, []api.Term{}
	errs(t, w, "none at all", x(0), api.ErrScope, 0)
}

// TestUniverses asks universes.
func TestUniverses(t *testing.T) { // P17.1
	w := closed(t)
	for n := range api.MaxLevel {
		has(t, w, "a universe", s(n), s(n+1), 0)
		if n > 0 {
			among(t, w, "a universe", s(n-1), n, 0)
		}
		checked(t, w, "a universe, against its own", s(n), s(n+1), api.OK, 0)
		for m := range api.MaxLevel + 1 {
			want := api.OK
			if m <= n {
				want = api.ErrType
			}
			checked(t, w, "a universe, against another", s(n), s(m), want, 0)
		}
	}
	errs(t, w, "the greatest one", s(api.MaxLevel), api.ErrLevel, 0)
	none(t, w, "the greatest one", s(api.MaxLevel), api.ErrLevel, 0)
	checked(t, w, "the greatest one", s(api.MaxLevel), s(api.MaxLevel), api.ErrLevel, 0)
	among(t, w, "the greatest one but one", s(api.MaxLevel-1), api.MaxLevel, 0)
	errs(t, w, "the greatest one in a type", fn(set, s(api.MaxLevel)), api.ErrLevel, 0)
	errs(t, w, "the greatest one of a function", lam(s(api.MaxLevel), v(0)), api.ErrLevel, 0)
	has(t, w, "a function to the greatest", lam(set, s(api.MaxLevel-1)), fn(set, s(api.MaxLevel)), 0)
	has(t, w, "a type from the greatest but one", fn(s(api.MaxLevel-1), set), s(api.MaxLevel), 0)
	none(t, w, "one that is applied", app(set, set), api.ErrType, 1)
}

// TestTypes asks types of functions.
func TestTypes(t *testing.T) { // P17.1
	w, n := placed(t), k(nat)
	has(t, w, "small", fn(n, n), s(0), 0)
	has(t, w, "small ones", fn(n, n, k(unit), n), s(0), 0)
	has(t, w, "a greater first", fn(s(3), n), s(4), 0)
	has(t, w, "a greater second", fn(n, s(3)), s(4), 0)
	has(t, w, "a greater first than second", fn(s(3), s(1)), s(4), 0)
	has(t, w, "a greater second than first", fn(s(1), s(3)), s(4), 0)
	has(t, w, "dependent", fn(set, v(0)), s(1), 0)
	has(t, w, "dependent on two", fn(set, fn(v(0), set), v(1), app(v(1), v(0))), s(1), 1)
	has(t, w, "of the context", fn(v(sort), k(vec, v(sort+1), v(number+1))), s(0), 2)
	has(t, w, "of functions", fn(fn(n, n), fn(n, n), n), s(0), 0)
	has(t, w, "a universe by steps", fn(x(to), n), s(1), 1)
	has(t, w, "a second universe by steps", fn(n, x(to)), s(1), 1)
	has(t, w, "a defined type", fn(k(onward), k(arrow)), s(1), 0)
	errs(t, w, "a first that is none", fn(k(zero), n), api.ErrType, 0)
	errs(t, w, "a second that is none", fn(n, k(zero)), api.ErrType, 0)
	errs(t, w, "a second that is none, of a variable", fn(n, v(0)), api.ErrType, 0)
	errs(t, w, "both are none", fn(k(zero), v(9)), api.ErrType, 0)
	errs(t, w, "the first ahead of the second", fn(v(9), k(zero)), api.ErrScope, 0)
	errs(t, w, "the second, if the first is one", fn(n, v(9)), api.ErrScope, 0)
	errs(t, w, "a function", fn(lam(n, n), n), api.ErrType, 0)
	errs(t, w, "a family without its index", fn(k(vec, n), n), api.ErrType, 1)
}

// TestFunctions asks functions for their types.
func TestFunctions(t *testing.T) { // P17.1
	w, n := placed(t), k(nat)
	has(t, w, "a variable", lam(n, v(0)), fn(n, n), 0)
	has(t, w, "two", lam(set, v(0), v(0)), fn(set, v(0), v(1)), 0)
	has(t, w, "of a function", lam(fn(n, n), app(v(0), k(zero))), fn(fn(n, n), n), 1)
	has(t, w, "of functions of functions", lam(fn(fn(n, n), n), app(v(0), lam(n, k(suc, v(0))))), fn(fn(fn(n, n), n), n), 2)
	has(t, w, "composed", lam(fn(n, n), fn(n, n), n, app(v(2), app(v(1), v(0)))), fn(fn(n, n), fn(n, n), n, n), 2)
	has(t, w, "into a type", lam(n, k(vec, n, v(0))), fn(n, set), 2)
	has(t, w, "into a universe", lam(n, s(2)), fn(n, s(3)), 0)
	has(t, w, "of the context", lam(v(sort), v(0)), fn(v(sort), v(sort+1)), 0)
	has(t, w, "of a type by steps", lam(app(lam(set, v(0)), n), v(0)), fn(app(lam(set, v(0)), n), app(lam(set, v(0)), n)), 1)
	has(t, w, "of what has a universe by steps", lam(x(to), v(0)), fn(x(to), x(to)), 1)
	errs(t, w, "of no type", lam(k(zero), v(0)), api.ErrType, 0)
	errs(t, w, "of no type, ahead of its body", lam(k(zero), v(9)), api.ErrType, 0)
	errs(t, w, "of a body that errs", lam(n, v(9)), api.ErrScope, 0)
	errs(t, w, "its type's error", lam(v(9), k(zero, k(zero))), api.ErrScope, 0)
	none(t, w, "no type", lam(n, n), api.ErrType, 0)
}

// TestApplications asks applications.
func TestApplications(t *testing.T) { // P17.1
	w, n := placed(t), k(nat)
	has(t, w, "a constructor", k(suc, k(zero)), n, 1)
	has(t, w, "twice", k(suc, k(suc, k(zero))), n, 2)
	has(t, w, "a definition", k(plus, k(one), k(two)), n, 2)
	has(t, w, "less than all", k(plus, k(one)), fn(n, n), 1)
	has(t, w, "a parameter", k(id, n, k(zero)), n, 2)
	has(t, w, "a type that is put in", k(id, fn(n, n), k(suc), k(zero)), n, 3)
	has(t, w, "a loose variable that is put in", k(id, v(sort)), fn(v(sort), v(sort+1)), 1)
	has(t, w, "a variable", app(v(second), k(fst, v(sort), lam(v(sort), n), v(both))), k(vec, v(sort), v(number)), 1+3)
	has(t, w, "a pair", k(pairing, n, lam(n, k(vec, n, v(0))), k(zero), k(vnil, n)), k(sigma, n, lam(n, k(vec, n, v(0)))), 4+2+1+1)
	has(t, w, "a second field", k(snd, n, lam(n, n), k(couple, k(one))), app(lam(n, n), k(fst, n, lam(n, n), k(couple, k(one)))), 3+1)
	has(t, w, "an argument's type by steps", k(suc, k(snd, n, lam(n, n), k(couple, k(one)))), n, 1+3+1+1)
	has(t, w, "a function by steps", app(x(moot), k(zero)), n, 1+1)
	has(t, w, "a function by an eliminator", app(elim(nat, 0, lam(n, k(nat)), k(zero), lam(n, n, v(0))), k(two)), app(lam(n, n), k(two)), 4+1+3)
	has(t, w, "a beta that is not taken", app(lam(n, v(0)), k(zero)), n, 1)
	has(t, w, "a type in a greater universe", app(lam(s(3), v(0)), n), s(3), 1)
	has(t, w, "an argument that binds", app(lam(fn(n, n), v(0)), lam(n, v(0))), fn(n, n), 1)
	has(t, w, "a great one", k(hold, n, k(zero)), k(some), 2)
	errs(t, w, "no function", app(k(zero), k(zero)), api.ErrType, 1)
	errs(t, w, "a type", app(n, k(zero)), api.ErrType, 1)
	errs(t, w, "one too many", k(suc, k(zero), k(zero)), api.ErrType, 2)
	errs(t, w, "a type of functions itself", app(fn(n, n), k(zero)), api.ErrType, 1)
	errs(t, w, "what only is none by steps", app(x(to), k(zero)), api.ErrType, 1+1)
	errs(t, w, "no function, ahead of its argument", app(k(zero), v(9)), api.ErrType, 1)
	errs(t, w, "a function that errs, ahead of its argument", app(v(9), k(zero, k(zero))), api.ErrScope, 1)
	errs(t, w, "an argument that errs", k(suc, v(9)), api.ErrScope, 1)
	errs(t, w, "an argument of another type", k(suc, n), api.ErrType, 1)
	errs(t, w, "an argument of too great a universe", k(id, s(0)), api.ErrType, 1)
	errs(t, w, "an argument that is a great family", k(id, k(some)), api.ErrType, 1)
	errs(t, w, "an index that is another one", k(vcons, n, k(one), k(zero), k(vnil, n)), api.ErrType, 4+1+1)
	has(t, w, "an index that is one by steps", k(vcons, n, k(plus, k(zero), k(zero)), k(zero), k(vnil, n)), k(vec, n, k(suc, k(plus, k(zero), k(zero)))), 4+2+1+4)
	has(t, w, "proofs by steps", app(lam(k(eq, n, k(two), k(plus, k(one), k(one))), v(0)), k(refl, n, k(two))), k(eq, n, k(two), k(plus, k(one), k(one))), 1+5+2+4+11)
}

// TestNoFunctions asks applications of what has no type of functions, though that stands in its type.
func TestNoFunctions(t *testing.T) { // P17.1
	w, n := closed(t), k(nat)
	w.Names = []int{0, 1, 2, 3, 4, 5, 6}
	w.Types = terms(lam(n, n), app(fn(n, n), k(zero)), app(x(1), n), k(onward), app(lam(set, fn(v(0), v(1))), n), lam(n, fn(n, n)), k(suc, fn(n, n)))
	for i, steps := range map[int]int{0: 1, 1: 1, 2: 1, 5: 1, 6: 1} {
		errs(t, w, "no function, "+many(i), app(x(i), k(zero)), api.ErrType, steps)
		errs(t, w, "no function, ahead of its argument, "+many(i), app(x(i), v(9)), api.ErrType, steps)
	}
	has(t, w, "a function by a definition", app(x(3), k(zero)), n, 1+1)
	has(t, w, "a function by a beta", app(x(4), k(zero)), n, 1+1)
}

// rest is what an eliminator of numbers asks behind its motive, which is closed.
func rest(p api.Term) api.Term {
	n := k(nat)
	return fn(app(p, k(zero)), fn(n, app(p, v(0)), app(p, k(suc, v(1)))), n, app(p, v(0)))
}

// TestEliminators asks eliminators into several universes.
func TestEliminators(t *testing.T) { // P17.1
	w, c, n := placed(t), closed(t), k(nat)
	for level := range api.MaxLevel + 1 {
		of := fn(fn(n, s(level)), app(v(0), k(zero)), fn(n, app(v(2), v(0)), app(v(3), k(suc, v(1)))), n, app(v(3), v(0)))
		has(t, c, "of numbers", term.Elim(nat, level), of, 0)
		has(t, w, "of numbers, beneath some", term.Elim(nat, level), of, 0)
		small := lam(n, n)
		has(t, c, "to numbers", elim(nat, level, small), rest(small), 1)
		for m := range api.MaxLevel {
			great := lam(n, s(m))
			if m < level {
				has(t, c, "to a universe", elim(nat, level, great), rest(great), 1)
			} else {
				errs(t, c, "to too great a universe", elim(nat, level, great), api.ErrType, 1)
			}
		}
	}
	small, great := lam(n, n), lam(n, set)
	step := lam(n, n, k(suc, v(0)))
	has(t, c, "all arguments", elim(nat, 0, small, k(one), step, k(two)), app(small, k(two)), 4+1+4)
	has(t, c, "to a type, all arguments", elim(nat, 1, great, n, lam(n, set, fn(v(0), v(1))), k(two)), app(great, k(two)), 4+1+4)
	has(t, c, "of lists", term.Elim(vec, 3), fn(
		set, fn(n, k(vec, v(1), v(0)), s(3)),
		app(v(0), k(zero), k(vnil, v(1))), fn(n, v(3), k(vec, v(4), v(1)), app(v(4), v(2), v(0)), app(v(5), k(suc, v(3)), k(vcons, v(6), v(3), v(2), v(1)))),
		n, k(vec, v(4), v(0)), app(v(4), v(1), v(0)),
	), 0)
	has(t, w, "of something great", term.Elim(some, 2), fn(fn(k(some), s(2)), fn(set, v(0), app(v(2), k(hold, v(1), v(0)))), k(some), app(v(2), v(0))), 0)
	has(t, w, "of a record", term.Elim(unit, 0), fn(fn(k(unit), set), fn(n, app(v(1), k(box, v(0)))), k(unit), app(v(2), v(0))), 0)
	errs(t, c, "what is no family", term.Elim(zero, 0), api.ErrNone, 0)
	errs(t, c, "a field", term.Elim(fst, 0), api.ErrNone, 0)
	errs(t, c, "a definition, in an argument", k(suc, term.Elim(one, 7)), api.ErrNone, 1)
	errs(t, c, "what is no motive", elim(nat, 0, k(zero)), api.ErrType, 1)
	errs(t, c, "a method of another type", elim(nat, 0, small, set), api.ErrType, 2+1)
	errs(t, c, "a method of less", elim(nat, 0, small, k(zero), lam(n, v(0))), api.ErrType, 3+1)
}

// TestCheck asks what is checked against a type.
func TestCheck(t *testing.T) { // P17.1
	w, n := placed(t), k(nat)
	checked(t, w, "what it has", k(zero), n, api.OK, 0)
	checked(t, w, "a lower universe", n, s(3), api.OK, 0)
	checked(t, w, "a greater universe", s(3), s(3), api.ErrType, 0)
	checked(t, w, "a lower universe behind types", k(vec), fn(set, n, s(5)), api.OK, 0)
	checked(t, w, "another first type", k(suc), fn(set, n), api.ErrType, 0)
	checked(t, w, "a first universe that is greater", x(any), fn(s(1), v(0)), api.ErrType, 0)
	checked(t, w, "another type", k(zero), set, api.ErrType, 0)
	checked(t, w, "by steps", k(zero), app(lam(set, v(0)), n), api.OK, 1)
	checked(t, w, "by steps of both", k(snd, n, lam(n, n), k(couple, k(one))), app(lam(set, v(0)), n), api.OK, 3+1+1+1)
	checked(t, w, "an error ahead of the type's", v(9), round(), api.ErrScope, 0)
	checked(t, w, "what is no type", k(zero), k(zero), api.ErrType, 0)
	checked(t, w, "what errs as a type", k(zero), app(k(zero), v(9)), api.ErrType, 0)
	checked(t, w, "a variable against what is beyond", v(number), v(9), api.ErrType, 0)
	checked(t, w, "a universe against functions", set, fn(n, n), api.ErrType, 0)
	checked(t, w, "functions against a universe", k(suc), set, api.ErrType, 0)
}

// TestCheckFunctions asks functions that are checked against types.
func TestCheckFunctions(t *testing.T) { // P17.1
	w, n := placed(t), k(nat)
	self := lam(set, v(0))
	steps := app(self, n)
	checked(t, w, "what it has", lam(n, v(0)), fn(n, n), api.OK, 0)
	checked(t, w, "another first", lam(n, v(0)), fn(set, n), api.ErrType, 0)
	checked(t, w, "another first, another second", lam(n, v(9)), fn(set, v(0)), api.ErrType, 0)
	checked(t, w, "a lower first", lam(set, n), fn(s(1), set), api.ErrType, 0)
	checked(t, w, "a greater first", lam(s(1), n), fn(set, set), api.ErrType, 0)
	checked(t, w, "another second", lam(n, v(0)), fn(n, set), api.ErrType, 0)
	checked(t, w, "a lower second", lam(n, n), fn(n, s(4)), api.OK, 0)
	checked(t, w, "a greater second", lam(n, s(4)), fn(n, s(4)), api.ErrType, 0)
	checked(t, w, "of two", lam(set, v(0), v(0)), fn(set, v(0), v(1)), api.OK, 0)
	checked(t, w, "of two, a lower second", lam(set, fn(v(0), v(1)), v(1)), fn(set, fn(v(0), v(1)), s(1)), api.OK, 0)
	checked(t, w, "the first by steps", lam(steps, v(0)), fn(n, n), api.OK, 1+1)
	checked(t, w, "its first by steps", lam(n, v(0)), fn(steps, n), api.OK, 1+1)
	checked(t, w, "both firsts by steps", lam(steps, v(0)), fn(steps, n), api.OK, 1+1+1+1)
	checked(t, w, "the second by steps", lam(n, v(0)), fn(n, steps), api.OK, 1)
	checked(t, w, "a type by steps", lam(n, v(0)), k(onward), api.OK, 1)
	checked(t, w, "a type by more steps", lam(n, v(0)), app(self, app(self, k(onward))), api.OK, 3)
	checked(t, w, "a great type by steps", lam(set, n), k(arrow), api.OK, 1)
	checked(t, w, "a type by steps, another first", lam(set, n), k(onward), api.ErrType, 1)
	checked(t, w, "a second type by steps", lam(n, n, v(1)), fn(n, k(onward)), api.OK, 1)
	checked(t, w, "no type of functions", lam(n, v(0)), n, api.ErrType, 0)
	checked(t, w, "no type of functions by steps", lam(n, v(0)), steps, api.ErrType, 1+1)
	checked(t, w, "no type of functions, its own error", lam(n, v(9)), n, api.ErrScope, 0)
	checked(t, w, "what is one with its type, though it is none", lam(n, v(0)), lam(n, app(fn(n, n), v(0))), api.OK, 0)
	checked(t, w, "an applied type", lam(n, v(0)), app(fn(n, n), k(zero)), api.ErrType, 0)
	checked(t, w, "the type's steps ahead of all", lam(v(9), v(9)), k(id, set, k(onward)), api.ErrScope, 3+1)
	checked(t, w, "its first is no type", lam(k(zero), v(0)), fn(n, n), api.ErrType, 0)
	checked(t, w, "its first errs", lam(v(9), v(0)), fn(n, n), api.ErrScope, 0)
	checked(t, w, "its first errs, though that of the type does", lam(v(9), v(0)), fn(v(9), n), api.ErrScope, 0)
	checked(t, w, "its body errs", lam(n, v(9)), fn(n, n), api.ErrScope, 0)
	checked(t, w, "its body errs, too far alone", lam(n, v(5)), fn(n, set), api.OK, 0)
	checked(t, w, "its body errs, just too far", lam(n, v(6)), fn(n, set), api.ErrScope, 0)
	checked(t, w, "a function behind steps is none", app(self, n), fn(n, n), api.ErrType, 1)
	checked(t, w, "in an argument", app(lam(fn(n, set), app(v(0), k(zero))), lam(n, n)), set, api.OK, 1+1)
	checked(t, w, "a context that names a type's first", lam(steps, k(refl, n, v(0))), fn(n, k(eq, n, v(0), v(0))), api.OK, 1+1+2)
	checked(t, w, "a field of what the type's first is", lam(app(self, k(sigma, n, lam(n, n))), k(fst, n, lam(n, n), v(0))), fn(k(sigma, n, lam(n, n)), n), api.OK, 1+2+1+3)
}

// TestUniverse asks of which universe types are.
func TestUniverse(t *testing.T) { // P17.1
	w, n := placed(t), k(nat)
	among(t, w, "numbers", n, 0, 0)
	among(t, w, "a variable", v(sort), 0, 0)
	among(t, w, "a named variable", x(choice), 0, 0)
	among(t, w, "an application", k(vec, v(sort), v(number)), 0, 2)
	among(t, w, "a great family", k(some), 1, 0)
	among(t, w, "by steps", x(to), 1, 1)
	among(t, w, "a definition", k(upper), 2, 0)
	among(t, w, "what an eliminator comes to", elim(nat, 2, lam(n, s(1)), set, lam(n, s(1), v(0)), k(one)), 1, 4+1+3+1)
	among(t, w, "a type of functions", fn(n, s(2)), 3, 0)
	none(t, w, "a number", k(zero), api.ErrType, 0)
	none(t, w, "a function", k(suc), api.ErrType, 0)
	none(t, w, "what is applied", k(one, k(one)), api.ErrType, 1)
	none(t, w, "what is no type by steps", app(x(moot), k(zero)), api.ErrType, 2)
	none(t, w, "an error", v(5), api.ErrScope, 0)
	none(t, w, "a named one's error", x(9), api.ErrScope, 0)
	none(t, w, "what is applied, and errs", k(vec, v(5)), api.ErrScope, 1)
}

// TestNoUniverses asks what has a type that is no universe, of each kind.
func TestNoUniverses(t *testing.T) { // P17.1, P17.2
	w, n := closed(t), k(nat)
	w.Names = []int{0}
	for i, a := range terms(v(0), x(7), n, k(zero), fn(set, set), lam(set, set), app(set, set), k(suc, set), term.Elim(nat, 0), app(v(1), v(0)), lam(set, s(1))) {
		w.Types = terms(a)
		for _, what := range []string{"no universe, ", "no universe by steps, "} {
			steps := 0
			if what == "no universe by steps, " {
				w.Types, steps = terms(app(lam(set, moved(a, 1, 0)), set)), 1
			}
			none(t, w, what+many(i), x(0), api.ErrType, steps)
			none(t, w, what+"of a type, "+many(i), fn(x(0), v(9)), api.ErrType, steps)
			none(t, w, what+"of a function, "+many(i), lam(x(0), v(9)), api.ErrType, steps)
			checked(t, w, what+"of a function that is checked, "+many(i), lam(x(0), v(9)), fn(n, n), api.ErrType, steps)
		}
	}
}

// TestTele asks telescopes.
func TestTele(t *testing.T) { // P17.2
	w, c, n := placed(t), closed(t), k(nat)
	tele := func(w World, what string, l []api.Term, most int, e api.Errno, steps int) {
		t.Helper()
		enough(t, "Tele", w, what, api.Term{}, api.Term{}, l, answer{n: most, e: e, used: steps})
	}
	tele(c, "none", nil, 0, api.OK, 0)
	tele(w, "none, beneath some", terms(), 0, api.OK, 0)
	tele(w, "one", terms(n), 0, api.OK, 0)
	tele(w, "one that is great", terms(s(3)), 4, api.OK, 0)
	tele(c, "several", terms(set, v(0), fn(v(1), set), app(v(0), v(1))), 1, api.OK, 1)
	tele(c, "the greatest first", terms(s(6), n, n), 7, api.OK, 0)
	tele(c, "the greatest last", terms(n, n, s(6)), 7, api.OK, 0)
	tele(c, "the greatest in the middle", terms(n, s(1), s(4), s(2), n), 5, api.OK, 0)
	tele(w, "of the context", terms(v(sort), v(sort+1), k(vec, v(sort+2), v(number+2))), 0, api.OK, 2)
	tele(w, "many", append(terms(set), upward(60)...), 1, api.OK, 0)
	tele(w, "the first one errs", terms(v(5), k(zero)), 0, api.ErrScope, 0)
	tele(w, "the first one is none", terms(k(zero), v(9)), 0, api.ErrType, 0)
	tele(w, "the second one errs", terms(n, v(7), k(zero)), 0, api.ErrScope, 0)
	tele(w, "the second one, just too far", terms(n, v(6)), 0, api.ErrScope, 0)
	tele(w, "the second one is none", terms(n, v(0)), 0, api.ErrType, 0)
	tele(w, "the last one", terms(n, n, s(7)), 0, api.ErrLevel, 0)
	tele(w, "steps of all", terms(k(vec, n, k(zero)), app(x(family), v(number+1)), x(to)), 1, api.OK, 2+1+1)
	tele(w, "none of itself", terms(n, fn(n, k(eq, n, v(0), v(2)))), 0, api.ErrType, 3)
}

// upward are so many types, each the variable of the first one ahead of all.
func upward(n int) []api.Term {
	l := terms()
	for i := range n {
		l = append(l, v(i))
	}
	return l
}

// TestContext asks whole contexts.
func TestContext(t *testing.T) { // P17.2
	n := k(nat)
	context := func(what string, l []api.Term, e api.Errno, steps int) {
		t.Helper()
		w := placed(t)
		w.Context = l
		enough(t, "Context", w, what, api.Term{}, api.Term{}, nil, answer{e: e, used: steps})
	}
	context("none", nil, api.OK, 0)
	context("none, a list", terms(), api.OK, 0)
	context("one", terms(n), api.OK, 0)
	context("several", placed(t).Context, api.OK, 2+2+2+1+4+2)
	context("many", append(terms(set), upward(60)...), api.OK, 0)
	context("the first one names nothing", terms(v(0)), api.ErrScope, 0)
	context("the first one names the second", terms(v(1), set), api.ErrScope, 0)
	context("the second one names itself", terms(set, fn(v(0), v(2))), api.ErrScope, 0)
	context("the first one is none", terms(k(zero), v(9)), api.ErrType, 0)
	context("the second one is none", terms(n, v(0), v(9)), api.ErrType, 0)
	context("the last one", terms(n, set, s(7)), api.ErrLevel, 0)
	context("the greatest", terms(s(6), v(0), k(upper)), api.OK, 0)
	context("named ones", terms(x(choice), app(x(family), x(count)), x(to)), api.OK, 1+1)
	context("a named one that there is not", terms(x(choice), x(9)), api.ErrScope, 0)
}
