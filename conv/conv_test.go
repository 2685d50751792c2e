package conv

import (
	"strconv"
	"strings"
	"sync"
	"testing"

	"scholium/api"
	"scholium/meter"
	"scholium/norm"
	"scholium/sign"
	"scholium/term"
	"scholium/whnf"
)

// set is the least universe.
var set = term.Sort(0)

// v is the variable n.
func v(n int) api.Term { return term.Var(n) }

// x is the named variable n.
func x(n int) api.Term { return term.Free(n) }

// k is entry n, applied to some.
func k(n int, l ...api.Term) api.Term { return term.Apply(term.Const(n), l...) }

// elim is the eliminator of entry n into a universe, applied to some.
func elim(n, level int, l ...api.Term) api.Term { return term.Apply(term.Elim(n, level), l...) }

// app is a term, applied to some.
func app(f api.Term, l ...api.Term) api.Term { return term.Apply(f, l...) }

// laid are all of a list but the last, laid around the last.
func laid(around func(a, b api.Term) api.Term, l []api.Term) api.Term {
	t := l[len(l)-1]
	for i := len(l) - 2; i >= 0; i-- {
		t = around(l[i], t)
	}
	return t
}

// fn is the type of functions of all of a list but the last, to the last.
func fn(l ...api.Term) api.Term { return laid(term.Pi, l) }

// lam is the function of all of a list but the last, to the last.
func lam(l ...api.Term) api.Term { return laid(term.Lam, l) }

// terms are a list of some.
func terms(l ...api.Term) []api.Term { return l }

// told writes a term, if it is not too great to be read.
func told(t api.Term) string {
	if term.Size(t) > 100 {
		return "a term of size " + strconv.Itoa(term.Size(t))
	}
	words := []string{strconv.Itoa(t.Kind), strconv.Itoa(t.N)}
	for _, s := range t.Sub {
		words = append(words, told(s))
	}
	return "(" + strings.Join(words, " ") + ")"
}

// The places of world's entries.
const (
	nat, zero, suc   = 0, 1, 2
	vec, vnil, vcons = 3, 4, 5
	tree, sup        = 6, 7 // one constructor, but no record
	sigma, pairing   = 8, 9
	fst, snd         = 10, 11
	prod, both       = 12, 13 // another record with the same parameters
	left, right      = 14, 15
	unit, box, open  = 16, 17, 18 // a record without parameters
	only, star       = 19, 20     // one constructor without arguments of its own: no record
	wrap, bare, more = 21, 22, 23 // numbers with a parameter
	one, two         = 24, 25
	plus, times, id  = 26, 27, 28
	couple           = 29     // what only comes to a pair by steps
	again            = 30     // what goes on for ever, applied to itself
	arrow, upper     = 31, 32 // what only comes to a type of functions, to a universe, by steps
	end              = 33     // no entry's
	great, tall      = 33, 34 // the wide world's
)

// The nodes of great, and the levels of tall.
const (
	nodes  = 4000
	levels = 100
)

// world is a signature with all that may be asked.
func world() []api.Entry {
	n, family := k(nat), fn(v(0), set)
	w := func(below int) api.Term { return k(tree, v(below+1), v(below)) }
	s := func(below int) api.Term { return k(sigma, v(below+1), v(below)) }
	p := func(below int) api.Term { return k(prod, v(below+1), v(below)) }
	def := func(name string, t, body api.Term) api.Entry {
		return api.Entry{Kind: api.EDef, Name: name, Type: t, Body: body}
	}
	return []api.Entry{
		{Kind: api.EData, Name: "Nat", Type: set, Cons: []int{zero, suc}},
		{Kind: api.ECon, Name: "zero", Type: n, Of: nat},
		{Kind: api.ECon, Name: "suc", Type: fn(n, n), Of: nat, Place: 1},
		{Kind: api.EData, Name: "Vec", Type: fn(set, n, set), Pars: 1, Inds: 1, Cons: []int{vnil, vcons}},
		{Kind: api.ECon, Name: "vnil", Type: fn(set, k(vec, v(0), k(zero))), Of: vec, Pars: 1},
		{Kind: api.ECon, Name: "vcons", Type: fn(set, n, v(1), k(vec, v(2), v(1)), k(vec, v(3), k(suc, v(2)))), Of: vec, Place: 1, Pars: 1},
		{Kind: api.EData, Name: "W", Type: fn(set, family, set), Pars: 2, Cons: []int{sup}},
		{Kind: api.ECon, Name: "sup", Type: fn(set, family, v(1), fn(app(v(1), v(0)), w(2)), w(2)), Of: tree, Pars: 2},
		{Kind: api.EData, Name: "Sigma", Type: fn(set, family, set), Pars: 2, Cons: []int{pairing}, Fields: []int{fst, snd}},
		{Kind: api.ECon, Name: "pair", Type: fn(set, family, v(1), app(v(1), v(0)), s(2)), Of: sigma, Pars: 2},
		{Kind: api.EProj, Name: "fst", Type: fn(set, family, s(0), v(2)), Of: sigma, Pars: 2},
		{Kind: api.EProj, Name: "snd", Type: fn(set, family, s(0), app(v(1), k(fst, v(2), v(1), v(0)))), Of: sigma, Place: 1, Pars: 2},
		{Kind: api.EData, Name: "Prod", Type: fn(set, set, set), Pars: 2, Cons: []int{both}, Fields: []int{left, right}},
		{Kind: api.ECon, Name: "both", Type: fn(set, set, v(1), v(1), p(2)), Of: prod, Pars: 2},
		{Kind: api.EProj, Name: "left", Type: fn(set, set, p(0), v(2)), Of: prod, Pars: 2},
		{Kind: api.EProj, Name: "right", Type: fn(set, set, p(0), v(1)), Of: prod, Place: 1, Pars: 2},
		{Kind: api.EData, Name: "Unit", Type: set, Cons: []int{box}, Fields: []int{open}},
		{Kind: api.ECon, Name: "box", Type: fn(n, k(unit)), Of: unit},
		{Kind: api.EProj, Name: "open", Type: fn(k(unit), n), Of: unit},
		{Kind: api.EData, Name: "Only", Type: fn(set, set), Pars: 1, Cons: []int{star}},
		{Kind: api.ECon, Name: "star", Type: fn(set, k(only, v(0))), Of: only, Pars: 1},
		{Kind: api.EData, Name: "Wrap", Type: fn(set, set), Pars: 1, Cons: []int{bare, more}},
		{Kind: api.ECon, Name: "bare", Type: fn(set, k(wrap, v(0))), Of: wrap, Pars: 1},
		{Kind: api.ECon, Name: "more", Type: fn(set, k(wrap, v(0)), k(wrap, v(1))), Of: wrap, Place: 1, Pars: 1},
		def("one", n, k(suc, k(zero))),
		def("two", n, k(suc, k(one))),
		def("plus", fn(n, n, n), lam(n, n, add(v(1), v(0)))),
		def("times", fn(n, n, n), lam(n, n, elim(nat, 0, lam(n, n), k(zero), lam(n, n, k(plus, v(2), v(0))), v(1)))),
		def("id", fn(set, v(0), v(1)), lam(set, v(0), v(0))),
		def("couple", fn(n, k(sigma, n, lam(n, n))), lam(n, k(pairing, n, lam(n, n), v(0), k(suc, v(0))))),
		def("again", set, lam(set, app(v(0), v(0)))), // no such type is asked here
		def("arrow", term.Sort(1), fn(set, set)),
		def("upper", term.Sort(2), term.Sort(1)),
	}
}

// wide is world with definitions that are great, and tall.
func wide() []api.Entry {
	return append(world(), api.Entry{Kind: api.EDef, Name: "great", Type: set, Body: bush(nodes, k(zero))}, api.Entry{Kind: api.EDef, Name: "tall", Type: set, Body: deep(levels, k(zero))})
}

// number is the numeral n.
func number(n int) api.Term {
	t := k(zero)
	for range n {
		t = k(suc, t)
	}
	return t
}

// add is the eliminator that plus unfolds to: b with as many sucs around it as a has.
func add(a, b api.Term) api.Term {
	return elim(nat, 0, lam(k(nat), k(nat)), b, lam(k(nat), k(nat), k(suc, v(0))), a)
}

// machineOf is that of a signature.
func machineOf(t *testing.T, l []api.Entry) *whnf.Machine {
	t.Helper()
	m, e := whnf.New(l)
	if e != api.OK {
		t.Fatal(e)
	}
	return m
}

// theWorld is world, and theMachine its machine, made once for all tests that change nothing.
var (
	theWorld   = sync.OnceValue(world)
	theMachine = sync.OnceValues(func() (*whnf.Machine, api.Errno) { return whnf.New(theWorld()) })
)

// machine is that of world.
func machine(t *testing.T) *whnf.Machine {
	t.Helper()
	m, e := theMachine()
	if e != api.OK {
		t.Fatal(e)
	}
	return m
}

// fuel is a meter with so many steps; a nil one, if there are fewer than none.
func fuel(n int) *meter.Meter {
	m, _ := meter.New(n)
	return m
}

// call is Same, or Most.
type call func(m *whnf.Machine, a, b api.Term, f *meter.Meter) (bool, api.Errno)

// answers asks a call with so much fuel, and a nil meter, if that is none: its answer, and how many steps it must take.
func answers(t *testing.T, of call, m *whnf.Machine, what string, a, b api.Term, n int, want bool, no api.Errno, taken int) {
	t.Helper()
	meters := []*meter.Meter{fuel(n)}
	if n == 0 {
		meters = append(meters, nil)
	}
	for _, f := range meters {
		is, e := of(m, a, b, f)
		if is != want || e != no {
			t.Errorf("%s, of %d: %v, %v, not %v, %v", what, n, is, e, want, no)
		}
		if f.Used() != taken || f != nil && f.Left() != n-taken {
			t.Errorf("%s, of %d: %d taken, %d left, not %d", what, n, f.Used(), f.Left(), taken)
		}
	}
}

// answersOf asks the call in a signature likewise.
func answersOf(t *testing.T, l []api.Entry, what string, a, b api.Term, n int, want bool, no api.Errno, taken int) {
	t.Helper()
	if no != api.OK {
		taken = 0
	}
	is, steps, e := Of(l, a, b, n)
	if is != want || e != no || steps != taken {
		t.Errorf("%s, in a signature, of %d: %v, %v, %d steps, not %v, %v, %d", what, n, is, e, steps, want, no, taken)
	}
}

// enough asks a call with just as much fuel as it needs and with more, and with each that is less; and the call in a signature, if that is as well.
func enough(t *testing.T, of call, too bool, what string, a, b api.Term, want bool, steps int) {
	t.Helper()
	m, l := machine(t), theWorld()
	for _, n := range []int{steps, steps + 1, steps + 7, api.MaxFuel} {
		answers(t, of, m, what, a, b, n, want, api.OK, steps)
		if too {
			answersOf(t, l, what, a, b, n, want, api.OK, steps)
		}
	}
	for n := range steps {
		answers(t, of, m, what, a, b, n, false, api.ErrFuel, n)
		if too {
			answersOf(t, l, what, a, b, n, false, api.ErrFuel, n)
		}
	}
}

// are asks that two terms are one, after so many steps: both ways round, and that each is at most the other.
func are(t *testing.T, what string, a, b api.Term, steps int) { // P16.1, P16.3, P16.4
	t.Helper()
	enough(t, Same, true, what, a, b, true, steps)
	enough(t, Same, true, what+", the other way round", b, a, true, steps)
	enough(t, Most, false, what+", at most", a, b, true, steps)
	enough(t, Most, false, what+", at most, the other way round", b, a, true, steps)
}

// below asks that a term is at most another one, after so many steps, but not one with it, which is clear after so many others; and not the other way round.
func below(t *testing.T, what string, a, b api.Term, steps, clear int) { // P16.1, P16.3
	t.Helper()
	enough(t, Most, false, what+", at most", a, b, true, steps)
	enough(t, Same, true, what, a, b, false, clear)
	enough(t, Same, true, what+", the other way round", b, a, false, clear)
	enough(t, Most, false, what+", at most, the other way round", b, a, false, clear)
}

// apart asks that two terms are not one, which is clear after so many steps, and neither is at most the other.
func apart(t *testing.T, what string, a, b api.Term, steps int) { // P16.1, P16.3
	t.Helper()
	enough(t, Same, true, what, a, b, false, steps)
	enough(t, Same, true, what+", the other way round", b, a, false, steps)
	enough(t, Most, false, what+", at most", a, b, false, steps)
	enough(t, Most, false, what+", at most, the other way round", b, a, false, steps)
}

func TestWorld(t *testing.T) {
	if !sign.Formed(world()) || len(world()) != end || !sign.Formed(wide()) || len(wide()) != end+2 {
		t.Error("the world is not formed")
	}
	if term.Size(bush(nodes, x(0))) != nodes || term.Depth(deep(levels, x(0))) != levels {
		t.Error("another size, or depth")
	}
}

// TestExample is the chapter's.
func TestExample(t *testing.T) { // P16.1
	are(t, "suc", lam(k(nat), k(suc, v(0))), k(suc), 0)
	below(t, "universes", term.Sort(0), term.Sort(1), 0, 0)
	below(t, "functions to them", fn(k(nat), term.Sort(0)), fn(k(nat), term.Sort(1)), 0, 0)
	is, steps, e := Of(world(), lam(k(nat), k(suc, v(0))), k(suc), 0)
	if !is || steps != 0 || e != api.OK {
		t.Errorf("%v, %d, %v", is, steps, e)
	}
}

// TestAtOnce asks terms without steps.
func TestAtOnce(t *testing.T) { // P16.1, P16.2
	all := terms(
		v(0), v(1), v(api.MaxFree-2), x(0), x(1), x(api.MaxFree), k(nat), k(zero), k(suc), k(vec), k(fst), k(star),
		term.Elim(nat, 0), term.Elim(nat, 1), term.Elim(vec, 0), term.Elim(zero, 0), set, fn(set, set), fn(set, v(0)), fn(k(nat), set), fn(set, fn(set, set)),
		number(1), number(2), k(suc, v(0)), k(suc, x(0)), app(v(0), v(1)), app(v(1), v(0)), app(v(0), v(1), v(2)), app(x(0), v(1)), app(x(0), x(1)), app(set, v(0)), app(fn(set, set), v(0)),
		k(vec, set), k(vec, set, k(zero)), k(vec, k(nat), k(zero)), k(vnil, set), k(vnil, k(nat)), k(star, set), k(star, k(nat)),
		elim(nat, 0, x(1), x(2), x(3), x(4)), elim(nat, 1, x(1), x(2), x(3), x(4)), elim(nat, 0, x(1), x(2), x(3), x(5)), elim(nat, 0, x(1), x(2), x(3)),
		k(fst, x(1), x(2), x(3)), k(snd, x(1), x(2), x(3)), k(fst, x(1), x(2), x(4)), k(fst, x(1), x(2)), k(left, x(1), x(2), x(3)), k(open, x(3)),
		lam(set, v(0)), lam(set, v(1)), lam(set, x(0)), lam(set, k(zero)), lam(set, set), lam(set, lam(set, v(0))), lam(set, lam(set, v(1))), lam(set, fn(set, v(1))),
		k(pairing, x(1), x(2), x(3), x(4)), k(pairing, x(1), x(2), x(4), x(3)), k(pairing, x(1), x(2), x(3)), k(pairing, x(1), x(2), x(3), x(4), x(5)), k(both, x(1), x(2), x(3), x(4)), k(both, x(1), x(2), x(4), x(4)), k(box, x(3)), k(box, x(4)),
	)
	m := machine(t)
	for i, a := range all {
		are(t, told(a), a, a, 0)
		apart(t, told(a), a, k(both, x(7), x(7), a, x(7)), 0)
		for j, b := range all {
			what := told(a) + " and " + told(b)
			answers(t, Same, m, what, a, b, 0, i == j, api.OK, 0)
			answers(t, Most, m, what+", at most", a, b, 0, i == j, api.OK, 0)
		}
	}
}

// TestSteps asks terms that come to the same by steps, on one side, on the other, on both.
func TestSteps(t *testing.T) { // P16.1, P16.2
	beta := func(a api.Term) api.Term { return app(lam(set, v(0)), a) }
	for what, around := range map[string]func(a, b api.Term) api.Term{
		"a constructor":           func(a, b api.Term) api.Term { return k(vcons, a, x(1), b, x(2)) },
		"a pair":                  func(a, b api.Term) api.Term { return k(pairing, x(1), x(2), a, b) },
		"a pair of much":          func(a, b api.Term) api.Term { return k(pairing, x(1), a, x(2), x(3), b) },
		"a pair of little":        func(a, b api.Term) api.Term { return k(pairing, x(1), a, b) },
		"a family":                func(a, b api.Term) api.Term { return k(sigma, a, b) },
		"what is no record's":     func(a, b api.Term) api.Term { return k(sup, a, x(1), x(2), b) },
		"a variable":              func(a, b api.Term) api.Term { return app(v(1), a, b) },
		"a named variable":        func(a, b api.Term) api.Term { return app(x(1), a, b) },
		"a universe":              func(a, b api.Term) api.Term { return app(set, a, b) },
		"a type's Subs":           func(a, b api.Term) api.Term { return app(fn(a, b), x(1)) },
		"a type's arguments":      func(a, b api.Term) api.Term { return app(fn(set, set), a, b) },
		"a type's both":           func(a, b api.Term) api.Term { return app(fn(set, a), b) },
		"an eliminator":           func(a, b api.Term) api.Term { return elim(nat, 0, a, x(2), b, x(3)) },
		"an eliminator of little": func(a, b api.Term) api.Term { return elim(nat, 0, a, b) },
		"an eliminator of none":   func(a, b api.Term) api.Term { return elim(one, 0, a, b) },
		"a field":                 func(a, b api.Term) api.Term { return k(fst, a, b, x(3)) },
		"a field of little":       func(a, b api.Term) api.Term { return k(snd, a, b) },
		"a function":              func(a, b api.Term) api.Term { return lam(x(1), app(x(2), a, b)) },
		"a type of functions":     func(a, b api.Term) api.Term { return fn(a, b) },
		"one within another":      func(a, b api.Term) api.Term { return k(suc, app(x(1), app(x(2), a), b)) },
	} {
		are(t, what, around(x(1), v(2)), around(x(1), v(2)), 0)
		are(t, what+", the first", around(k(one), v(2)), around(number(1), v(2)), 1)
		are(t, what+", the second", around(x(1), k(two)), around(x(1), number(2)), 2)
		are(t, what+", both", around(k(one), k(two)), around(number(1), number(2)), 3)
		are(t, what+", across", around(k(one), number(2)), around(number(1), k(two)), 3)
		are(t, what+", on both sides", around(k(two), beta(x(5))), around(k(two), beta(x(5))), 6)
		apart(t, what+", not the first", around(k(one), k(two)), around(number(2), k(two)), 1)
		apart(t, what+", not the second", around(k(one), k(two)), around(k(one), number(3)), 2+2)
		apart(t, what+", not within the second", around(k(one), beta(app(x(1), k(two)))), around(k(one), app(x(1), k(one))), 2+1+3)
	}
	are(t, "plus one one", k(plus, k(one), k(one)), number(2), 9)
	are(t, "plus, both", k(plus, k(one), k(one)), k(plus, k(two), k(zero)), 9+12)
	are(t, "times", k(times, number(2), number(2)), number(4), 30)
	are(t, "at the head alone", beta(beta(beta(x(1)))), beta(x(1)), 4)
	are(t, "what is dropped", app(lam(set, x(1)), round()), x(1), 1)
	apart(t, "not behind steps", k(plus, k(one), k(one)), number(3), 9)
	apart(t, "not at the head", k(plus, k(one), x(1)), k(zero), 7)
}

// TestFunctions asks functions against functions, and against what they are not.
func TestFunctions(t *testing.T) { // P16.1, P16.5
	eta := func(f api.Term) api.Term { return lam(set, app(f, v(0))) }
	are(t, "of other types", lam(k(nat), k(suc, v(0))), lam(k(unit), k(suc, v(0))), 0)
	are(t, "of types that go on for ever", lam(round(), v(0)), lam(set, v(0)), 0)
	are(t, "of great types", lam(doubles(), v(0)), lam(app(doubles(), set), v(0)), 0)
	are(t, "of several", lam(set, k(nat), v(1)), lam(k(nat), set, v(1)), 0)
	are(t, "steps beneath", lam(set, k(id, set, v(0))), lam(set, v(0)), 3)
	are(t, "a variable", eta(v(4)), v(3), 0)
	are(t, "the innermost variable", eta(v(1)), v(0), 0)
	are(t, "a named variable", eta(x(3)), x(3), 0)
	are(t, "a constant", eta(k(vec)), k(vec), 0)
	are(t, "a field", eta(k(open)), k(open), 0)
	are(t, "a field with parameters", eta(k(fst, v(1), x(2))), k(fst, v(0), x(2)), 0)
	are(t, "an eliminator", eta(elim(nat, 3, v(1))), elim(nat, 3, v(0)), 0)
	are(t, "an eliminator without its target", eta(elim(nat, 0, x(1), x(2), v(1))), elim(nat, 0, x(1), x(2), v(0)), 0)
	are(t, "an application", eta(app(v(1), v(3))), app(v(0), v(2)), 0)
	are(t, "a pair of little", eta(k(pairing, x(1), x(2), v(1))), k(pairing, x(1), x(2), v(0)), 0)
	are(t, "a universe", eta(set), set, 0)
	are(t, "a type of functions", eta(fn(v(1), v(2))), fn(v(0), v(1)), 0)
	are(t, "twice", lam(set, set, app(v(3), v(1), v(0))), v(1), 0)
	are(t, "twice, one of them there", lam(set, eta(app(v(3), v(1)))), lam(set, app(v(2), v(0))), 0)
	are(t, "within an argument", app(x(1), eta(v(2))), app(x(1), v(1)), 0)
	are(t, "in the argument itself", lam(set, app(v(1), eta(v(1)))), v(0), 0)
	are(t, "within a function", lam(set, app(v(1), lam(set, app(v(1), v(0))))), lam(set, app(v(1), v(0))), 0)
	are(t, "a definition", eta(k(plus)), k(plus), 2+1)
	are(t, "a definition of two", lam(set, set, k(plus, v(1), v(0))), k(plus), 3+1)
	are(t, "what comes to a function", eta(k(id, set, v(1))), k(id, set, v(0)), 3+3)
	are(t, "what only comes to a variable", eta(v(2)), k(id, set, v(1)), 3)
	are(t, "what a constant's steps come to", lam(set, k(suc, k(suc, v(0)))), k(plus, number(2)), 2+7)
	apart(t, "other bodies", lam(set, v(0)), lam(set, v(1)), 0)
	apart(t, "of less", lam(set, set, v(0)), lam(set, v(0)), 0)
	apart(t, "not that variable", eta(v(0)), v(0), 0)
	apart(t, "not lifted", eta(v(3)), v(3), 0)
	apart(t, "not that one", eta(v(1)), v(1), 0)
	apart(t, "applied to another one", lam(set, app(v(1), v(1))), v(0), 0)
	apart(t, "applied twice", lam(set, app(v(1), v(0), v(0))), v(0), 0)
	apart(t, "a function of none", lam(set, v(1)), v(0), 0)
	apart(t, "a value", lam(set, k(zero)), k(zero), 0)
	apart(t, "a pair", lam(set, k(pairing, x(1), x(2), x(3), x(4))), k(pairing, x(1), x(2), x(3), x(4)), 0)
	apart(t, "behind steps", lam(set, k(id, set, v(1))), k(id, set, k(zero)), 3+3)
}

// TestRecords asks constructors of records.
func TestRecords(t *testing.T) { // P16.1, P16.5
	p := func(a, b api.Term) api.Term { return k(pairing, x(1), x(2), a, b) }
	first := func(t api.Term) api.Term { return k(fst, x(1), x(2), t) }
	second := func(t api.Term) api.Term { return k(snd, x(1), x(2), t) }
	couple := k(couple, x(3))
	are(t, "with other parameters", k(pairing, x(1), x(2), x(3), x(4)), k(pairing, set, k(nat), x(3), x(4)), 0)
	are(t, "with parameters that go on for ever", k(pairing, round(), doubles(), x(3), x(4)), k(pairing, set, round(), x(3), x(4)), 0)
	are(t, "steps within", p(k(one), x(4)), p(number(1), k(id, set, x(4))), 1+3)
	are(t, "the fields of a variable", p(first(v(0)), second(v(0))), v(0), 0)
	are(t, "the fields of a named variable", p(first(x(3)), second(x(3))), x(3), 0)
	are(t, "the fields of an application", p(first(app(v(2), x(3))), second(app(v(2), x(3)))), app(v(2), x(3)), 0)
	are(t, "the fields of a constant", p(first(k(nat)), second(k(nat))), k(nat), 0)
	are(t, "the fields of a field", p(first(first(x(3))), second(first(x(3)))), first(x(3)), 0)
	are(t, "the fields of a universe", p(first(set), second(set)), set, 0)
	are(t, "the fields of a type of functions", p(first(fn(set, v(0))), second(fn(set, v(0)))), fn(set, v(0)), 0)
	are(t, "the fields of another one's constructor", p(first(number(2)), second(number(2))), number(2), 0)
	are(t, "the fields of what is no record's", p(first(k(sup, x(1), x(2), x(3), x(4))), second(k(sup, x(1), x(2), x(3), x(4)))), k(sup, x(1), x(2), x(3), x(4)), 0)
	are(t, "the fields of a record's of little", p(first(k(both, x(1), x(2), x(3))), second(k(both, x(1), x(2), x(3)))), k(both, x(1), x(2), x(3)), 0)
	are(t, "the fields of a record's of much", p(first(k(box, x(1), x(2))), second(k(box, x(1), x(2)))), k(box, x(1), x(2)), 0)
	are(t, "one field", k(box, k(open, x(3))), x(3), 0)
	are(t, "a record within", p(first(x(3)), k(box, k(open, second(x(3))))), x(3), 0)
	are(t, "a record within, by fields", p(p(first(first(x(3))), second(first(x(3)))), second(x(3))), x(3), 0)
	are(t, "a function within", p(lam(set, app(first(x(3)), v(0))), second(x(3))), x(3), 0)
	are(t, "within a function", lam(set, p(first(app(v(1), v(0))), second(app(v(1), v(0))))), v(0), 0)
	are(t, "within arguments", app(x(5), p(first(x(3)), second(x(3)))), app(x(5), x(3)), 0)
	are(t, "steps to a pair", couple, p(x(3), k(suc, x(3))), 2)
	are(t, "steps to a pair's fields", p(first(couple), second(couple)), couple, 3+3+2)
	are(t, "fields of a pair", p(first(p(x(3), x(4))), x(4)), p(x(3), second(p(x(3), x(4)))), 2)
	apart(t, "another first one", p(x(3), x(4)), p(x(5), x(4)), 0)
	apart(t, "another second one", p(k(one), x(4)), p(k(one), x(5)), 2)
	apart(t, "not what the fields say", p(second(x(3)), first(x(3))), x(3), 0)
	apart(t, "not the second one", p(first(x(3)), first(x(3))), x(3), 0)
	apart(t, "fields of another one", p(first(x(3)), second(x(4))), x(3), 0)
	apart(t, "fields with other parameters", k(pairing, x(2), x(1), first(x(3)), second(x(3))), x(3), 0)
	apart(t, "another record's fields", p(k(left, x(1), x(2), x(3)), k(right, x(1), x(2), x(3))), x(3), 0)
	apart(t, "two records", p(x(3), x(4)), k(both, x(1), x(2), x(3), x(4)), 0)
	apart(t, "two records, by fields", p(k(left, x(1), x(2), k(both, x(1), x(2), x(3), x(4))), x(4)), k(both, x(1), x(2), x(3), x(4)), 0)
	apart(t, "two records, of other numbers", p(x(3), x(4)), k(box, x(3)), 0)
	apart(t, "two records, whatever is in them", p(round(), doubles()), k(both, x(1), x(2), round(), doubles()), 0)
	apart(t, "two records, by steps", couple, k(both, x(1), x(2), x(3), x(4)), 2)
}

// TestNoRecords asks constructors that are no records', or have not all their arguments: so their parameters are asked, and they are one with nothing else.
func TestNoRecords(t *testing.T) { // P16.1
	apart(t, "no fields", k(star, set), x(3), 0)
	apart(t, "no fields, other parameters", k(star, x(1)), k(star, x(2)), 0)
	are(t, "no fields, parameters by steps", k(star, k(one)), k(star, number(1)), 1)
	apart(t, "no record's, other parameters", k(sup, set, x(2), x(3), x(4)), k(sup, k(nat), x(2), x(3), x(4)), 0)
	apart(t, "no record's, other arguments", k(sup, set, x(2), k(one), x(4)), k(sup, set, x(2), k(two), x(4)), 3)
	apart(t, "no record's, something", k(sup, set, x(2), x(3), x(4)), x(5), 0)
	apart(t, "too few, other parameters", k(pairing, x(1), x(2), x(3)), k(pairing, x(1), x(4), x(3)), 0)
	apart(t, "too many, other parameters", k(pairing, x(1), x(2), x(3), x(4), x(5)), k(pairing, x(1), x(3), x(3), x(4), x(5)), 0)
	apart(t, "too few, something", k(box), x(3), 0)
	apart(t, "too many, something", k(box, x(1), x(2)), app(x(3), x(2)), 0)
	apart(t, "too few and all", k(pairing, x(1), x(2), x(3)), k(pairing, x(1), x(2), x(3), x(4)), 0)
	apart(t, "too many and all", k(pairing, x(1), x(2), x(3), x(4), x(5)), k(pairing, x(1), x(2), x(3), x(4)), 0)
	apart(t, "two families of one shape", k(vnil, set), k(bare, set), 0)
	apart(t, "two constructors", k(bare, set), k(more, set, k(bare, set)), 0)
}

// TestBehind asks constructors of the first family there is, with each kind of entry behind them: only fields make it a record.
func TestBehind(t *testing.T) { // P16.1
	entry := func(e api.Entry) []api.Entry { return []api.Entry{e} }
	set1 := term.Sort(1)
	for what, each := range map[string]struct {
		behind []api.Entry
		fields []int
	}{
		"nothing":                      {},
		"a definition":                 {behind: entry(api.Entry{Kind: api.EDef, Name: "d", Type: set1, Body: set})},
		"a function":                   {behind: entry(api.Entry{Kind: api.EDef, Name: "d", Type: set1, Body: lam(set, set, v(0))})},
		"a definition that goes on":    {behind: entry(api.Entry{Kind: api.EDef, Name: "d", Type: set1, Body: app(lam(set, app(v(0), v(0))), lam(set, app(v(0), v(0))))})},
		"a family":                     {behind: entry(api.Entry{Kind: api.EData, Name: "E", Type: set})},
		"a family of the same":         {behind: entry(api.Entry{Kind: api.EData, Name: "E", Type: fn(k(0, set), set), Inds: 1})},
		"a field, and another family":  {behind: []api.Entry{{Kind: api.EProj, Name: "p", Type: fn(set, k(0, v(0)), set), Pars: 1}, {Kind: api.EData, Name: "E", Type: set}}, fields: []int{2}},
		"a field, and nothing":         {behind: entry(api.Entry{Kind: api.EProj, Name: "p", Type: fn(set, k(0, v(0)), set), Pars: 1}), fields: []int{2}},
		"a field, and such a function": {behind: []api.Entry{{Kind: api.EProj, Name: "p", Type: fn(set, k(0, v(0)), set), Pars: 1}, {Kind: api.EDef, Name: "d", Type: set1, Body: lam(set, set, v(0))}}, fields: []int{2}},
	} {
		l := append([]api.Entry{
			{Kind: api.EData, Name: "D", Type: fn(set, set), Pars: 1, Cons: []int{1}, Fields: each.fields},
			{Kind: api.ECon, Name: "c", Type: fn(set, set, k(0, v(1))), Pars: 1},
		}, each.behind...)
		m, record := machineOf(t, l), each.fields != nil
		for _, ab := range [][2]api.Term{{k(1, x(1), x(2)), k(1, x(3), x(2))}, {k(1, x(1), k(min(2, len(l)-1), x(1), x(5))), x(5)}} {
			for n := range 3 {
				one, most := holds(t, l, m, what, ab[0], ab[1], n)
				two, least := holds(t, l, m, what+", the other way round", ab[1], ab[0], n)
				if one != (answer{record, api.OK, n}) || most != one || two != one || least != one {
					t.Errorf("%s, %d: %v, %v, %v, %v", what, n, one, most, two, least)
				}
			}
		}
	}
}

// TestTypes asks types of functions, universes, and what is at most what.
func TestTypes(t *testing.T) { // P16.1, P16.4
	s := term.Sort
	are(t, "a type", fn(k(one), v(0)), fn(number(1), k(id, set, v(0))), 1+3)
	apart(t, "another first one", fn(k(one), v(0)), fn(number(2), v(0)), 1)
	apart(t, "another second one", fn(k(one), v(0)), fn(k(one), v(1)), 2)
	apart(t, "a type and a universe", fn(set, set), set, 0)
	apart(t, "a type and a function's", fn(set, set), lam(set, set), 0)
	for n := range api.MaxLevel + 1 {
		are(t, "a universe", s(n), s(n), 0)
		for m := n + 1; m <= api.MaxLevel; m++ {
			below(t, "universes", s(n), s(m), 0, 0)
		}
	}
	below(t, "by steps", k(id, s(1), set), k(upper), 3+1, 3+1)
	below(t, "a second place", fn(x(1), s(3)), fn(x(1), s(4)), 0, 0)
	below(t, "a second place, by steps", fn(k(one), set), fn(number(1), k(upper)), 1+1, 1+1)
	below(t, "a second place's second place", fn(x(1), x(2), s(3)), fn(x(1), x(2), s(4)), 0, 0)
	below(t, "steps to a type", k(arrow), fn(set, s(7)), 1, 1)
	below(t, "steps ahead and behind", fn(k(two), k(one), k(upper)), fn(k(two), number(1), s(2)), 4+1+1, 4+1+1)
	apart(t, "a first place", fn(s(1), set), fn(s(2), set), 0)
	apart(t, "a second place's first place", fn(x(1), s(3), set), fn(x(1), s(4), set), 0)
	apart(t, "a first place's second place", fn(fn(x(1), s(1)), set), fn(fn(x(1), s(2)), set), 0)
	apart(t, "an argument", app(x(1), s(1)), app(x(1), s(2)), 0)
	apart(t, "an argument's second place", k(suc, fn(x(1), s(1))), k(suc, fn(x(1), s(2))), 0)
	apart(t, "a second place's argument", fn(x(1), app(x(1), s(1))), fn(x(1), app(x(1), s(2))), 0)
	apart(t, "a function's body", lam(set, s(1)), lam(set, s(2)), 0)
	apart(t, "a function's body's second place", lam(set, fn(x(1), s(1))), lam(set, fn(x(1), s(2))), 0)
	apart(t, "a second place's function", fn(x(1), lam(set, s(1))), fn(x(1), lam(set, s(2))), 0)
	apart(t, "a pair's field", k(pairing, x(1), x(2), s(1), x(3)), k(pairing, x(1), x(2), s(2), x(3)), 0)
	apart(t, "a record's field", k(box, s(1)), k(box, s(2)), 0)
	apart(t, "what a function is", lam(set, app(s(1), v(0))), s(2), 0)
	apart(t, "a universe that is applied", app(s(1), x(1)), app(s(2), x(1)), 0)
	apart(t, "a type that is applied, its second place", app(fn(x(1), s(1)), x(1)), app(fn(x(1), s(2)), x(1)), 0)
	apart(t, "a type that is applied, its first place", app(fn(s(1), x(1)), x(1)), app(fn(s(2), x(1)), x(1)), 0)
	apart(t, "eliminators into two universes", term.Elim(nat, 1), term.Elim(nat, 2), 0)
	apart(t, "applied ones, too", elim(nat, 1, x(1), x(2), x(3), x(4)), elim(nat, 2, x(1), x(2), x(3), x(4)), 0)
	apart(t, "a universe and something", s(1), x(1), 0)
}

// TestHeads asks applications by their heads and arguments.
func TestHeads(t *testing.T) { // P16.1
	apart(t, "other kinds of one number", app(v(1), x(2)), app(x(1), x(2)), 0)
	apart(t, "kinds of one number, a constant", app(x(suc), x(2)), k(suc, x(2)), 0)
	apart(t, "kinds of one number, a universe", app(v(0), x(2)), app(set, x(2)), 0)
	apart(t, "kinds of one number, a type", app(fn(set, set), x(2)), app(set, x(2)), 0)
	apart(t, "kinds of one number, an eliminator", elim(suc, 0, x(2)), k(suc, x(2)), 0)
	apart(t, "other numbers", app(x(1), x(2)), app(x(3), x(2)), 0)
	apart(t, "other families", elim(nat, 0, x(2)), elim(vec, 0, x(2)), 0)
	apart(t, "fewer arguments", app(x(1), x(2)), app(x(1), x(2), x(3)), 0)
	apart(t, "fewer arguments, whatever they are", app(x(1), round()), app(x(1), round(), round()), 0)
	apart(t, "fewer arguments of a type, whatever it is", app(fn(round(), round()), round()), app(fn(round(), round()), round(), round()), 0)
	apart(t, "other heads, whatever their arguments", app(x(1), round()), app(x(2), round()), 0)
	apart(t, "a type's first, ahead of all", app(fn(x(1), round()), round()), app(fn(x(2), round()), round()), 0)
	apart(t, "a type's second, ahead of arguments", app(fn(k(one), x(1)), round()), app(fn(k(one), x(2)), round()), 2)
	apart(t, "an argument, behind a type", app(fn(k(one), k(one)), k(one)), app(fn(k(one), k(one)), k(two)), 4+3)
	apart(t, "the first argument, ahead of all", app(x(1), x(2), round()), app(x(1), x(3), round()), 0)
	apart(t, "the second argument", app(x(1), k(one), x(2), round()), app(x(1), k(one), x(3), round()), 2)
	apart(t, "within the first one", app(x(1), k(suc, k(two)), round()), app(x(1), k(suc, k(one)), round()), 1+2)
}

// TestForms asks that terms are one with themselves, their weak head forms and their normal forms, at the cost of the steps to these.
func TestForms(t *testing.T) { // P16.2
	m := machine(t)
	for _, a := range terms(
		k(two), k(plus, k(one), k(two)), k(times, k(two), k(two)), lam(k(nat), k(plus, k(one), v(0))), fn(k(one), k(two)), k(couple, k(one)), app(x(1), k(plus, k(one), k(one)), k(upper)),
		k(snd, x(1), x(2), k(couple, k(one))), elim(nat, 0, x(1), k(one), x(2), k(plus, x(3), k(two))), app(fn(k(one), k(two)), k(arrow)), k(pairing, k(one), k(two), k(one), k(upper)),
	) {
		f, g := fuel(1000), fuel(1000)
		w, e := m.Bring(a, f)
		n, no := norm.Norm(m, a, g)
		if e != api.OK || no != api.OK {
			t.Fatal(told(a), e, no)
		}
		for _, b := range terms(a, w, n) {
			for _, of := range []call{Same, Most} {
				for _, ab := range [][]api.Term{{a, b}, {b, a}} {
					if is, e := of(m, ab[0], ab[1], fuel(1000)); !is || e != api.OK {
						t.Errorf("%s, %s: %v, %v", told(ab[0]), told(ab[1]), is, e)
					}
				}
			}
		}
	}
}
