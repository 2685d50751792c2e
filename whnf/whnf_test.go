package whnf

import (
	"slices"
	"strconv"
	"strings"
	"testing"

	"scholium/api"
	"scholium/meter"
	"scholium/sign"
	"scholium/term"
)

// set is the least universe.
var set = term.Sort(0)

// v is the variable n.
func v(n int) api.Term { return term.Var(n) }

// x is the named variable n.
func x(n int) api.Term { return term.Free(n) }

// k is entry n, applied to some.
func k(n int, l ...api.Term) api.Term { return term.Apply(term.Const(n), l...) }

// elim is the eliminator of entry n into a universe, applied to some.
func elim(n, level int, l ...api.Term) api.Term { return term.Apply(term.Elim(n, level), l...) }

// app is a term, applied to some.
func app(f api.Term, l ...api.Term) api.Term { return term.Apply(f, l...) }

// fn is the type of functions of all of a list but the last, to the last.
func fn(l ...api.Term) api.Term {
	t := l[len(l)-1]
	for i := len(l) - 2; i >= 0; i-- {
		t = term.Pi(l[i], t)
	}
	return t
}

// lam is the function of all of a list but the last, to the last.
func lam(l ...api.Term) api.Term {
	t := l[len(l)-1]
	for i := len(l) - 2; i >= 0; i-- {
		t = term.Lam(l[i], t)
	}
	return t
}

// terms are a list of some.
func terms(l ...api.Term) []api.Term { return l }

// told writes a term, if it is not too great to be read.
func told(t api.Term) string {
	if term.Size(t) > 100 {
		return "a term of size " + strconv.Itoa(term.Size(t))
	}
	words := []string{strconv.Itoa(t.Kind), strconv.Itoa(t.N)}
	for _, s := range t.Sub {
		words = append(words, told(s))
	}
	return "(" + strings.Join(words, " ") + ")"
}

// def is a definition.
func def(name string, t, body api.Term) api.Entry {
	return api.Entry{Kind: api.EDef, Name: name, Type: t, Body: body}
}

// The places of world's entries.
const (
	nat, zero, suc   = 0, 1, 2
	vec, vnil, vcons = 3, 4, 5
	tree, sup        = 6, 7
	sigma, pair      = 8, 9
	fst, snd         = 10, 11
	unit, box, open  = 12, 13, 14 // a record without parameters
	empty            = 15
	one, two         = 16, 17
	plus, times, ack = 18, 19, 20
	id               = 21
	couple           = 22 // what only comes to a pair by steps
	again            = 23 // what goes on for ever, applied to itself
	end              = 24 // no entry's
)

// world is a signature with all that a step may meet.
func world() []api.Entry {
	n, family := k(nat), fn(v(0), set)
	w := func(below int) api.Term { return k(tree, v(below+1), v(below)) }
	s := func(below int) api.Term { return k(sigma, v(below+1), v(below)) }
	return []api.Entry{
		{Kind: api.EData, Name: "Nat", Type: set, Cons: []int{zero, suc}},
		{Kind: api.ECon, Name: "zero", Type: n, Of: nat},
		{Kind: api.ECon, Name: "suc", Type: fn(n, n), Of: nat, Place: 1},
		{Kind: api.EData, Name: "Vec", Type: fn(set, n, set), Pars: 1, Inds: 1, Cons: []int{vnil, vcons}},
		{Kind: api.ECon, Name: "vnil", Type: fn(set, k(vec, v(0), k(zero))), Of: vec, Pars: 1},
		{Kind: api.ECon, Name: "vcons", Type: fn(set, n, v(1), k(vec, v(2), v(1)), k(vec, v(3), k(suc, v(2)))), Of: vec, Place: 1, Pars: 1},
		{Kind: api.EData, Name: "W", Type: fn(set, family, set), Pars: 2, Cons: []int{sup}},
		{Kind: api.ECon, Name: "sup", Type: fn(set, family, v(1), fn(app(v(1), v(0)), w(2)), w(2)), Of: tree, Pars: 2},
		{Kind: api.EData, Name: "Sigma", Type: fn(set, family, set), Pars: 2, Cons: []int{pair}, Fields: []int{fst, snd}},
		{Kind: api.ECon, Name: "pair", Type: fn(set, family, v(1), app(v(1), v(0)), s(2)), Of: sigma, Pars: 2},
		{Kind: api.EProj, Name: "fst", Type: fn(set, family, s(0), v(2)), Of: sigma, Pars: 2},
		{Kind: api.EProj, Name: "snd", Type: fn(set, family, s(0), app(v(1), k(fst, v(2), v(1), v(0)))), Of: sigma, Place: 1, Pars: 2},
		{Kind: api.EData, Name: "Unit", Type: set, Cons: []int{box}, Fields: []int{open}},
		{Kind: api.ECon, Name: "box", Type: fn(n, k(unit)), Of: unit},
		{Kind: api.EProj, Name: "open", Type: fn(k(unit), n), Of: unit},
		{Kind: api.EData, Name: "Empty", Type: set},
		def("one", n, k(suc, k(zero))),
		def("two", n, k(suc, k(one))),
		def("plus", fn(n, n, n), lam(n, n, elim(nat, 0, lam(n, n), v(0), lam(n, n, k(suc, v(0))), v(1)))),
		def("times", fn(n, n, n), lam(n, n, elim(nat, 0, lam(n, n), k(zero), lam(n, n, k(plus, v(2), v(0))), v(1)))),
		def("ack", fn(n, n, n), lam(n, elim(nat, 0, lam(n, fn(n, n)), k(suc), lam(n, fn(n, n), n, elim(nat, 0, lam(n, n), app(v(1), k(one)), lam(n, n, app(v(3), v(0))), v(0))), v(0)))),
		def("id", fn(set, v(0), v(1)), lam(set, v(0), v(0))),
		def("couple", fn(n, k(sigma, n, lam(n, n))), lam(n, k(pair, n, lam(n, n), v(0), k(suc, v(0))))),
		def("again", set, lam(set, app(v(0), v(0)))), // no such type is asked here
	}
}

// number is the numeral n.
func number(n int) api.Term {
	t := k(zero)
	for range n {
		t = k(suc, t)
	}
	return t
}

// add is the eliminator that plus unfolds to: b with as many sucs around it as a has.
func add(a, b api.Term) api.Term {
	return elim(nat, 0, lam(k(nat), k(nat)), b, lam(k(nat), k(nat), k(suc, v(0))), a)
}

// machine is that of world.
func machine(t *testing.T) *Machine {
	t.Helper()
	m, e := New(world())
	if e != api.OK {
		t.Fatal(e)
	}
	return m
}

// fuel is a meter with so many steps; a nil one, if there are fewer than none.
func fuel(n int) *meter.Meter {
	m, _ := meter.New(n)
	return m
}

// same asks that a call answered a term, and no error.
func same(t *testing.T, what string, got api.Term, e api.Errno, want api.Term) {
	t.Helper()
	if e != api.OK || !term.Same(got, want) {
		t.Errorf("%s: %s, %v, not %s", what, told(got), e, told(want))
	}
}

// errs asks that a call answered an error, and the zero term.
func errs(t *testing.T, what string, got api.Term, e, want api.Errno) {
	t.Helper()
	if e != want || got.Kind != 0 || got.N != 0 || got.Sub != nil {
		t.Errorf("%s: %s, %v, not %v", what, told(got), e, want)
	}
}

// comes asks that a term comes to another one in so many steps: with just so much fuel and with more, and with each that is less not.
func comes(t *testing.T, what string, from, to api.Term, steps int) {
	t.Helper()
	m := machine(t)
	for _, n := range []int{steps, steps + 1, steps + 7, api.MaxFuel} {
		f := fuel(n)
		got, e := m.Bring(from, f)
		same(t, what, got, e, to)
		if f.Used() != steps || f.Left() != n-steps {
			t.Errorf("%s: %d taken, %d left of %d, not %d", what, f.Used(), f.Left(), n, steps)
		}
		got, used, e := Bring(world(), from, n)
		same(t, what+", in a signature", got, e, to)
		if used != steps {
			t.Errorf("%s, in a signature: %d steps, not %d", what, used, steps)
		}
	}
	for n := range steps {
		f := fuel(n)
		got, e := m.Bring(from, f)
		errs(t, what, got, e, api.ErrFuel)
		if f.Used() != n || f.Left() != 0 {
			t.Errorf("%s: of %d steps %d are taken, %d left", what, n, f.Used(), f.Left())
		}
		got, used, e := Bring(world(), from, n)
		errs(t, what+", in a signature", got, e, api.ErrFuel)
		if used != 0 {
			t.Errorf("%s, in a signature: %d steps beside an error", what, used)
		}
	}
}

func TestWorld(t *testing.T) {
	if l := world(); !sign.Formed(l) || len(l) != end {
		t.Fatal("world is not formed")
	}
}

// TestExample is the chapter's: one delta, two beta, one iota, two beta.
func TestExample(t *testing.T) { // P14.1, P14.2
	comes(t, "plus one zero", k(plus, number(1), k(zero)), k(suc, add(k(zero), k(zero))), 6)
	m, now := machine(t), k(plus, number(1), k(zero))
	for i, want := range terms(
		app(world()[plus].Body, number(1), k(zero)),
		app(lam(k(nat), add(k(suc, k(zero)), v(0))), k(zero)),
		add(number(1), k(zero)),
		app(lam(k(nat), k(nat), k(suc, v(0))), k(zero), add(k(zero), k(zero))),
		app(lam(k(nat), k(suc, v(0))), add(k(zero), k(zero))),
		k(suc, add(k(zero), k(zero))),
	) {
		next, is, e := m.Once(now, fuel(1))
		same(t, "step "+strconv.Itoa(i), next, e, want)
		if !is {
			t.Errorf("step %d: none", i)
		}
		now = next
	}
}

// TestBeta takes steps at functions alone.
func TestBeta(t *testing.T) { // P14.1
	comes(t, "the argument", app(lam(set, v(0)), x(1)), x(1), 1)
	comes(t, "another one", app(lam(set, x(2)), x(1)), x(2), 1)
	comes(t, "a loose one", app(lam(set, v(3)), v(7)), v(2), 1)
	comes(t, "beneath binders", app(lam(set, lam(v(0), app(v(1), v(0), v(2)))), v(7)), lam(v(7), app(v(8), v(0), v(1))), 1)
	comes(t, "more arguments", app(lam(set, v(0)), x(1), x(2), v(3), k(zero)), app(x(1), x(2), v(3), k(zero)), 1)
	comes(t, "two functions", app(lam(set, v(0), app(v(0), v(1), v(2))), v(4), v(5)), app(v(5), v(4), v(0)), 2)
	comes(t, "a function of a function", app(lam(set, app(v(0), v(1))), lam(set, app(v(0), x(3)))), app(v(0), x(3)), 2)
	comes(t, "what makes a function", app(lam(set, v(0)), lam(set, v(0), v(0)), x(1), x(2)), x(2), 3)
	comes(t, "an argument that is left as it is", app(lam(set, x(1)), app(k(again), k(again))), x(1), 1)
	comes(t, "a step in an argument alone", app(x(1), k(one)), app(x(1), k(one)), 0)
	comes(t, "a step beneath a binder alone", lam(k(one), k(one)), lam(k(one), k(one)), 0)
	comes(t, "a step in a type alone", fn(k(one), k(one)), fn(k(one), k(one)), 0)
	comes(t, "a function without an argument", lam(set, v(0)), lam(set, v(0)), 0)
}

// TestDelta takes steps at definitions alone.
func TestDelta(t *testing.T) { // P14.1
	comes(t, "one", k(one), number(1), 1)
	comes(t, "two", k(two), k(suc, k(one)), 1)
	comes(t, "one, applied", k(one, x(1), v(2)), k(suc, k(zero), x(1), v(2)), 1)
	comes(t, "id", k(id), lam(set, v(0), v(0)), 1)
	comes(t, "id, applied to some", k(id, x(1)), lam(x(1), v(0)), 2)
	comes(t, "id, applied to all", k(id, x(1), x(2)), x(2), 3)
	comes(t, "id, applied to more", k(id, x(1), x(2), v(3)), app(x(2), v(3)), 3)
	comes(t, "id of one", k(id, k(nat), k(one)), number(1), 4)
}

// TestField takes steps at fields.
func TestField(t *testing.T) { // P14.1
	made := k(pair, v(1), v(2), x(3), lam(set, v(4)))
	comes(t, "fst", k(fst, x(1), x(2), made), x(3), 1)
	comes(t, "snd", k(snd, x(1), x(2), made), lam(set, v(4)), 1)
	comes(t, "fst, applied", k(fst, x(1), x(2), made, v(5), x(6)), app(x(3), v(5), x(6)), 1)
	comes(t, "snd, applied", k(snd, x(1), x(2), made, v(5), x(6)), app(v(3), x(6)), 2)
	comes(t, "a record without parameters", k(open, k(box, v(3))), v(3), 1)
	comes(t, "a record without parameters, applied", k(open, k(box, v(3)), k(one)), app(v(3), k(one)), 1)
	comes(t, "what comes to a pair", k(snd, x(1), x(2), k(couple, x(3))), k(suc, x(3)), 3)
	comes(t, "what comes to a pair, applied", k(snd, x(1), x(2), k(couple, x(3)), x(4)), k(suc, x(3), x(4)), 3)
	comes(t, "a field of a field", k(fst, x(1), x(2), k(snd, x(3), x(4), k(pair, x(5), x(6), x(7), k(pair, x(8), x(9), x(10), x(11))))), x(10), 2)
	comes(t, "a field of what an eliminator comes to", k(open, elim(nat, 0, x(1), k(box, v(9)), x(2), k(zero))), v(9), 2)

	comes(t, "no record", k(fst, x(1), x(2)), k(fst, x(1), x(2)), 0)
	comes(t, "no record, nothing", k(fst), k(fst), 0)
	comes(t, "a variable", k(fst, x(1), x(2), x(3)), k(fst, x(1), x(2), x(3)), 0)
	comes(t, "a variable, more arguments", k(fst, x(1), x(2), v(3), made), k(fst, x(1), x(2), v(3), made), 0)
	comes(t, "a pair of too little", k(fst, x(1), x(2), k(pair, x(1), x(2), x(3))), k(fst, x(1), x(2), k(pair, x(1), x(2), x(3))), 0)
	comes(t, "a pair of too much", k(fst, x(1), x(2), app(made, x(1))), k(fst, x(1), x(2), app(made, x(1))), 0)
	comes(t, "another record", k(fst, x(1), x(2), k(box, x(3))), k(fst, x(1), x(2), k(box, x(3))), 0)
	comes(t, "another family", k(open, number(1)), k(open, number(1)), 0)
	comes(t, "the family itself", k(open, k(unit)), k(open, k(unit)), 0)
	comes(t, "a pair elsewhere", k(fst, made, made), k(fst, made, made), 0)
}

// TestIota takes steps at eliminators.
func TestIota(t *testing.T) { // P14.1
	comes(t, "zero", elim(nat, 0, x(1), x(2), x(3), k(zero)), x(2), 1)
	comes(t, "suc", elim(nat, 5, x(1), x(2), x(3), k(suc, v(4))), app(x(3), v(4), elim(nat, 5, x(1), x(2), x(3), v(4))), 1)
	comes(t, "suc, applied", elim(nat, 0, x(1), x(2), x(3), k(suc, v(4)), v(5), x(6)), app(x(3), v(4), elim(nat, 0, x(1), x(2), x(3), v(4)), v(5), x(6)), 1)
	comes(t, "vnil", elim(vec, 1, x(1), x(2), x(3), x(4), x(5), k(vnil, x(6))), x(3), 1)
	comes(t, "vcons", elim(vec, 1, x(1), x(2), x(3), x(4), x(5), k(vcons, x(6), x(7), x(8), x(9))), app(x(4), x(7), x(8), x(9), elim(vec, 1, x(1), x(2), x(3), x(4), x(7), x(9))), 1)
	comes(t, "sup", elim(tree, 0, x(1), x(2), v(3), v(4), k(sup, x(5), x(6), v(7), v(8))), app(v(4), v(7), v(8), lam(app(x(2), v(7)), elim(tree, 0, x(1), x(2), v(4), v(5), app(v(9), v(0))))), 1)
	comes(t, "a record", elim(sigma, 0, x(1), x(2), x(3), x(4), k(pair, x(5), x(6), x(7), x(8))), app(x(4), x(7), x(8)), 1)
	comes(t, "what comes to zero", elim(nat, 0, x(1), x(2), x(3), k(id, k(nat), k(zero))), x(2), 4)
	comes(t, "what comes to suc", elim(nat, 0, x(1), x(2), x(3), k(one), v(5)), app(x(3), k(zero), elim(nat, 0, x(1), x(2), x(3), k(zero)), v(5)), 2)
	comes(t, "an eliminator of an eliminator", add(add(number(1), x(1)), x(2)), k(suc, add(add(k(zero), x(1)), x(2))), 6)
	comes(t, "an eliminator of a field", elim(nat, 0, x(1), x(2), x(3), k(fst, x(4), x(5), k(couple, k(zero)))), x(2), 4)
	comes(t, "beta behind it", elim(nat, 0, x(1), lam(set, v(0)), x(3), k(zero), v(7)), v(7), 2)

	comes(t, "no target", elim(nat, 0, x(1), x(2), x(3)), elim(nat, 0, x(1), x(2), x(3)), 0)
	comes(t, "nothing", elim(nat, 0), elim(nat, 0), 0)
	comes(t, "no target, but an index", elim(vec, 0, x(1), x(2), x(3), x(4), k(vnil, x(1))), elim(vec, 0, x(1), x(2), x(3), x(4), k(vnil, x(1))), 0)
	comes(t, "a variable", elim(nat, 0, x(1), x(2), x(3), v(4)), elim(nat, 0, x(1), x(2), x(3), v(4)), 0)
	comes(t, "a variable, more arguments", elim(nat, 0, x(1), x(2), x(3), x(4), k(zero)), elim(nat, 0, x(1), x(2), x(3), x(4), k(zero)), 0)
	comes(t, "a suc of nothing", elim(nat, 0, x(1), x(2), x(3), k(suc)), elim(nat, 0, x(1), x(2), x(3), k(suc)), 0)
	comes(t, "a zero of too much", elim(nat, 0, x(1), x(2), x(3), k(zero, x(1))), elim(nat, 0, x(1), x(2), x(3), k(zero, x(1))), 0)
	comes(t, "another family's", elim(nat, 0, x(1), x(2), x(3), k(box, x(1))), elim(nat, 0, x(1), x(2), x(3), k(box, x(1))), 0)
	comes(t, "a function", elim(nat, 0, x(1), x(2), x(3), lam(set, v(0))), elim(nat, 0, x(1), x(2), x(3), lam(set, v(0))), 0)
	comes(t, "of nothing that there is", elim(empty, 0, x(1), k(zero)), elim(empty, 0, x(1), k(zero)), 0)
	for n := range end { // what is no family's eliminator
		if world()[n].Kind != api.EData {
			stuck := elim(n, 0, x(1), x(2), x(3), k(zero))
			comes(t, "of "+world()[n].Name, stuck, stuck, 0)
		}
	}
}

// TestHeads asks for each head with which there is no step, alone and with arguments.
func TestHeads(t *testing.T) { // P14.1, P14.3
	for _, head := range terms(v(0), v(9), set, term.Sort(7), fn(set, set), k(nat), k(zero), k(suc), k(pair), k(sigma), k(fst), k(open), elim(nat, 0), elim(one, 0), x(0), x(api.MaxFree), v(api.MaxFree)) {
		for _, args := range [][]api.Term{nil, terms(k(one)), terms(k(one), app(k(again), k(again)))} {
			if head.Kind == api.KConst && head.N == open && len(args) > 0 {
				continue // it brings the first one to weak head form
			}
			comes(t, told(head), app(head, args...), app(head, args...), 0)
		}
	}
}

// TestWithin asks for terms whose target takes steps, but comes to no constructor: they are their own weak head forms, and the steps within are taken.
func TestWithin(t *testing.T) { // P14.1, P14.3
	for _, each := range []struct {
		t     api.Term
		steps int
	}{
		{add(k(plus, x(1), x(2)), x(3)), 3},
		{add(add(k(plus, x(1), x(2)), x(3)), x(4)), 3},
		{add(k(plus, x(1), x(2)), x(3)), 3},
		{elim(nat, 0, x(1), x(2), x(3), k(id, k(nat), v(4)), x(5)), 3},
		{elim(nat, 0, x(1), x(2), x(3), k(couple, x(4))), 2}, // another family's
		{k(fst, x(1), x(2), k(one)), 1},
		{k(fst, x(1), x(2), app(lam(set, v(0)), x(3)), x(4)), 1},
		{k(open, k(snd, x(1), x(2), k(couple, x(3)))), 3},
		{k(open, k(fst, x(1), x(2), app(k(id, set), x(3)))), 3},
	} {
		comes(t, told(each.t), each.t, each.t, each.steps)
		f := fuel(each.steps + 2)
		got, is, e := machine(t).Once(each.t, f)
		same(t, "Once", got, e, each.t)
		if is || f.Left() != 2 {
			t.Errorf("Once of %s: %v, %d left", told(each.t), is, f.Left())
		}
		f = fuel(each.steps - 1)
		got, is, e = machine(t).Once(each.t, f)
		errs(t, "Once, too little fuel", got, e, api.ErrFuel)
		if is || f.Left() != 0 {
			t.Errorf("Once of %s: %v, %d left", told(each.t), is, f.Left())
		}
	}
}

// TestOnce asks for one step at the head.
func TestOnce(t *testing.T) { // P14.1
	m := machine(t)
	for _, each := range []struct {
		what     string
		from, to api.Term
		steps    int
		is       bool
	}{
		{"beta", app(lam(set, v(0)), k(one), x(1)), k(one, x(1)), 1, true},
		{"delta", k(two, x(1)), k(suc, k(one), x(1)), 1, true},
		{"field", k(fst, x(1), x(2), k(pair, x(3), x(4), k(one), x(5))), k(one), 1, true},
		{"field, behind steps", k(snd, x(1), x(2), k(couple, k(one)), x(6)), k(suc, k(one), x(6)), 3, true},
		{"iota", elim(nat, 0, x(1), k(one), x(3), k(zero), x(4)), k(one, x(4)), 1, true},
		{"iota, behind steps", elim(nat, 0, x(1), x(2), x(3), k(plus, k(one), x(4))), app(x(3), add(k(zero), x(4)), elim(nat, 0, x(1), x(2), x(3), add(k(zero), x(4)))), 8, true},
		{"a variable", x(1), x(1), 0, false},
		{"an argument alone", app(v(1), k(one)), app(v(1), k(one)), 0, false},
		{"a constructor", k(suc, k(one)), k(suc, k(one)), 0, false},
		{"a function", lam(k(one), k(one)), lam(k(one), k(one)), 0, false},
		{"too few arguments", k(fst, x(1), k(one)), k(fst, x(1), k(one)), 0, false},
		{"no constructor", k(open, x(1)), k(open, x(1)), 0, false},
	} {
		for n := range each.steps + 3 {
			f := fuel(n)
			got, is, e := m.Once(each.from, f)
			if n < each.steps {
				errs(t, each.what, got, e, api.ErrFuel)
				if is || f.Left() != 0 {
					t.Errorf("%s: %v, %d left of %d", each.what, is, f.Left(), n)
				}
				continue
			}
			same(t, each.what, got, e, each.to)
			if is != each.is || f.Used() != each.steps {
				t.Errorf("%s: %v, %d taken, not %d", each.what, is, f.Used(), each.steps)
			}
		}
	}
}

// TestNumbers reckons with numbers, down to the last suc.
func TestNumbers(t *testing.T) { // P14.1
	m := machine(t)
	value := func(x api.Term) int {
		f, n := fuel(api.MaxFuel), 0
		for {
			w, e := m.Bring(x, f)
			if e != api.OK {
				t.Fatal(e)
			}
			c, args, is := m.Con(w)
			switch {
			case is && c == zero:
				return n
			case !is || c != suc:
				t.Fatalf("%s is no number", told(w))
			}
			n, x = n+1, args[0]
		}
	}
	for a := range 5 {
		for b := range 5 {
			if n := value(k(plus, number(a), number(b))); n != a+b {
				t.Errorf("%d + %d: %d", a, b, n)
			}
			if n := value(k(times, number(a), number(b))); n != a*b {
				t.Errorf("%d * %d: %d", a, b, n)
			}
		}
	}
	for a, row := range [][]int{{1, 2, 3, 4}, {2, 3, 4, 5}, {3, 5, 7, 9}, {5, 13, 29}} {
		for b, want := range row {
			if n := value(k(ack, number(a), number(b))); n != want {
				t.Errorf("ack %d %d: %d, not %d", a, b, n, want)
			}
		}
	}
}

// TestEntries asks what a machine tells of its signature.
func TestEntries(t *testing.T) { // P14.1
	m, l := machine(t), world()
	if !sign.Same(m.Entries(), l) || m.Len() != end {
		t.Errorf("%d entries", m.Len())
	}
	for n, e := range l {
		if m.Pars(n) != e.Pars || m.Family(n) != e.Of {
			t.Errorf("%s: %d, %d", e.Name, m.Pars(n), m.Family(n))
		}
	}
	if m.Pars(vcons) != 1 || m.Family(vcons) != vec || m.Pars(snd) != 2 || m.Family(snd) != sigma || m.Pars(tree) != 2 || m.Family(tree) != 0 || m.Pars(plus) != 0 {
		t.Error("other parameters, or another family")
	}
	for _, n := range outside {
		if m.Pars(n) != 0 || m.Family(n) != 0 {
			t.Errorf("%d: %d, %d", n, m.Pars(n), m.Family(n))
		}
	}
	for _, none := range [][]api.Entry{nil, {}} {
		m, e := New(none)
		if e != api.OK || m.Len() != 0 || m.Entries() != nil || m.Pars(0) != 0 || m.Family(0) != 0 {
			t.Errorf("of no entries: %v", e)
		}
		got, e := m.Bring(app(lam(set, v(0)), x(1)), fuel(1))
		same(t, "of no entries", got, e, x(1))
	}
}

// outside are numbers of no entry of world.
var outside = []int{-1, -2, -1 << 63, end, end + 1, api.MaxSig, 1<<31 - 1, -1 << 31, api.MaxFree, 1<<63 - 1}

// TestCon asks each constructor with fewer arguments, with all, and with more.
func TestCon(t *testing.T) { // P14.2
	m, l := machine(t), world()
	for c, n := range map[int]int{zero: 0, suc: 1, vnil: 1, vcons: 4, sup: 4, pair: 4, box: 1} {
		for many := range n + 3 {
			args := terms()
			for i := range many {
				args = append(args, lam(set, app(v(i), x(i))))
			}
			got, own, is := m.Con(k(c, args...))
			switch {
			case many != n && (is || got != 0 || own != nil):
				t.Errorf("%s with %d arguments: %d, %v, %v", l[c].Name, many, got, own, is)
			case many == n && (!is || got != c || !slices.EqualFunc(own, args, term.Same)):
				t.Errorf("%s: %d, %v, %v", l[c].Name, got, own, is)
			}
		}
	}
	// No step is taken, and nothing but the head is asked.
	for _, no := range terms(x(1), v(0), set, fn(set, set), lam(set, k(zero)), k(nat), k(one), k(vec, x(1), x(2)), k(fst, x(1), x(2), x(3)), app(lam(set, v(0)), k(zero)), elim(nat, 0, x(1), k(zero), x(2), k(zero)), app(x(1), k(zero)), elim(zero, 0), k(end), k(api.MaxFree)) {
		if c, args, is := m.Con(no); is || c != 0 || args != nil {
			t.Errorf("%s: %d, %v", told(no), c, args)
		}
	}
	if c, args, is := m.Con(k(suc, k(end))); !is || c != suc || len(args) != 1 || !term.Same(args[0], k(end)) {
		t.Errorf("suc of what there is not: %d, %v", c, args)
	}
	if c, args, is := m.Con(k(suc, k(one))); !is || c != suc || !term.Same(args[0], k(one)) {
		t.Errorf("suc of one: %d, %v", c, args)
	}
}
