package iota

import (
	"strconv"
	"strings"
	"testing"

	"scholium/api"
	"scholium/sign"
	"scholium/term"
)

// set is the least universe.
var set = term.Sort(0)

// v is the variable n.
func v(n int) api.Term { return term.Var(n) }

// x is the named variable n.
func x(n int) api.Term { return term.Free(n) }

// k is entry n, applied to some.
func k(n int, l ...api.Term) api.Term { return term.Apply(term.Const(n), l...) }

// elim is the eliminator of entry n into a universe, applied to some.
func elim(n, level int, l ...api.Term) api.Term { return term.Apply(term.Elim(n, level), l...) }

// app is a term, applied to some.
func app(f api.Term, l ...api.Term) api.Term { return term.Apply(f, l...) }

// fn is the type of functions of all of a list but the last, to the last.
func fn(l ...api.Term) api.Term {
	t := l[len(l)-1]
	for i := len(l) - 2; i >= 0; i-- {
		t = term.Pi(l[i], t)
	}
	return t
}

// lam is the function of all of a list but the last, to the last.
func lam(l ...api.Term) api.Term {
	t := l[len(l)-1]
	for i := len(l) - 2; i >= 0; i-- {
		t = term.Lam(l[i], t)
	}
	return t
}

// pis lays so many types of functions above a term.
func pis(n int, t api.Term) api.Term {
	for range n {
		t = term.Pi(set, t)
	}
	return t
}

// terms are a list of some.
func terms(l ...api.Term) []api.Term { return l }

// told writes a term, if it is not too great to be read.
func told(t api.Term) string {
	if term.Size(t) > 100 {
		return "a term of size " + strconv.Itoa(term.Size(t))
	}
	words := []string{strconv.Itoa(t.Kind), strconv.Itoa(t.N)}
	for _, s := range t.Sub {
		words = append(words, told(s))
	}
	return "(" + strings.Join(words, " ") + ")"
}

// data is a family in the least universe.
func data(name string, pars, inds int, t api.Term, cons ...int) api.Entry {
	return api.Entry{Kind: api.EData, Name: name, Type: t, Pars: pars, Inds: inds, Cons: cons}
}

// con is a constructor.
func con(name string, of, place, pars int, t api.Term) api.Entry {
	return api.Entry{Kind: api.ECon, Name: name, Type: t, Of: of, Place: place, Pars: pars}
}

// field is a field of a record.
func field(name string, of, place, pars int, t api.Term) api.Entry {
	return api.Entry{Kind: api.EProj, Name: name, Type: t, Of: of, Place: place, Pars: pars}
}

// def is a definition.
func def(name string, t, body api.Term) api.Entry {
	return api.Entry{Kind: api.EDef, Name: name, Type: t, Body: body}
}

// record is a family with fields, in the least universe.
func record(name string, pars int, t api.Term, made int, fields ...int) api.Entry {
	return api.Entry{Kind: api.EData, Name: name, Type: t, Pars: pars, Cons: []int{made}, Fields: fields}
}

// The places of the families and definitions of world, and of what is asked by name.
const (
	nat, zero, suc    = 0, 1, 2
	vec, vnil, vcons  = 3, 4, 5
	tree, sup         = 6, 7
	sigma, pair       = 8, 9
	fst, snd          = 10, 11
	one               = 12
	list, nil0, cons0 = 13, 14, 15
	acc, acc1         = 16, 17
	rose, leaf, both  = 18, 19, 20
	none              = 21
	unit, tt          = 22, 23
	up, up1           = 24, 25
	many, most        = 26, 27
	end               = 28 // no entry's
)

// numbers are the numbers and what counts them: the chapter's example.
func numbers() []api.Entry {
	return []api.Entry{
		data("Nat", 0, 0, set, zero, suc),
		con("zero", nat, 0, 0, k(nat)),
		con("suc", nat, 1, 0, fn(k(nat), k(nat))),
	}
}

// world is a signature with all that there is.
func world() []api.Entry {
	family := fn(v(0), set)         // A -> Set
	relation := fn(v(0), v(1), set) // A -> A -> Set
	return append(numbers(),
		data("Vec", 1, 1, fn(set, k(nat), set), vnil, vcons),
		con("vnil", vec, 0, 1, fn(set, k(vec, v(0), k(zero)))),
		con("vcons", vec, 1, 1, fn(set, k(nat), v(1), k(vec, v(2), v(1)), k(vec, v(3), k(suc, v(2))))),
		data("W", 2, 0, fn(set, family, set), sup),
		con("sup", tree, 0, 2, fn(set, family, v(1), fn(app(v(1), v(0)), k(tree, v(3), v(2))), k(tree, v(3), v(2)))),
		record("Sigma", 2, fn(set, family, set), pair, fst, snd),
		con("pair", sigma, 0, 2, fn(set, family, v(1), app(v(1), v(0)), k(sigma, v(3), v(2)))),
		field("fst", sigma, 0, 2, fn(set, family, k(sigma, v(1), v(0)), v(2))),
		field("snd", sigma, 1, 2, fn(set, family, k(sigma, v(1), v(0)), app(v(1), k(fst, v(2), v(1), v(0))))),
		def("one", k(nat), k(suc, k(zero))),
		data("List", 1, 0, fn(set, set), nil0, cons0),
		con("nil", list, 0, 1, fn(set, k(list, v(0)))),
		con("cons", list, 1, 1, fn(set, v(0), k(list, v(1)), k(list, v(2)))),
		data("Acc", 2, 1, fn(set, relation, v(1), set), acc1),
		con("acc", acc, 0, 2, fn(set, relation, v(1), fn(v(2), app(v(2), v(0), v(1)), k(acc, v(4), v(3), v(1))), k(acc, v(3), v(2), v(1)))),
		data("Rose", 1, 0, fn(set, set), leaf, both),
		con("leaf", rose, 0, 1, fn(set, k(rose, k(nat)), k(list, k(rose, v(1))), k(rose, v(2)))), // the family with another parameter, and within another one
		con("both", rose, 1, 1, fn(set, v(0), k(rose, v(1)), v(2), fn(k(rose, v(3)), k(rose, v(4))), v(4), k(rose, v(5)))),
		data("Empty", 0, 0, set),
		record("Unit", 0, set, tt),
		con("tt", unit, 0, 0, k(unit)),
		api.Entry{Kind: api.EData, Name: "Up", Type: fn(term.Sort(2), term.Sort(3)), Inds: 1, Level: 3, Cons: []int{up1}},
		con("up", up, 0, 0, fn(term.Sort(2), k(up, v(0)), k(up, v(1)))),
		data("Many", 2, 2, fn(set, v(0), k(nat), k(nat), set), most),
		con("most", many, 0, 2, fn(set, v(0), k(nat), // beneath A, a: n, then m -> y -> Many A a (suc n) m, a vector, and Many A a n (suc n)
			fn(k(nat), k(vec, v(3), v(0)), k(many, v(4), v(3), k(suc, v(2)), v(1))),
			k(vec, v(3), v(1)),
			k(many, v(4), v(3), v(2), k(suc, v(2))),
			k(many, v(5), v(4), k(zero), k(suc, v(3))))),
	)
}

// outside are numbers of no entry of a list.
func outside(l []api.Entry) []int {
	return []int{-1, -2, -1 << 63, len(l), len(l) + 1, 1<<63 - 1, api.MaxSig, 1<<31 - 1, -1 << 31}
}

// same asks that a call answered a term, and no error.
func same(t *testing.T, what string, got api.Term, e api.Errno, want api.Term) {
	t.Helper()
	if e != api.OK || !term.Same(got, want) {
		t.Errorf("%s: %s, %v, not %s", what, told(got), e, told(want))
	}
}

// errs asks that a call answered an error, and the zero term.
func errs(t *testing.T, what string, got api.Term, e, want api.Errno) {
	t.Helper()
	if e != want || got.Kind != 0 || got.N != 0 || got.Sub != nil {
		t.Errorf("%s: %s, %v, not %v", what, told(got), e, want)
	}
}

func TestWorld(t *testing.T) {
	if l := world(); !sign.Formed(l) || len(l) != end {
		t.Fatal("world is not formed")
	}
}

func TestArgs(t *testing.T) { // P13.1
	l := world()
	want := map[int]int{nat: 4, vec: 6, tree: 5, sigma: 5, list: 5, acc: 6, rose: 5, none: 2, unit: 3, up: 4, many: 7}
	for d, entry := range l {
		n, is := want[d]
		if is != (entry.Kind == api.EData) {
			t.Fatalf("%s: no family", entry.Name)
		}
		e := api.OK
		if !is {
			e = api.ErrNone
		}
		if got, no := Args(l, d); got != n || no != e {
			t.Errorf("%s: %d, %v, not %d, %v", entry.Name, got, no, n, e)
		}
	}
	// However many they are.
	cons := []int{}
	family := data("D", 20, 4, pis(24, set))
	all := []api.Entry{family}
	for i := range api.MaxCons {
		cons = append(cons, i+1)
		args := []api.Term{}
		for n := range 20 {
			args = append(args, v(19-n))
		}
		all = append(all, con("c"+strconv.Itoa(i), 0, i, 20, pis(20, k(0, append(args, set, set, set, set)...))))
	}
	all[0].Cons = cons
	if got, no := Args(all, 0); got != 42 || no != api.OK {
		t.Errorf("%d, %v", got, no)
	}
}

// TestStepNumbers asks what the eliminator of numbers comes to.
func TestStepNumbers(t *testing.T) { // P13.1
	l := numbers()
	args := terms(x(1), x(2), x(3))
	for _, level := range []int{0, 1, api.MaxLevel} {
		got, e := Step(l, nat, level, zero, args, nil)
		same(t, "zero", got, e, x(2))
		got, e = Step(l, nat, level, suc, args, terms(x(4)))
		same(t, "suc", got, e, app(x(3), x(4), elim(nat, level, x(1), x(2), x(3), x(4))))
		loose := terms(v(4), lam(set, app(v(0), v(1))), v(2))
		got, e = Step(l, nat, level, suc, loose, terms(k(suc, v(0))))
		same(t, "suc, loose", got, e, app(v(2), k(suc, v(0)), elim(nat, level, append(loose, k(suc, v(0)))...)))
	}
}

// TestStepOrdinary asks what eliminators of many kinds come to.
func TestStepOrdinary(t *testing.T) { // P13.1
	l := world()
	for _, each := range []struct {
		what      string
		d, c      int
		args, own []api.Term
		want      api.Term
	}{
		{"nil", list, nil0, terms(x(0), x(1), x(2), x(3)), nil, x(2)},
		{"cons", list, cons0, terms(x(0), x(1), x(2), x(3)), terms(x(4), x(5)), app(x(3), x(4), x(5), elim(list, 2, x(0), x(1), x(2), x(3), x(5)))},
		{"vnil", vec, vnil, terms(v(0), v(1), v(2), v(3)), nil, v(2)},
		{"vcons", vec, vcons, terms(v(0), v(1), v(2), v(3)), terms(v(4), v(5), v(6)), app(v(3), v(4), v(5), v(6), elim(vec, 2, v(0), v(1), v(2), v(3), v(4), v(6)))},
		{"sup", tree, sup, terms(x(0), v(1), v(2), v(3)), terms(v(4), v(5)), app(v(3), v(4), v(5), lam(app(v(1), v(4)), elim(tree, 2, x(0), v(2), v(3), v(4), app(v(6), v(0)))))},
		{"sup, a function", tree, sup, terms(x(0), lam(x(0), fn(v(0), v(2))), v(2), v(3)), terms(v(4), lam(set, app(v(1), v(0)))), app(v(3), v(4), lam(set, app(v(1), v(0))), lam(app(lam(x(0), fn(v(0), v(2))), v(4)), elim(tree, 2, x(0), lam(x(0), fn(v(0), v(3))), v(3), v(4), app(lam(set, app(v(2), v(0))), v(0)))))},
		{"pair", sigma, pair, terms(x(0), x(1), x(2), x(3)), terms(x(4), x(5)), app(x(3), x(4), x(5))},
		{"tt", unit, tt, terms(x(0), lam(set, v(3))), nil, lam(set, v(3))},
		{"acc", acc, acc1, terms(v(0), v(1), v(2), v(3)), terms(v(4), v(5)), app(v(3), v(4), v(5), lam(v(0), app(v(2), v(0), v(5)), elim(acc, 2, v(2), v(3), v(4), v(5), v(1), app(v(7), v(1), v(0)))))},
		{"leaf", rose, leaf, terms(k(nat), x(1), x(2), x(3)), terms(x(4), x(5)), app(x(2), x(4), x(5))},
		{"both", rose, both, terms(v(0), x(1), x(2), x(3)), terms(x(4), x(5), x(6), v(7), x(8)), app(x(3), x(4), x(5), x(6), v(7), x(8), elim(rose, 2, v(0), x(1), x(2), x(3), x(5)), lam(k(rose, v(0)), elim(rose, 2, v(1), x(1), x(2), x(3), app(v(8), v(0)))))},
		{"up", up, up1, terms(v(0), v(1)), terms(term.Sort(1), v(2)), app(v(1), term.Sort(1), v(2), elim(up, 2, v(0), v(1), term.Sort(1), v(2)))},
		{"most", many, most, terms(v(0), v(1), v(2), v(3)), terms(v(4), v(5), v(6), v(7)), app(v(3), v(4), v(5), v(6), v(7),
			lam(k(nat), k(vec, v(1), v(0)), elim(many, 2, v(2), v(3), v(4), v(5), k(suc, v(6)), v(1), app(v(7), v(1), v(0)))),
			elim(many, 2, v(0), v(1), v(2), v(3), v(4), k(suc, v(4)), v(7)))},
	} {
		got, e := Step(l, each.d, 2, each.c, each.args, each.own)
		same(t, each.what, got, e, each.want)
		r, no := New(l)
		if no != api.OK {
			t.Fatal(no)
		}
		got, e = r.Step(each.d, 2, each.c, each.args, each.own)
		same(t, each.what+", by rules", got, e, each.want)
	}
}

func TestField(t *testing.T) { // P13.1
	l := world()
	r, _ := New(l)
	for i, own := range [][]api.Term{terms(x(4), x(5)), terms(v(4), lam(set, v(9))), terms(k(zero), k(zero)), terms(bush(api.MaxNodes, v(api.MaxFree)), pis(api.MaxDepth-1, v(200)))} {
		for place, p := range []int{fst, snd} {
			what := strconv.Itoa(i) + ", " + l[p].Name
			got, e := Field(l, p, own)
			same(t, what, got, e, own[place])
			got, e = r.Field(p, own)
			same(t, what, got, e, own[place])
		}
	}
}

func TestMotive(t *testing.T) { // P13.2
	l := world()
	for _, each := range []struct {
		d, level int
		pars     []api.Term
		want     api.Term
	}{
		{nat, 0, nil, fn(k(nat), set)},
		{none, 1, nil, fn(k(none), term.Sort(1))},
		{vec, 7, terms(x(0)), fn(k(nat), k(vec, x(0), v(0)), term.Sort(7))},
		{vec, 0, terms(v(5)), fn(k(nat), k(vec, v(6), v(0)), set)},
		{sigma, 0, terms(v(5), lam(v(5), v(3))), fn(k(sigma, v(5), lam(v(5), v(3))), set)},
		{acc, 2, terms(v(5), v(1)), fn(v(5), k(acc, v(6), v(2), v(0)), term.Sort(2))},
		{acc, 2, terms(lam(set, app(v(0), v(1))), x(1)), fn(lam(set, app(v(0), v(1))), k(acc, lam(set, app(v(0), v(2))), x(1), v(0)), term.Sort(2))},
		{up, 3, nil, fn(term.Sort(2), k(up, v(0)), term.Sort(3))},
		{many, 1, terms(v(0), v(1)), fn(k(nat), k(nat), k(many, v(2), v(3), v(1), v(0)), term.Sort(1))},
	} {
		got, e := Motive(l, each.d, each.level, each.pars)
		same(t, l[each.d].Name, got, e, each.want)
	}
}

func TestMethod(t *testing.T) { // P13.2
	l := world()
	for _, each := range []struct {
		c      int
		pars   []api.Term
		motive api.Term
		want   api.Term
	}{
		{zero, nil, x(9), app(x(9), k(zero))},
		{suc, nil, x(9), fn(k(nat), app(x(9), v(0)), app(x(9), k(suc, v(1))))},
		{suc, nil, v(4), fn(k(nat), app(v(5), v(0)), app(v(6), k(suc, v(1))))},
		{suc, nil, lam(k(nat), v(3)), fn(k(nat), app(lam(k(nat), v(4)), v(0)), app(lam(k(nat), v(5)), k(suc, v(1))))},
		{vnil, terms(v(0)), v(1), app(v(1), k(zero), k(vnil, v(0)))},
		{vcons, terms(v(0)), v(1), fn(k(nat), v(1), k(vec, v(2), v(1)), app(v(4), v(2), v(0)), app(v(5), k(suc, v(3)), k(vcons, v(4), v(3), v(2), v(1))))},
		{cons0, terms(x(3)), x(4), fn(x(3), k(list, x(3)), app(x(4), v(0)), app(x(4), k(cons0, x(3), v(2), v(1))))},
		{sup, terms(v(0), v(1)), v(2), fn(v(0), fn(app(v(2), v(0)), k(tree, v(2), v(3))), fn(app(v(3), v(1)), app(v(5), app(v(1), v(0)))), app(v(5), k(sup, v(3), v(4), v(2), v(1))))},
		{pair, terms(v(0), v(1)), v(2), fn(v(0), app(v(2), v(0)), app(v(4), k(pair, v(2), v(3), v(1), v(0))))},
		{tt, nil, v(2), app(v(2), k(tt))},
		{up1, nil, v(2), fn(term.Sort(2), k(up, v(0)), app(v(4), v(1), v(0)), app(v(5), v(2), k(up1, v(2), v(1))))},
		{acc1, terms(v(0), v(1)), v(2), fn(v(0), fn(v(1), app(v(3), v(0), v(1)), k(acc, v(3), v(4), v(1))),
			fn(v(2), app(v(4), v(0), v(2)), app(v(6), v(1), app(v(2), v(1), v(0)))), app(v(5), v(2), k(acc1, v(3), v(4), v(2), v(1))))},
		{both, terms(v(0)), v(1), fn(v(0), k(rose, v(1)), v(2), fn(k(rose, v(3)), k(rose, v(4))), v(4),
			app(v(6), v(3)), fn(k(rose, v(6)), app(v(8), app(v(3), v(0)))), app(v(8), k(both, v(7), v(6), v(5), v(4), v(3), v(2))))},
		{most, terms(x(0), x(1)), x(2), fn(k(nat), fn(k(nat), k(vec, x(0), v(0)), k(many, x(0), x(1), k(suc, v(2)), v(1))), k(vec, x(0), v(1)), k(many, x(0), x(1), v(2), k(suc, v(2))),
			fn(k(nat), k(vec, x(0), v(0)), app(x(2), k(suc, v(5)), v(1), app(v(4), v(1), v(0)))), app(x(2), v(4), k(suc, v(4)), v(1)), app(x(2), k(zero), k(suc, v(5)), k(most, x(0), x(1), v(5), v(4), v(3), v(2))))},
	} {
		got, e := Method(l, each.c, each.pars, each.motive)
		same(t, l[each.c].Name, got, e, each.want)
	}
}

func TestType(t *testing.T) { // P13.2
	l := world()
	got, e := Type(numbers(), nat, 0)
	same(t, "the chapter's example", got, e, fn(fn(k(nat), set), app(v(0), k(zero)), fn(k(nat), app(v(2), v(0)), app(v(3), k(suc, v(1)))), k(nat), app(v(3), v(0))))
	for _, each := range []struct {
		d, level int
		want     api.Term
	}{
		{none, 5, fn(fn(k(none), term.Sort(5)), k(none), app(v(1), v(0)))},
		{unit, 0, fn(fn(k(unit), set), app(v(0), k(tt)), k(unit), app(v(2), v(0)))},
		{list, 1, fn(set, fn(k(list, v(0)), term.Sort(1)), app(v(0), k(nil0, v(1))), fn(v(2), k(list, v(3)), app(v(3), v(0)), app(v(4), k(cons0, v(5), v(2), v(1)))), k(list, v(3)), app(v(3), v(0)))},
		{vec, 7, fn(set, fn(k(nat), k(vec, v(1), v(0)), term.Sort(7)), app(v(0), k(zero), k(vnil, v(1))),
			fn(k(nat), v(3), k(vec, v(4), v(1)), app(v(4), v(2), v(0)), app(v(5), k(suc, v(3)), k(vcons, v(6), v(3), v(2), v(1)))), k(nat), k(vec, v(4), v(0)), app(v(4), v(1), v(0)))},
		{sigma, 0, fn(set, fn(v(0), set), fn(k(sigma, v(1), v(0)), set), fn(v(2), app(v(2), v(0)), app(v(2), k(pair, v(4), v(3), v(1), v(0)))), k(sigma, v(3), v(2)), app(v(2), v(0)))},
		{tree, 0, fn(set, fn(v(0), set), fn(k(tree, v(1), v(0)), set), fn(v(2), fn(app(v(2), v(0)), k(tree, v(4), v(3))), fn(app(v(3), v(1)), app(v(3), app(v(1), v(0)))), app(v(3), k(sup, v(5), v(4), v(2), v(1)))), k(tree, v(3), v(2)), app(v(2), v(0)))},
		{up, 3, fn(fn(term.Sort(2), k(up, v(0)), term.Sort(3)), fn(term.Sort(2), k(up, v(0)), app(v(2), v(1), v(0)), app(v(3), v(2), k(up1, v(2), v(1)))), term.Sort(2), k(up, v(0)), app(v(3), v(1), v(0)))},
	} {
		got, e := Type(l, each.d, each.level)
		same(t, l[each.d].Name, got, e, each.want)
	}
}
