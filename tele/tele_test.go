package tele

import (
	"math"
	"reflect"
	"slices"
	"strconv"
	"strings"
	"testing"

	"scholium/api"
	"scholium/term"
)

const most = api.MaxFree

// set is a term without variables.
var set = term.Sort(0)

// bad is a term that is not shaped.
var bad = term.Var(-1)

// told writes a term, if it is not too great to be read.
func told(x api.Term) string {
	if term.Size(x) > 60 {
		return "a term of size " + strconv.Itoa(term.Size(x)) + ", depth " + strconv.Itoa(term.Depth(x))
	}
	words := []string{strconv.Itoa(x.Kind), strconv.Itoa(x.N)}
	for _, s := range x.Sub {
		words = append(words, told(s))
	}
	return "(" + strings.Join(words, " ") + ")"
}

// toldAll writes terms, if they are not too many.
func toldAll(l []api.Term) string {
	if len(l) > 30 {
		return strconv.Itoa(len(l)) + " terms"
	}
	words := []string{}
	for _, x := range l {
		words = append(words, told(x))
	}
	return "[" + strings.Join(words, ", ") + "]"
}

// under lays so many binders above a term, functions and types of functions in turn.
func under(binders int, x api.Term) api.Term {
	for i := range binders {
		if i%2 == 0 {
			x = term.Lam(set, x)
		} else {
			x = term.Pi(set, x)
		}
	}
	return x
}

// pis lays so many types of functions above a term.
func pis(n int, x api.Term) api.Term {
	for range n {
		x = term.Pi(set, x)
	}
	return x
}

// deep is an application of so many levels, x at its lowest.
func deep(levels int, x api.Term) api.Term {
	for range levels - 1 {
		x = term.App(set, x)
	}
	return x
}

// bush is a term of n nodes that is not deep, its ends x, or eliminators.
func bush(n int, x api.Term) api.Term {
	switch n {
	case 1:
		return x
	case 2:
		return term.Elim(0, 0)
	}
	return term.App(bush((n-1)/2, x), bush(n-1-(n-1)/2, x))
}

// endless is a term that stands within its own Subs.
func endless() api.Term {
	x := term.Pi(set, set)
	x.Sub[0], x.Sub[1] = x, x
	return x
}

// unshaped are terms that are not shaped: for a node's number, its Subs, or for what is too great, or too deep.
func unshaped() []api.Term {
	node := func(kind, n int, subs ...api.Term) api.Term { return api.Term{Kind: kind, N: n, Sub: subs} }
	return terms(api.Term{}, node(9, 0), node(-1, 0, set, set), bad, term.Var(most+1), node(api.KVar, 0, set), term.Sort(api.MaxLevel+1), term.Const(math.MaxInt), term.Free(math.MinInt), node(api.KElim, 0), term.Elim(0, -1),
		node(api.KPi, 1, set, set), node(api.KPi, 0), node(api.KPi, 0, set), node(api.KPi, 0, set, set, set), term.Pi(set, bad), term.Pi(bad, set), pis(3, bad), node(api.KLam, 0, set), node(api.KApp, -1, set, set),
		bush(api.MaxNodes+1, set), pis(1, bush(api.MaxNodes-1, set)), pis(api.MaxDepth, set), deep(api.MaxDepth+1, set), endless(), term.App(set, endless()))
}

// terms are a list of some.
func terms(l ...api.Term) []api.Term { return l }

// sets are so many terms without variables.
func sets(n int) []api.Term { return slices.Repeat(terms(set), n) }

// with is a list of n terms without variables, but x at a place.
func with(n, place int, x api.Term) []api.Term {
	l := sets(n)
	l[place] = x
	return l
}

// asks holds what a call answered against what it must: beside an error, the zero term.
func asks(t *testing.T, call string, got, want api.Term, e, wantE api.Errno) {
	t.Helper()
	if e != wantE || !reflect.DeepEqual(got, want) {
		t.Errorf("%s: %s, %v, not %s, %v", call, told(got), e, told(want), wantE)
	}
}

// errs asks for an error, and the zero term beside it.
func errs(t *testing.T, call string, got api.Term, e, wantE api.Errno) {
	t.Helper()
	asks(t, call, got, api.Term{}, e, wantE)
}

// asksAll holds a list that a call answered against what it must: beside an error, none.
func asksAll(t *testing.T, call string, got, want []api.Term, e, wantE api.Errno) {
	t.Helper()
	if e != wantE || len(got) != len(want) || len(want) > 0 && !reflect.DeepEqual(got, want) {
		t.Errorf("%s: %s, %v, not %s, %v", call, toldAll(got), e, toldAll(want), wantE)
	}
}

// errsAll asks for an error, and no list beside it.
func errsAll(t *testing.T, call string, got []api.Term, e, wantE api.Errno) {
	t.Helper()
	asksAll(t, call, got, nil, e, wantE)
}

// laying tells what Pis and Lams answer, and what each one lays around a term.
func laying(l []api.Term, x api.Term, tell func(call string, got api.Term, e api.Errno, lay func(a, b api.Term) api.Term)) {
	got, e := Pis(l, x)
	tell("Pis of "+toldAll(l)+", "+told(x), got, e, term.Pi)
	got, e = Lams(l, x)
	tell("Lams of "+toldAll(l)+", "+told(x), got, e, term.Lam)
}

func TestPisAndLams(t *testing.T) { // P10.1
	v, app := term.Var, term.App
	a, b, c := term.Free(5), term.Lam(term.Var(0), app(v(0), v(4))), app(v(0), v(1))
	for _, x := range terms(v(0), v(most), term.Elim(1, 2), app(v(2), v(5)), term.Pi(v(1), v(0)), term.Lam(v(1), v(0))) {
		for i, each := range []struct {
			l    []api.Term
			want func(lay func(a, b api.Term) api.Term) api.Term
		}{
			{nil, func(func(a, b api.Term) api.Term) api.Term { return x }},
			{terms(), func(func(a, b api.Term) api.Term) api.Term { return x }},
			{terms(a), func(lay func(a, b api.Term) api.Term) api.Term { return lay(a, x) }},
			{terms(b), func(lay func(a, b api.Term) api.Term) api.Term { return lay(b, x) }},
			{terms(a, b), func(lay func(a, b api.Term) api.Term) api.Term { return lay(a, lay(b, x)) }},
			{terms(a, b, c), func(lay func(a, b api.Term) api.Term) api.Term { return lay(a, lay(b, lay(c, x))) }},
			{terms(c, a, a, b), func(lay func(a, b api.Term) api.Term) api.Term { return lay(c, lay(a, lay(a, lay(b, x)))) }},
		} {
			laying(each.l, x, func(call string, got api.Term, e api.Errno, lay func(a, b api.Term) api.Term) {
				asks(t, strconv.Itoa(i)+": "+call, got, each.want(lay), e, api.OK)
			})
		}
	}
}

// TestLaidMost lays just MaxTele types, and one more, around terms.
func TestLaidMost(t *testing.T) { // P10.1
	for _, n := range []int{api.MaxTele - 1, api.MaxTele} {
		laying(slices.Repeat(terms(term.Var(3)), n), term.Var(1), func(call string, got api.Term, e api.Errno, lay func(a, b api.Term) api.Term) {
			want := term.Var(1)
			for range n {
				want = lay(term.Var(3), want)
			}
			asks(t, call, got, want, e, api.OK)
		})
	}
	for _, n := range []int{api.MaxTele + 1, api.MaxTele + 2, 300, 100000} { // whatever they are
		for _, l := range [][]api.Term{sets(n), with(n, 0, bad), with(n, n-1, api.Term{}), with(n, 7, endless())} {
			for _, x := range terms(set, bad, bush(api.MaxNodes, set)) {
				laying(l, x, func(call string, got api.Term, e api.Errno, _ func(a, b api.Term) api.Term) {
					errs(t, call, got, e, api.ErrLong)
				})
			}
		}
	}
}

// TestLaidWrong has terms that are not shaped in each place, with and without what would be too great else.
func TestLaidWrong(t *testing.T) { // P10.1
	shape := func(call string, got api.Term, e api.Errno, _ func(a, b api.Term) api.Term) {
		t.Helper()
		errs(t, call, got, e, api.ErrShape)
	}
	for _, wrong := range unshaped() {
		for _, l := range [][]api.Term{nil, sets(1), terms(term.Var(0), term.Var(0)), sets(api.MaxTele), terms(bush(api.MaxNodes, set)), terms(set, deep(api.MaxDepth, set))} {
			laying(l, wrong, shape)
			for place := range l {
				for _, x := range terms(set, bush(api.MaxNodes, set), wrong) {
					given := slices.Clone(l)
					given[place] = wrong
					laying(given, x, shape)
				}
			}
		}
	}
}

// TestLaidGreat lays around terms what makes them just as great, or as deep, as they may be, and one more.
func TestLaidGreat(t *testing.T) { // P10.1
	long := func(call string, got api.Term, e api.Errno, _ func(a, b api.Term) api.Term) {
		t.Helper()
		errs(t, call, got, e, api.ErrLong)
	}
	right := func(call string, got api.Term, e api.Errno, _ func(a, b api.Term) api.Term) {
		t.Helper()
		if e != api.OK || !term.Shaped(got) || term.Size(got) != api.MaxNodes && term.Depth(got) != api.MaxDepth {
			t.Errorf("%s: %s, %v", call, told(got), e)
		}
	}
	for _, n := range []int{1, 2, 3, 100, 4095, 4096, api.MaxNodes - 3, api.MaxNodes - 2} {
		laying(terms(bush(n, set)), bush(api.MaxNodes-1-n, set), right)
		laying(terms(bush(n, set)), bush(api.MaxNodes-n, set), long)
	}
	laying(terms(bush(2000, set), bush(3000, set)), bush(3190, set), right)
	laying(terms(bush(2000, set), bush(3000, set)), bush(3191, set), long)
	laying(terms(bush(2001, set), bush(3000, set)), bush(3190, set), long)
	laying(terms(set, bush(api.MaxNodes, set)), set, long)
	laying(terms(bush(api.MaxNodes, set)), set, long)
	laying(terms(set), bush(api.MaxNodes, set), long)
	laying(nil, bush(api.MaxNodes, set), right)
	laying(slices.Repeat(terms(bush(340, set)), api.MaxTele), bush(8, set), right)
	laying(slices.Repeat(terms(bush(340, set)), api.MaxTele), bush(9, set), long)
	laying(slices.Repeat(terms(bush(api.MaxNodes, set)), api.MaxTele), bush(api.MaxNodes, set), long)
	for _, n := range []int{0, 1, 2, api.MaxTele} {
		laying(sets(n), deep(api.MaxDepth-n, set), right)
		if n > 0 {
			laying(sets(n), deep(api.MaxDepth-n+1, set), long)
		}
		for place := range n {
			laying(with(n, place, deep(api.MaxDepth-1-place, set)), set, right)
			laying(with(n, place, deep(api.MaxDepth-place, set)), set, long)
		}
	}
}

func TestSplit(t *testing.T) { // P10.1
	v, pi := term.Var, term.Pi
	a, b := term.App(v(3), term.Free(1)), pi(v(0), v(1))
	x := pi(a, pi(v(0), pi(b, term.Lam(v(2), v(9)))))
	for i, c := range []struct {
		t    api.Term
		n    int
		l    []api.Term
		want api.Term
		e    api.Errno
	}{
		{v(7), 0, nil, v(7), api.OK}, {v(7), 1, nil, api.Term{}, api.ErrType}, {x, 0, nil, x, api.OK},
		{x, 1, terms(a), pi(v(0), pi(b, term.Lam(v(2), v(9)))), api.OK}, {x, 2, terms(a, v(0)), pi(b, term.Lam(v(2), v(9))), api.OK}, {x, 3, terms(a, v(0), b), term.Lam(v(2), v(9)), api.OK}, {x, 4, nil, api.Term{}, api.ErrType},
		{b, 1, terms(v(0)), v(1), api.OK}, {pi(b, b), 1, terms(b), b, api.OK}, {pi(b, b), 2, terms(b, v(0)), v(1), api.OK}, {pi(b, b), 3, nil, api.Term{}, api.ErrType}, // no type of functions within a type is taken off
		{term.Lam(b, b), 0, nil, term.Lam(b, b), api.OK}, {term.Lam(b, b), 1, nil, api.Term{}, api.ErrType}, {pi(set, term.Lam(set, b)), 2, nil, api.Term{}, api.ErrType}, {term.App(b, b), 1, nil, api.Term{}, api.ErrType}, {term.Elim(0, 1), 1, nil, api.Term{}, api.ErrType}, {term.Const(3), 1, nil, api.Term{}, api.ErrType},
		{pis(api.MaxTele, v(1)), api.MaxTele, sets(api.MaxTele), v(1), api.OK}, {pis(api.MaxTele, v(1)), api.MaxTele - 1, sets(api.MaxTele - 1), pi(set, v(1)), api.OK}, {pis(api.MaxTele-1, v(1)), api.MaxTele, nil, api.Term{}, api.ErrType}, {pis(api.MaxTele+1, v(1)), api.MaxTele, sets(api.MaxTele), pi(set, v(1)), api.OK}, {pis(100, v(1)), 3, sets(3), pis(97, v(1)), api.OK},
		{pis(api.MaxTele+1, v(1)), api.MaxTele + 1, nil, api.Term{}, api.ErrLong}, {pis(100, v(1)), api.MaxTele + 1, nil, api.Term{}, api.ErrLong}, {v(1), api.MaxTele + 1, nil, api.Term{}, api.ErrLong}, {pis(3, v(1)), math.MaxInt, nil, api.Term{}, api.ErrLong},
		{x, -1, nil, api.Term{}, api.ErrShape}, {v(7), -1, nil, api.Term{}, api.ErrShape}, {x, math.MinInt, nil, api.Term{}, api.ErrShape},
	} {
		l, got, e := Split(c.t, c.n)
		asks(t, strconv.Itoa(i), got, c.want, e, c.e)
		asksAll(t, strconv.Itoa(i), l, c.l, e, c.e)
	}
	for _, wrong := range unshaped() {
		for _, n := range []int{0, 1, 2, api.MaxTele, api.MaxTele + 1, math.MaxInt, -1, math.MinInt} {
			l, got, e := Split(wrong, n)
			errs(t, told(wrong), got, e, api.ErrShape)
			errsAll(t, told(wrong), l, e, api.ErrShape)
		}
	}
}

func TestWhole(t *testing.T) { // P10.1
	v, pi := term.Var, term.Pi
	b := pi(v(0), v(1))
	for i, c := range []struct {
		t    api.Term
		l    []api.Term
		want api.Term
		e    api.Errno
	}{
		{v(7), nil, v(7), api.OK}, {term.Lam(b, b), nil, term.Lam(b, b), api.OK}, {term.App(b, b), nil, term.App(b, b), api.OK}, {term.Elim(0, 1), nil, term.Elim(0, 1), api.OK},
		{b, terms(v(0)), v(1), api.OK}, {pi(b, b), terms(b, v(0)), v(1), api.OK}, {pi(v(4), pi(v(0), term.Lam(b, b))), terms(v(4), v(0)), term.Lam(b, b), api.OK},
		{pis(api.MaxTele, v(1)), sets(api.MaxTele), v(1), api.OK}, {pis(api.MaxTele, term.Lam(set, pis(50, v(1)))), sets(api.MaxTele), term.Lam(set, pis(50, v(1))), api.OK}, {pi(pis(50, v(1)), v(1)), terms(pis(50, v(1))), v(1), api.OK},
		{pis(api.MaxTele+1, v(1)), nil, api.Term{}, api.ErrLong}, {pis(api.MaxDepth-1, v(1)), nil, api.Term{}, api.ErrLong},
	} {
		l, got, e := Whole(c.t)
		asks(t, strconv.Itoa(i), got, c.want, e, c.e)
		asksAll(t, strconv.Itoa(i), l, c.l, e, c.e)
	}
	for _, wrong := range unshaped() {
		for _, x := range terms(wrong, pis(1, wrong), pis(api.MaxTele+1, wrong), term.Lam(set, wrong)) {
			l, got, e := Whole(x)
			errs(t, told(x), got, e, api.ErrShape)
			errsAll(t, told(x), l, e, api.ErrShape)
		}
	}
}

func TestVars(t *testing.T) { // P10.2
	v := term.Var
	for _, c := range []struct {
		n    int
		want []api.Term
	}{
		{0, nil}, {1, terms(v(0))}, {2, terms(v(1), v(0))}, {3, terms(v(2), v(1), v(0))}, {5, terms(v(4), v(3), v(2), v(1), v(0))}, {-1, nil}, {-most, nil}, {math.MinInt, nil}, {most + 1, nil}, {2 * most, nil}, {math.MaxInt, nil},
	} {
		asksAll(t, "Vars "+strconv.Itoa(c.n), Vars(c.n), c.want, api.OK, api.OK)
	}
	for _, n := range []int{api.MaxTele, api.MaxTele + 1, 1000, most - 1, most} {
		l := Vars(n)
		if len(l) != n {
			t.Fatalf("Vars %d: %d", n, len(l))
		}
		for i, x := range l {
			if x.Kind != api.KVar || x.N != n-1-i || len(x.Sub) != 0 {
				t.Fatalf("Vars %d: %d is %s", n, i, told(x))
			}
		}
	}
}

func TestLift(t *testing.T) { // P10.2
	v, app, lam := term.Var, term.App, term.Lam
	many := terms(v(0), v(1), app(v(2), v(0)), lam(v(0), app(v(3), v(1))))
	for i, c := range []struct {
		l    []api.Term
		k, n int
		want []api.Term
		e    api.Errno
	}{
		{nil, 3, 0, nil, api.OK}, {terms(), 0, 2, nil, api.OK}, {terms(v(0)), 3, 0, terms(v(3)), api.OK}, {terms(v(0)), 3, 1, terms(v(0)), api.OK}, {terms(v(1)), 3, 1, terms(v(4)), api.OK}, {many, 0, 0, many, api.OK},
		{terms(v(0), v(0)), 2, 0, terms(v(2), v(0)), api.OK}, {terms(v(0), v(1)), 2, 0, terms(v(2), v(3)), api.OK}, {terms(v(0), v(1), v(1)), 2, 0, terms(v(2), v(3), v(1)), api.OK}, {terms(v(0), v(1), v(2)), 2, 0, terms(v(2), v(3), v(4)), api.OK}, {terms(v(0), v(1), v(2)), 2, 1, terms(v(0), v(1), v(2)), api.OK}, {terms(v(1), v(2), v(3)), 2, 1, terms(v(3), v(4), v(5)), api.OK},
		{many, 5, 0, terms(v(5), v(6), app(v(7), v(0)), lam(v(0), app(v(3), v(1)))), api.OK}, {slices.Repeat(terms(app(v(0), v(3))), 5), 4, 1, terms(app(v(0), v(7)), app(v(0), v(7)), app(v(0), v(7)), app(v(0), v(3)), app(v(0), v(3))), api.OK},
		{terms(set, term.Free(2), term.Const(1), term.Elim(1, 1)), 9, 0, terms(set, term.Free(2), term.Const(1), term.Elim(1, 1)), api.OK}, {slices.Repeat(terms(v(0)), api.MaxTele), 1, 0, append(terms(v(1)), slices.Repeat(terms(v(0)), api.MaxTele-1)...), api.OK}, {slices.Repeat(terms(v(24)), api.MaxTele+1), 1, 0, slices.Repeat(terms(v(25)), api.MaxTele+1), api.OK},
		{terms(v(most - 1)), 1, 0, terms(v(most)), api.OK}, {terms(v(most)), 1, 0, nil, api.ErrLong}, {terms(v(0), v(most)), 1, 0, nil, api.ErrLong}, {terms(v(0), v(most-1)), 1, 0, terms(v(1), v(most)), api.OK}, {terms(v(0)), most, 0, terms(v(most)), api.OK}, {terms(v(0), v(1)), most, 0, nil, api.ErrLong}, {terms(v(0), v(0)), most, 0, terms(v(most), v(0)), api.OK}, {terms(set, v(most-1)), 1, most - 1, terms(set, v(most-1)), api.OK}, {terms(v(most)), 1, most, nil, api.ErrLong}, {terms(v(most - 1)), 1, most, terms(v(most - 1)), api.OK},
		{terms(v(0)), -1, 0, nil, api.ErrShape}, {terms(v(0)), 0, -1, nil, api.ErrShape}, {terms(set, set, set), 0, -2, nil, api.ErrShape}, {terms(v(0)), most + 1, 0, nil, api.ErrShape}, {terms(v(0)), 0, most + 1, nil, api.ErrShape}, {terms(v(0)), 0, math.MaxInt, nil, api.ErrShape}, {terms(set, set), math.MaxInt, math.MaxInt, nil, api.ErrShape}, {terms(set, set), math.MinInt, math.MinInt, nil, api.ErrShape},
		{terms(v(0)), 1, most, terms(v(0)), api.OK}, {terms(v(0), v(0)), 1, most, nil, api.ErrShape}, {terms(v(0), v(0)), 1, most - 1, terms(v(0), v(0)), api.OK}, // no variable is above MaxFree and its place
		{terms(bad), 1, 0, nil, api.ErrShape}, {terms(set, bad), 1, 0, nil, api.ErrShape}, {terms(v(most), bad), 1, 0, nil, api.ErrLong}, {terms(bad, v(most)), 1, 0, nil, api.ErrShape},
		{nil, -1, 0, nil, api.OK}, {nil, 0, math.MaxInt, nil, api.OK}, // there is no first one that would err
	} {
		got, e := Lift(c.l, c.k, c.n)
		asksAll(t, strconv.Itoa(i), got, c.want, e, c.e)
	}
	for _, wrong := range unshaped() {
		for place := range 3 {
			got, e := Lift(with(3, place, wrong), 0, 1)
			errsAll(t, told(wrong), got, e, api.ErrShape)
		}
	}
}

func TestPut(t *testing.T) { // P10.2
	v, f, app, lam := term.Var, term.Free, term.App, term.Lam
	a, b := f(1), f(2)
	for i, c := range []struct {
		l, args, want []api.Term
		e             api.Errno
	}{
		{nil, nil, nil, api.OK}, {nil, terms(a), nil, api.OK}, {terms(), terms(a, b), nil, api.OK}, {terms(v(0), v(1), v(3)), nil, terms(v(0), v(1), v(3)), api.OK}, {terms(lam(v(0), v(2))), terms(), terms(lam(v(0), v(2))), api.OK},
		{terms(v(0)), terms(a), terms(a), api.OK}, {terms(v(1)), terms(a), terms(v(0)), api.OK}, {terms(v(0)), terms(a, b), terms(b), api.OK}, {terms(v(1)), terms(a, b), terms(a), api.OK}, {terms(v(2)), terms(a, b), terms(v(0)), api.OK}, {terms(v(5)), terms(a, b), terms(v(3)), api.OK},
		{terms(v(0), v(0)), terms(a), terms(a, v(0)), api.OK}, {terms(v(0), v(1)), terms(a), terms(a, a), api.OK}, {terms(v(0), v(2)), terms(a), terms(a, v(1)), api.OK}, {terms(set, v(0), v(1), v(2), v(3)), terms(a), terms(set, v(0), v(1), v(2), v(3)), api.OK}, {terms(set, v(1), v(2), v(3), v(4)), terms(a), terms(set, a, a, a, a), api.OK}, {terms(set, v(2), v(3), v(4), v(5)), terms(a), terms(set, v(1), v(2), v(3), v(4)), api.OK},
		{terms(app(v(0), v(1)), app(app(v(0), v(1)), app(v(2), v(3)))), terms(a, b), terms(app(b, a), app(app(v(0), b), app(a, v(1)))), api.OK},
		{terms(v(0), v(1), v(2)), terms(v(4)), terms(v(4), v(5), v(6)), api.OK}, {terms(v(0), v(0), v(0)), terms(v(4)), terms(v(4), v(0), v(0)), api.OK}, {terms(set, app(v(1), v(2)), app(v(2), v(3))), terms(v(0), app(v(0), v(1))), terms(set, app(app(v(1), v(2)), v(1)), app(app(v(2), v(3)), v(2))), api.OK},
		{terms(lam(v(0), app(v(0), v(1))), lam(v(1), app(v(0), app(v(1), v(2))))), terms(v(3)), terms(lam(v(3), app(v(0), v(4))), lam(v(4), app(v(0), app(v(1), v(5))))), api.OK}, {terms(set, lam(v(0), v(2))), terms(lam(v(0), v(1))), terms(set, lam(v(0), lam(v(2), v(3)))), api.OK},
		{slices.Repeat(terms(v(api.MaxTele-1)), api.MaxTele), terms(a), append(slices.Repeat(terms(v(api.MaxTele-2)), api.MaxTele-1), a), api.OK}, {slices.Repeat(terms(v(0)), api.MaxTele+1), terms(a), append(terms(a), slices.Repeat(terms(v(0)), api.MaxTele)...), api.OK}, {terms(v(30)), slices.Repeat(terms(a), 30), terms(v(0)), api.OK}, {terms(v(29)), append(terms(b), slices.Repeat(terms(a), 29)...), terms(b), api.OK},
		{terms(v(0)), terms(v(most)), terms(v(most)), api.OK}, {terms(v(0), v(1)), terms(v(most - 1)), terms(v(most-1), v(most)), api.OK}, {terms(v(0), v(1)), terms(v(most)), nil, api.ErrLong}, {terms(set, set), terms(v(most)), nil, api.ErrLong}, {terms(set), terms(v(most)), terms(set), api.OK}, {terms(set, set), terms(v(most-1), v(most)), nil, api.ErrLong}, {terms(set, set), terms(v(most), v(0)), nil, api.ErrLong}, {terms(set, set, set), terms(v(most - 1)), nil, api.ErrLong}, {terms(set, set), terms(v(most - 1)), terms(set, set), api.OK}, {terms(set, v(most)), terms(v(most - 1)), terms(set, v(most-1)), api.OK}, // all are lifted, whether they stand there or not
		{terms(set, bad), terms(v(most)), nil, api.ErrLong}, {terms(set, bad), terms(v(most - 1)), nil, api.ErrShape}, {terms(bad, set), terms(v(most)), nil, api.ErrShape}, {terms(lam(set, v(1)), bad), terms(v(most)), nil, api.ErrLong}, {terms(set, set), terms(v(most), bad), nil, api.ErrShape}, {terms(lam(set, v(1))), terms(bad, v(most)), nil, api.ErrShape}, {terms(bad), nil, nil, api.ErrShape}, {terms(set, bad), nil, nil, api.ErrShape}, {nil, terms(bad), nil, api.OK},
	} {
		got, e := Put(c.l, c.args)
		asksAll(t, strconv.Itoa(i), got, c.want, e, c.e)
	}
	for _, wrong := range unshaped() {
		for place := range 3 {
			got, e := Put(with(3, place, wrong), terms(a))
			errsAll(t, told(wrong), got, e, api.ErrShape)
			got, e = Put(sets(1), with(3, place, wrong)) // also where they stand nowhere
			errsAll(t, told(wrong), got, e, api.ErrShape)
		}
	}
}

func TestFill(t *testing.T) { // P10.2
	v, f, app, lam, pi := term.Var, term.Free, term.App, term.Lam, term.Pi
	a, b, c := f(1), f(2), f(3)
	for i, c := range []struct {
		t    api.Term
		args []api.Term
		want api.Term
		e    api.Errno
	}{
		{v(0), nil, v(0), api.OK}, {lam(v(0), v(4)), terms(), lam(v(0), v(4)), api.OK}, {v(0), terms(a), a, api.OK}, {v(1), terms(a), v(0), api.OK},
		{v(0), terms(a, b), b, api.OK}, {v(1), terms(a, b), a, api.OK}, {v(2), terms(a, b), v(0), api.OK}, {v(0), terms(a, b, c), c, api.OK}, {v(1), terms(a, b, c), b, api.OK}, {v(2), terms(a, b, c), a, api.OK}, {v(5), terms(a, b, c), v(2), api.OK},
		{lam(v(1), app(v(0), app(v(1), app(v(2), v(3))))), terms(a, b), lam(a, app(v(0), app(b, app(a, v(1))))), api.OK}, {pi(v(0), app(v(1), v(2))), terms(v(5), v(0)), pi(v(0), app(v(1), v(6))), api.OK}, {app(v(0), v(1)), terms(v(0), v(1)), app(v(1), v(0)), api.OK},
		{v(0), terms(v(most)), v(most), api.OK}, {lam(set, v(1)), terms(v(most - 1)), lam(set, v(most)), api.OK}, {lam(set, v(1)), terms(v(most)), api.Term{}, api.ErrLong}, {lam(set, v(2)), terms(v(most), set), api.Term{}, api.ErrLong}, {lam(set, v(2)), terms(set, v(most)), lam(set, set), api.OK}, {v(most), terms(a), v(most - 1), api.OK},
		{bad, terms(a), api.Term{}, api.ErrShape}, {bad, nil, api.Term{}, api.ErrShape}, {set, terms(a, bad), api.Term{}, api.ErrShape}, {set, terms(bad, a), api.Term{}, api.ErrShape}, {lam(set, v(1)), terms(bad, v(most)), api.Term{}, api.ErrShape}, {v(0), terms(api.Term{}), api.Term{}, api.ErrShape},
	} {
		got, e := Fill(c.t, c.args)
		asks(t, strconv.Itoa(i), got, c.want, e, c.e)
	}
	for _, n := range []int{api.MaxTele, api.MaxTele + 1, 1000} {
		for place := range n {
			got, e := Fill(v(n-1-place), with(n, place, a))
			asks(t, strconv.Itoa(place)+" of "+strconv.Itoa(n), got, a, e, api.OK)
		}
	}
	for _, wrong := range unshaped() {
		got, e := Fill(wrong, terms(a))
		errs(t, told(wrong), got, e, api.ErrShape)
		for place := range 3 {
			got, e = Fill(set, with(3, place, wrong))
			errs(t, told(wrong), got, e, api.ErrShape)
		}
	}
}

func TestTypes(t *testing.T) { // P10.2
	v, f, app, lam := term.Var, term.Free, term.App, term.Lam
	a, b, c := f(1), f(2), f(3)
	for i, c := range []struct {
		l, args, want []api.Term
		e             api.Errno
	}{
		{nil, nil, nil, api.OK}, {terms(), terms(), nil, api.OK}, {terms(v(4)), terms(a), terms(v(4)), api.OK}, {terms(v(0)), terms(a), terms(v(0)), api.OK},
		{terms(set, v(0)), terms(a, b), terms(set, a), api.OK}, {terms(set, v(1)), terms(a, b), terms(set, v(0)), api.OK}, {terms(set, v(0), v(0)), terms(a, b, c), terms(set, a, b), api.OK}, {terms(set, v(0), v(1)), terms(a, b, c), terms(set, a, a), api.OK}, {terms(set, v(0), v(2)), terms(a, b, c), terms(set, a, v(0)), api.OK}, {terms(v(0), v(1), v(2)), terms(a, b, c), terms(v(0), v(0), v(0)), api.OK},
		{terms(v(7), app(v(0), v(8)), lam(v(0), app(v(0), app(v(1), app(v(2), v(10)))))), terms(v(3), lam(v(0), v(1)), v(9)), terms(v(7), app(v(3), v(7)), lam(lam(v(0), v(1)), app(v(0), app(lam(v(1), v(2)), app(v(4), v(8)))))), api.OK},
		{terms(set), nil, nil, api.ErrShape}, {nil, terms(set), nil, api.ErrShape}, {sets(2), sets(1), nil, api.ErrShape}, {sets(1), sets(2), nil, api.ErrShape}, {sets(3), nil, nil, api.ErrShape}, {terms(set, lam(set, v(1))), terms(v(most)), nil, api.ErrShape},
		{sets(api.MaxTele), sets(api.MaxTele), sets(api.MaxTele), api.OK}, {sets(api.MaxTele + 1), sets(api.MaxTele + 1), sets(api.MaxTele + 1), api.OK}, {sets(api.MaxTele), sets(api.MaxTele + 1), nil, api.ErrShape}, {append(sets(api.MaxTele-1), v(api.MaxTele-2)), append(terms(a), sets(api.MaxTele-1)...), append(sets(api.MaxTele-1), a), api.OK},
		{terms(set, lam(set, v(1))), terms(v(most-1), set), terms(set, lam(set, v(most))), api.OK}, {terms(set, lam(set, v(1))), terms(v(most), set), nil, api.ErrLong}, {terms(set, lam(set, v(1)), bad), terms(v(most), set, set), nil, api.ErrLong}, {terms(set, lam(set, v(1)), set), terms(v(most), bad, set), nil, api.ErrLong}, {terms(set, bad, lam(set, v(2))), terms(v(most), set, set), nil, api.ErrShape},
		{terms(bad), terms(set), nil, api.ErrShape}, {terms(set, bad), sets(2), nil, api.ErrShape}, {sets(2), terms(bad, set), nil, api.ErrShape}, {sets(3), terms(set, bad, set), nil, api.ErrShape},
		{terms(set), terms(bad), terms(set), api.OK}, {terms(set, v(0)), terms(a, bad), terms(set, a), api.OK}, // the last one is put in nowhere
	} {
		got, e := Types(c.l, c.args)
		asksAll(t, strconv.Itoa(i), got, c.want, e, c.e)
	}
	for _, wrong := range unshaped() {
		for place := range 3 {
			got, e := Types(with(3, place, wrong), sets(3))
			errsAll(t, told(wrong), got, e, api.ErrShape)
			if place < 2 {
				got, e = Types(sets(3), with(3, place, wrong))
				errsAll(t, told(wrong), got, e, api.ErrShape)
			}
		}
	}
}

func TestResult(t *testing.T) { // P10.2
	v, f, app, lam, pi := term.Var, term.Free, term.App, term.Lam, term.Pi
	a, b := f(1), f(2)
	great := bush(api.MaxNodes, set)
	for i, c := range []struct {
		t    api.Term
		args []api.Term
		want api.Term
		e    api.Errno
	}{
		{v(3), nil, v(3), api.OK}, {pi(set, v(0)), terms(), pi(set, v(0)), api.OK}, {pi(set, v(0)), terms(a), a, api.OK}, {pi(set, v(1)), terms(a), v(0), api.OK}, {pi(set, pi(v(0), v(1))), terms(a, b), a, api.OK}, {pi(set, pi(v(0), v(0))), terms(a, b), b, api.OK}, {pi(set, pi(v(0), v(1))), terms(a), pi(a, a), api.OK},
		{pi(set, pi(v(0), app(v(0), app(v(1), v(2))))), terms(v(4), v(5)), app(v(5), app(v(4), v(0))), api.OK}, {pi(set, lam(v(0), app(v(0), app(v(1), v(2))))), terms(v(4)), lam(v(4), app(v(0), app(v(5), v(1)))), api.OK},
		{v(3), terms(a), api.Term{}, api.ErrType}, {lam(set, v(0)), terms(a), api.Term{}, api.ErrType}, {app(pi(set, set), set), terms(a), api.Term{}, api.ErrType}, {pi(set, set), terms(a, b), api.Term{}, api.ErrType}, {pi(set, lam(set, v(1))), terms(a, b), api.Term{}, api.ErrType}, {pi(set, pi(set, v(1))), terms(a, b, a), api.Term{}, api.ErrType}, {pi(set, v(0)), terms(a, b), api.Term{}, api.ErrType},
		{pi(set, v(0)), terms(pi(set, v(0)), b), b, api.OK}, {pi(set, v(0)), terms(pi(set, pi(set, v(1))), a, b), a, api.OK}, {pi(set, v(0)), terms(pi(set, v(0)), b, a), api.Term{}, api.ErrType}, // what was put in is a type of functions itself
		{pi(set, lam(set, v(1))), terms(v(most - 1)), lam(set, v(most)), api.OK}, {pi(set, lam(set, v(1))), terms(v(most)), api.Term{}, api.ErrLong}, {pi(set, pi(set, v(1))), terms(v(most), a), api.Term{}, api.ErrLong}, {pi(set, pi(set, v(2))), terms(v(most), a), v(0), api.OK}, {pi(set, pi(set, lam(set, v(1)))), terms(set, v(most)), api.Term{}, api.ErrLong},
		{bad, nil, api.Term{}, api.ErrShape}, {bad, terms(a), api.Term{}, api.ErrShape}, {pi(bad, set), terms(a), api.Term{}, api.ErrShape}, {pi(set, set), terms(bad), api.Term{}, api.ErrShape}, {pi(set, pi(set, set)), terms(set, bad), api.Term{}, api.ErrShape}, {pi(set, pi(set, set)), terms(set, bad, a), api.Term{}, api.ErrShape}, {lam(set, bad), terms(a, a), api.Term{}, api.ErrShape},
		{set, terms(bad), api.Term{}, api.ErrType}, {pi(set, set), terms(a, bad), api.Term{}, api.ErrType}, {pi(set, app(v(0), set)), terms(great, bad), api.Term{}, api.ErrLong}, {pi(set, app(v(0), set)), terms(great, a), api.Term{}, api.ErrLong}, {pi(set, pi(v(0), set)), terms(great, a), api.Term{}, api.ErrLong}, // one behind the other
	} {
		got, e := Result(c.t, c.args)
		asks(t, strconv.Itoa(i), got, c.want, e, c.e)
	}
	got, e := Result(pis(api.MaxDepth-1, v(100)), append(slices.Repeat(terms(b), api.MaxDepth-2-100), append(terms(a), slices.Repeat(terms(b), 100)...)...)) // more than a telescope may have
	asks(t, "many", got, a, e, api.OK)
	same := slices.Repeat(terms(term.Pi(set, v(0))), 20000)
	got, e = Result(same[0], same)
	asks(t, "very many", got, same[0], e, api.OK)
	for _, wrong := range unshaped() {
		got, e := Result(wrong, terms(a))
		errs(t, told(wrong), got, e, api.ErrShape)
		for place := range 3 {
			got, e = Result(pis(3, set), with(3, place, wrong))
			errs(t, told(wrong), got, e, api.ErrShape)
		}
	}
}

// filling tells what Put, Fill, Types and Result answer that put a in at end in place(end): all must give the same one.
func filling(place func(end api.Term) api.Term, a api.Term, tell func(call string, got api.Term, e api.Errno)) {
	got, e := Fill(place(term.Var(1)), terms(a, set))
	tell("Fill", got, e)
	first := func(l []api.Term, e api.Errno) (api.Term, api.Errno) {
		if e != api.OK {
			return api.Term{}, e
		}
		return l[len(l)-1], e
	}
	got, e = first(Put(terms(set, place(term.Var(2))), terms(a, set)))
	tell("Put", got, e)
	got, e = first(Types(terms(set, set, place(term.Var(1))), terms(a, set, set)))
	tell("Types", got, e)
	if x := term.Pi(set, place(term.Var(0))); term.Shaped(x) {
		got, e = Result(x, terms(a))
		tell("Result", got, e)
	}
}

// TestFilledGreat asks for results of just as many nodes, and levels, as they may have, and of one more.
func TestFilledGreat(t *testing.T) { // P10.2
	asked := 0
	ask := func(place func(end api.Term) api.Term, a api.Term) {
		want := place(a)
		filling(place, a, func(call string, got api.Term, e api.Errno) {
			t.Helper()
			if asked++; term.Shaped(want) {
				asks(t, call, got, want, e, api.OK)
			} else {
				errs(t, call, got, e, api.ErrLong)
			}
		})
	}
	for _, put := range []int{5, 6, 100, 4096, api.MaxNodes - 3, api.MaxNodes - 2, api.MaxNodes - 1, api.MaxNodes} {
		for rest := max(1, api.MaxNodes-put-3); rest <= api.MaxNodes-put+1; rest++ {
			ask(func(end api.Term) api.Term { return term.App(end, bush(rest, set)) }, bush(put, set))
		}
	}
	for _, above := range []int{1, 2, 64, api.MaxDepth - 3} {
		for levels := api.MaxDepth - above - 1; levels <= min(api.MaxDepth, api.MaxDepth-above+2); levels++ {
			ask(func(end api.Term) api.Term { return deep(above+1, end) }, deep(levels, set))
		}
	}
	for _, put := range []int{1, 7, 8, 9} { // at very many places: 1024 of 7 nodes are not too many
		ask(func(end api.Term) api.Term { return bush(2047, end) }, bush(put, set))
	}
	for _, a := range terms(bush(api.MaxNodes, set), deep(api.MaxDepth, set)) { // in the place of all
		ask(func(end api.Term) api.Term { return end }, a)
	}
	if asked < 100 {
		t.Errorf("%d were asked", asked)
	}
}

func TestRight(t *testing.T) { // P10.3
	v := term.Var
	greatest := append(sets(api.MaxTele-1), v(api.MaxTele-2))
	for i, c := range []struct {
		l              []api.Term
		loose, entries int
		want           bool
	}{
		{nil, 0, 0, true}, {terms(), 3, 3, true}, {nil, most, 0, true}, {nil, most + 1, 0, false}, {nil, math.MaxInt, 0, false},
		{terms(set), 0, 0, true}, {terms(v(0)), 0, 0, false}, {terms(v(0)), 1, 0, true}, {terms(v(1)), 1, 0, false}, {terms(v(1)), 2, 0, true},
		{terms(set, v(0)), 0, 0, true}, {terms(set, v(1)), 0, 0, false}, {terms(set, v(1)), 1, 0, true}, {terms(set, v(2)), 1, 0, false}, {terms(v(0), set), 0, 0, false}, {terms(set, v(0), v(1)), 0, 0, true}, {terms(set, v(0), v(2)), 0, 0, false}, {terms(set, v(0), v(2)), 1, 0, true}, {terms(set, term.Lam(v(0), v(1))), 0, 0, true}, {terms(set, term.Lam(v(0), v(2))), 0, 0, false}, {terms(set, term.Pi(v(1), v(0))), 0, 0, false},
		{terms(term.Const(2)), 0, 3, true}, {terms(term.Const(2)), 0, 2, false}, {terms(set, term.Elim(2, 1)), 0, 3, true}, {terms(set, term.Elim(2, 1)), 5, 2, false}, {terms(set, term.Const(0)), 5, 0, false}, {terms(set, term.Const(0)), 5, -1, false}, {terms(set, v(0)), 0, -1, true}, {terms(term.Const(most), set), 0, math.MaxInt, true},
		{sets(api.MaxTele), 0, 0, true}, {sets(api.MaxTele + 1), 0, 0, false}, {sets(api.MaxTele + 1), 5, 5, false}, {greatest, 0, 0, true}, {append(sets(api.MaxTele-1), v(api.MaxTele-1)), 0, 0, false}, {append(sets(api.MaxTele-1), v(api.MaxTele-1)), 1, 0, true}, {append(sets(1), greatest...), 0, 0, false},
		{terms(v(most - 1)), most, 0, true}, {terms(v(most)), most, 0, false}, {terms(set, v(most)), most, 0, true}, {terms(set, v(most)), most - 1, 0, false}, {terms(set), most + 1, 0, false}, {terms(set, set), math.MaxInt, 0, false}, {sets(api.MaxTele), math.MaxInt - 5, 0, false}, {sets(api.MaxTele), most, 0, true},
		{terms(set), -1, 0, false}, {terms(set, set), -1, 0, false}, {sets(3), -2, 0, false}, {terms(set), math.MinInt, 0, false},
		{terms(bush(api.MaxNodes, set), bush(api.MaxNodes, set)), 0, 1, true}, {terms(term.Free(most)), 0, 0, true}, // each one alone is asked how great it is
	} {
		if got := Right(c.l, c.loose, c.entries); got != c.want {
			t.Errorf("%d: %s, %d, %d: %v", i, toldAll(c.l), c.loose, c.entries, got)
		}
	}
	for _, wrong := range unshaped() {
		for place := range 3 {
			if Right(with(3, place, wrong), 9, 9) {
				t.Errorf("%s at %d is right", told(wrong), place)
			}
		}
	}
}
