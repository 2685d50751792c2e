package subst

import (
	"math"
	"reflect"
	"slices"
	"strconv"
	"strings"
	"testing"

	"scholium/api"
	"scholium/lift"
	"scholium/term"
)

const most = api.MaxFree

// beyond are numbers that are below 0, or above MaxFree.
var beyond = []int{math.MinInt, math.MinInt + most, -most, -1, most + 1, 2 * most, math.MaxInt - most, math.MaxInt}

// set is a term without variables.
var set = term.Sort(0)

// told writes a term, if it is not too great to be read.
func told(x api.Term) string {
	if term.Size(x) > 60 {
		return "a term of size " + strconv.Itoa(term.Size(x)) + ", depth " + strconv.Itoa(term.Depth(x))
	}
	words := []string{strconv.Itoa(x.Kind), strconv.Itoa(x.N)}
	for _, s := range x.Sub {
		words = append(words, told(s))
	}
	return "(" + strings.Join(words, " ") + ")"
}

// under lays so many binders above a term, functions and types of functions in turn.
func under(binders int, x api.Term) api.Term {
	for i := range binders {
		if i%2 == 0 {
			x = term.Lam(set, x)
		} else {
			x = term.Pi(set, x)
		}
	}
	return x
}

// deep is an application of so many levels, x at its lowest.
func deep(levels int, x api.Term) api.Term {
	for range levels - 1 {
		x = term.App(set, x)
	}
	return x
}

// bush is a term of n nodes that is not deep, its ends x, or eliminators.
func bush(n int, x api.Term) api.Term {
	switch n {
	case 1:
		return x
	case 2:
		return term.Elim(0, 0)
	}
	return term.App(bush((n-1)/2, x), bush(n-1-(n-1)/2, x))
}

// endless is a term that stands within its own Subs.
func endless() api.Term {
	x := term.Pi(set, set)
	x.Sub[0], x.Sub[1] = x, x
	return x
}

// unshaped are terms that are not shaped: for a node's number, its Subs, or for what is too great, or too deep.
func unshaped() []api.Term {
	node := func(kind, n int, subs ...api.Term) api.Term { return api.Term{Kind: kind, N: n, Sub: subs} }
	wrong := []api.Term{
		{}, node(9, 0), node(-1, 0), node(math.MaxInt, 0, set), node(0, 0, set, set), node(9, 0, set, set),
		term.Var(-1), term.Var(most + 1), term.Var(math.MinInt), term.Var(math.MaxInt), node(api.KVar, 0, set), node(api.KVar, 5, set, set),
		term.Sort(-1), term.Sort(api.MaxLevel + 1), node(api.KSort, 0, set), term.Const(-1), term.Const(most + 1), node(api.KConst, 0, set), term.Free(-1), term.Free(most + 1), node(api.KFree, 0, set),
		node(api.KElim, 0), node(api.KElim, 0, term.Var(0)), node(api.KElim, 0, set, set), term.Elim(-1, 0), term.Elim(most+1, 0), term.Elim(0, -1), term.Elim(0, api.MaxLevel+1),
		bush(api.MaxNodes+1, set), bush(api.MaxNodes+2, term.Var(9)), under(api.MaxDepth, set), under(1000, term.Var(0)), deep(api.MaxDepth+1, term.Var(0)), under(api.MaxDepth-1, term.Elim(0, 0)), endless(), term.App(set, endless()),
	}
	for _, kind := range []int{api.KPi, api.KLam, api.KApp} {
		wrong = append(wrong, node(kind, 1, set, set), node(kind, -1, set, set), node(kind, 0), node(kind, 0, set), node(kind, 0, set, set, set), node(kind, 0, set, api.Term{}), node(kind, 0, api.Term{}, set))
	}
	return wrong
}

// asks holds what a call answered against what it must: beside an error, the zero term.
func asks(t *testing.T, call string, got, want api.Term, e, wantE api.Errno) {
	t.Helper()
	if e != wantE || !reflect.DeepEqual(got, want) {
		t.Errorf("%s: %s, %v, not %s, %v", call, told(got), e, told(want), wantE)
	}
}

// errs asks for an error, and the zero term beside it.
func errs(t *testing.T, call string, got api.Term, e, wantE api.Errno) {
	t.Helper()
	asks(t, call, got, api.Term{}, e, wantE)
}

// terms are a list of some.
func terms(l ...api.Term) []api.Term { return l }

func TestMany(t *testing.T) { // P9.1
	v, f, app, lam, pi := term.Var, term.Free, term.App, term.Lam, term.Pi
	a, b := f(5), term.Const(6)
	for i, c := range []struct {
		t    api.Term
		l    []api.Term
		want api.Term
	}{
		{v(0), nil, v(0)}, {v(7), nil, v(7)}, {lam(v(0), v(1)), terms(), lam(v(0), v(1))}, {f(3), nil, f(3)},
		{v(0), terms(a, b), a}, {v(1), terms(a, b), b}, {v(2), terms(a, b), v(0)}, {v(3), terms(a, b), v(1)}, {v(0), terms(a), a}, {v(1), terms(a), v(0)}, {v(2), terms(a), v(1)},
		{set, terms(a), set}, {term.Const(0), terms(a), term.Const(0)}, {term.Elim(0, 1), terms(a), term.Elim(0, 1)}, {f(0), terms(a), f(0)}, {f(5), terms(b), f(5)},
		{v(0), terms(v(0)), v(0)}, {v(0), terms(v(1), v(0)), v(1)}, {v(1), terms(v(1), v(0)), v(0)}, {v(2), terms(v(1), v(0)), v(0)}, {app(v(0), v(1)), terms(v(1), v(0)), app(v(1), v(0))}, {app(v(1), v(0)), terms(v(9), v(8)), app(v(8), v(9))},
		{lam(v(0), v(0)), terms(a), lam(a, v(0))}, {lam(v(0), v(1)), terms(v(2)), lam(v(2), v(3))}, {lam(v(1), v(2)), terms(v(2)), lam(v(0), v(1))}, {lam(v(2), v(3)), terms(a, b), lam(v(0), v(1))}, {lam(v(1), v(2)), terms(a, v(4)), lam(v(4), v(5))},
		{pi(v(0), v(0)), terms(a), pi(a, v(0))}, {pi(v(0), v(1)), terms(v(2)), pi(v(2), v(3))}, {pi(v(1), v(2)), terms(v(2)), pi(v(0), v(1))}, {pi(v(2), v(3)), terms(a, b), pi(v(0), v(1))}, {pi(v(1), v(2)), terms(a, v(4)), pi(v(4), v(5))},
		{lam(set, pi(v(1), v(2))), terms(v(3)), lam(set, pi(v(4), v(5)))}, {pi(set, lam(v(2), v(3))), terms(v(3)), pi(set, lam(v(1), v(2)))}, {lam(set, pi(v(0), v(1))), terms(v(3)), lam(set, pi(v(0), v(1)))},
		{lam(set, v(1)), terms(lam(v(0), app(v(0), v(1)))), lam(set, lam(v(1), app(v(0), v(2))))}, {pi(set, pi(set, app(v(2), v(3)))), terms(pi(v(1), v(2)), lam(f(0), v(0))), pi(set, pi(set, app(pi(v(3), v(4)), lam(f(0), v(0)))))},
		{app(v(0), v(1)), terms(a), app(a, v(0))}, {lam(b, v(1)), terms(v(4)), lam(b, v(5))}, // the chapter's examples
		{app(v(0), app(v(0), v(0))), terms(app(a, v(0))), app(app(a, v(0)), app(app(a, v(0)), app(a, v(0))))},
	} {
		got, e := Many(c.t, c.l)
		asks(t, strconv.Itoa(i), got, c.want, e, api.OK)
		if len(c.l) == 1 {
			got, e := One(c.t, c.l[0])
			asks(t, strconv.Itoa(i)+": One", got, c.want, e, api.OK)
			got, e = At(c.t, c.l[0], 0)
			asks(t, strconv.Itoa(i)+": At", got, c.want, e, api.OK)
		}
		if len(c.l) == 1 && c.l[0].Kind == api.KFree {
			got, e := Open(c.t, c.l[0].N)
			asks(t, strconv.Itoa(i)+": Open", got, c.want, e, api.OK)
		}
	}
}

func TestAt(t *testing.T) { // P9.1
	v, f, app, lam, pi := term.Var, term.Free, term.App, term.Lam, term.Pi
	for i, c := range []struct {
		t, a api.Term
		n    int
		want api.Term
	}{
		{v(0), f(1), 0, f(1)}, {v(1), f(1), 0, v(0)}, {v(0), f(1), 1, v(0)}, {v(1), f(1), 1, f(1)}, {v(2), f(1), 1, v(1)}, {v(3), f(1), 4, v(3)}, {v(4), f(1), 4, f(1)}, {v(5), f(1), 4, v(4)},
		{v(0), v(0), 0, v(0)}, {v(1), v(0), 1, v(1)}, {v(1), v(2), 1, v(3)}, {v(4), v(2), 4, v(6)}, {v(4), lam(v(0), app(v(0), v(1))), 4, lam(v(4), app(v(0), v(5)))},
		{set, v(0), 0, set}, {f(1), v(0), 1, f(1)}, {f(0), v(0), 0, f(0)}, {f(2), v(0), 1, f(2)}, {term.Const(1), v(0), 1, term.Const(1)}, {term.Elim(1, 1), v(0), 1, term.Elim(1, 1)},
		{lam(v(1), v(0)), v(3), 1, lam(v(4), v(0))}, {lam(v(0), v(1)), v(3), 1, lam(v(0), v(1))}, {lam(v(1), v(2)), v(3), 1, lam(v(4), v(5))}, {lam(v(2), v(3)), v(3), 1, lam(v(1), v(2))}, {lam(v(0), v(1)), v(3), 0, lam(v(3), v(4))},
		{pi(v(1), v(0)), v(3), 1, pi(v(4), v(0))}, {pi(v(0), v(1)), v(3), 1, pi(v(0), v(1))}, {pi(v(1), v(2)), v(3), 1, pi(v(4), v(5))}, {pi(v(2), v(3)), v(3), 1, pi(v(1), v(2))}, {pi(v(0), v(1)), v(3), 0, pi(v(3), v(4))},
		{pi(set, lam(v(3), v(4))), v(1), 2, pi(set, lam(v(4), v(5)))}, {pi(set, lam(v(2), v(3))), v(1), 2, pi(set, lam(v(2), v(3)))}, {pi(set, lam(v(4), v(5))), v(1), 2, pi(set, lam(v(3), v(4)))}, {pi(set, lam(v(0), v(1))), v(1), 0, pi(set, lam(v(0), v(1)))},
		{app(app(v(0), v(1)), app(v(2), v(3))), app(v(0), v(1)), 2, app(app(v(0), v(1)), app(app(v(2), v(3)), v(2)))},
		{v(most), f(0), most, f(0)}, {v(most), v(0), most, v(most)}, {v(most - 1), f(0), most, v(most - 1)}, {v(most), v(0), most - 1, v(most - 1)}, {v(0), v(most), most, v(0)}, {set, v(most), most, set}, {under(3, v(most)), f(0), most - 3, under(3, f(0))}, {under(3, v(most)), f(0), most, under(3, v(most))},
	} {
		got, e := At(c.t, c.a, c.n)
		asks(t, strconv.Itoa(i), got, c.want, e, api.OK)
	}
}

func TestNamed(t *testing.T) { // P9.1
	v, f, app, lam, pi := term.Var, term.Free, term.App, term.Lam, term.Pi
	for i, c := range []struct {
		t, a api.Term
		n    int
		want api.Term
	}{
		{f(0), v(0), 0, v(0)}, {f(0), v(3), 0, v(3)}, {f(1), v(3), 0, f(1)}, {f(0), v(3), 1, f(0)}, {f(0), f(1), 0, f(1)}, {f(0), f(0), 0, f(0)}, {f(most), v(2), most, v(2)}, {f(most), v(2), most - 1, f(most)}, {f(most - 1), v(2), most, f(most - 1)},
		{v(0), f(1), 0, v(0)}, {v(2), f(1), 2, v(2)}, {v(3), f(1), 2, v(3)}, {v(most), f(1), most, v(most)}, {set, f(1), 0, set}, {term.Const(4), f(1), 4, term.Const(4)}, {term.Elim(4, 4), f(1), 4, term.Elim(4, 4)},
		{lam(f(4), v(0)), v(2), 4, lam(v(2), v(0))}, {lam(v(0), f(4)), v(2), 4, lam(v(0), v(3))}, {lam(f(4), f(4)), v(0), 4, lam(v(0), v(1))}, {lam(f(4), app(v(0), f(4))), v(0), 4, lam(v(0), app(v(0), v(1)))},
		{pi(f(4), v(0)), v(2), 4, pi(v(2), v(0))}, {pi(v(0), f(4)), v(2), 4, pi(v(0), v(3))}, {pi(f(4), f(4)), v(0), 4, pi(v(0), v(1))}, {pi(f(4), app(v(0), f(4))), v(0), 4, pi(v(0), app(v(0), v(1)))},
		{pi(set, lam(f(4), f(4))), v(0), 4, pi(set, lam(v(1), v(2)))}, {pi(set, lam(v(1), app(v(2), f(4)))), lam(v(0), app(v(0), v(1))), 4, pi(set, lam(v(1), app(v(2), lam(v(2), app(v(0), v(3))))))},
		{app(f(1), app(f(2), f(1))), f(2), 1, app(f(2), app(f(2), f(2)))}, {app(f(1), f(2)), app(f(2), f(1)), 1, app(app(f(2), f(1)), f(2))}, // what came in is not gone over again
		{under(3, app(f(0), v(most))), v(most - 3), 0, under(3, app(v(most), v(most)))},
	} {
		got, e := Named(c.t, c.a, c.n)
		asks(t, strconv.Itoa(i), got, c.want, e, api.OK)
	}
}

func TestBind(t *testing.T) { // P9.1
	v, f, app, lam, pi := term.Var, term.Free, term.App, term.Lam, term.Pi
	for i, c := range []struct {
		t    api.Term
		n    int
		want api.Term
	}{
		{f(0), 0, v(0)}, {f(1), 0, f(1)}, {f(0), 1, f(0)}, {f(most), most, v(0)}, {f(most), most - 1, f(most)}, {f(0), most, f(0)}, {v(0), 0, v(1)}, {v(3), 3, v(4)}, {v(3), 0, v(4)}, {v(most - 1), 0, v(most)}, {v(most - 1), most, v(most)},
		{set, 0, set}, {term.Const(4), 4, term.Const(4)}, {term.Elim(4, 4), 4, term.Elim(4, 4)},
		{app(f(2), app(v(0), f(3))), 2, app(v(0), app(v(1), f(3)))}, {app(f(2), f(2)), 2, app(v(0), v(0))},
		{lam(f(2), v(0)), 2, lam(v(0), v(0))}, {lam(v(0), f(2)), 2, lam(v(1), v(1))}, {lam(f(2), app(v(0), app(v(1), f(2)))), 2, lam(v(0), app(v(0), app(v(2), v(1))))}, {lam(f(2), app(v(0), app(v(1), f(2)))), 0, lam(f(2), app(v(0), app(v(2), f(2))))},
		{pi(f(2), v(0)), 2, pi(v(0), v(0))}, {pi(v(0), f(2)), 2, pi(v(1), v(1))}, {pi(f(2), app(v(0), app(v(1), f(2)))), 2, pi(v(0), app(v(0), app(v(2), v(1))))}, {pi(f(2), app(v(0), app(v(1), f(2)))), 0, pi(f(2), app(v(0), app(v(2), f(2))))},
		{pi(f(1), lam(f(1), app(app(v(0), v(1)), app(v(2), f(1))))), 1, pi(v(0), lam(v(1), app(app(v(0), v(1)), app(v(3), v(2)))))},
		{under(3, app(f(0), v(most-1))), 0, under(3, app(v(3), v(most)))},
	} {
		got, e := Bind(c.t, c.n)
		asks(t, strconv.Itoa(i), got, c.want, e, api.OK)
	}
}

func TestOpen(t *testing.T) { // P9.1
	v, f, app, lam, pi := term.Var, term.Free, term.App, term.Lam, term.Pi
	for i, c := range []struct {
		t    api.Term
		n    int
		want api.Term
	}{
		{v(0), 0, f(0)}, {v(0), 3, f(3)}, {v(0), most, f(most)}, {v(1), 3, v(0)}, {v(most), most, v(most - 1)}, {f(3), 3, f(3)}, {f(2), 3, f(2)}, {set, 0, set},
		{lam(v(0), app(v(0), app(v(1), v(2)))), 7, lam(f(7), app(v(0), app(f(7), v(1))))}, {pi(v(0), app(v(0), app(v(1), v(2)))), 7, pi(f(7), app(v(0), app(f(7), v(1))))}, {pi(set, lam(v(1), app(v(2), v(3)))), 7, pi(set, lam(f(7), app(f(7), v(2))))},
	} {
		got, e := Open(c.t, c.n)
		asks(t, strconv.Itoa(i), got, c.want, e, api.OK)
	}
}

// calls tells what each call answers that puts a in the place of loose variable n or named variable n; Many of a list in which a stands behind n others; and the calls without a.
func calls(x, a api.Term, n int, tell func(call string, got api.Term, e api.Errno)) {
	with := "(" + told(x) + ", " + told(a) + ", " + strconv.Itoa(n) + ")"
	got, e := At(x, a, n)
	tell("At"+with, got, e)
	got, e = Named(x, a, n)
	tell("Named"+with, got, e)
	got, e = Bind(x, n)
	tell("Bind"+with, got, e)
	got, e = Open(x, n)
	tell("Open"+with, got, e)
	if n < 0 || n > 5 {
		return
	}
	got, e = Many(x, append(slices.Repeat(terms(set), n), a))
	tell("Many"+with, got, e)
	if n == 0 {
		got, e = One(x, a)
		tell("One"+with, got, e)
	}
}

// TestShape gives each call what is not shaped, and numbers that can't be, with and without what would err else.
func TestShape(t *testing.T) { // P9.1
	fine := terms(set, term.Var(0), term.Var(most), under(3, term.Var(4)), bush(api.MaxNodes, term.Var(0)), bush(api.MaxNodes, term.Free(0)), term.Free(0))
	for _, bad := range unshaped() {
		for _, n := range []int{0, 1, 5, most} {
			for _, a := range fine {
				for _, x := range terms(bad, term.App(bad, term.Var(0)), term.App(term.Var(most), bad), term.Lam(set, bad), term.Pi(bad, term.Var(1)), term.App(term.Var(0), term.App(bad, set))) {
					calls(x, a, n, func(call string, got api.Term, e api.Errno) { errs(t, call, got, e, api.ErrShape) })
				}
				calls(a, bad, n, func(call string, got api.Term, e api.Errno) { // as what is put in, also where it would not be
					if !strings.HasPrefix(call, "Bind") && !strings.HasPrefix(call, "Open") {
						errs(t, call, got, e, api.ErrShape)
					}
				})
			}
		}
		for _, l := range [][]api.Term{{bad}, {bad, set}, {set, bad}, {set, set, bad, set}, {bad, bad}} {
			for _, x := range append(fine, bad) {
				got, e := Many(x, l)
				errs(t, told(x), got, e, api.ErrShape)
			}
		}
	}
	for _, x := range append(fine, api.Term{}, endless()) {
		for _, a := range append(fine, api.Term{}) {
			for _, n := range beyond {
				calls(x, a, n, func(call string, got api.Term, e api.Errno) { errs(t, call, got, e, api.ErrShape) })
			}
		}
	}
}

// TestGreatest puts in what makes a variable just MaxFree, and what makes it one more.
func TestGreatest(t *testing.T) { // P9.1
	v, f := term.Var, term.Free
	for _, binders := range []int{0, 1, 2, 3, api.MaxDepth - 1} {
		edge := most - binders
		for _, n := range []int{0, 1, 2, edge - 1, edge} {
			x := under(binders, v(n+binders))
			for _, m := range []int{0, edge - n - 1, edge - n, edge - n + 1, most} {
				if m < 0 || m > most {
					continue
				}
				got, e := At(x, v(m), n)
				call := "At beneath " + strconv.Itoa(binders) + " at " + strconv.Itoa(n) + " of " + strconv.Itoa(m)
				if m+n > edge {
					errs(t, call, got, e, api.ErrLong)
				} else {
					asks(t, call, got, under(binders, v(m+n+binders)), e, api.OK)
				}
			}
		}
		for _, m := range []int{0, 1, edge - 1, edge, edge + 1, most} {
			if m > most {
				continue
			}
			many, e1 := Many(under(binders, v(binders+1)), terms(set, v(m)))
			one, e2 := One(under(binders, v(binders)), v(m))
			name, e3 := Named(under(binders, f(9)), v(m), 9)
			for i, got := range terms(many, one, name) {
				e := []api.Errno{e1, e2, e3}[i]
				call := strconv.Itoa(m) + " beneath " + strconv.Itoa(binders)
				if m > edge {
					errs(t, call, got, e, api.ErrLong)
				} else {
					asks(t, call, got, under(binders, v(m+binders)), e, api.OK)
				}
			}
		}
		got, e := Bind(under(binders, v(most)), 0)
		errs(t, "Bind, a variable of MaxFree", got, e, api.ErrLong)
		got, e = Bind(under(binders, v(most-1)), 0)
		asks(t, "Bind, a variable of one less", got, under(binders, v(most)), e, api.OK)
	}
	for _, kind := range []int{api.KPi, api.KLam, api.KApp} { // one variable too great, in each Sub
		for i := range 2 {
			x := api.Term{Kind: kind, Sub: terms(f(0), f(0))}
			x.Sub[i] = v(most)
			got, e := Bind(x, 0)
			errs(t, told(x), got, e, api.ErrLong)
		}
	}
	got, e := Bind(under(api.MaxDepth-1, v(api.MaxDepth-2)), 0) // bound ones stay
	asks(t, "bound", got, under(api.MaxDepth-1, v(api.MaxDepth-2)), e, api.OK)
	got, e = One(term.Lam(v(1), v(most)), term.Lam(v(most), v(0))) // what would be too great, but comes nowhere
	asks(t, "nowhere", got, term.Lam(v(0), v(most-1)), e, api.OK)
}

// edges tells what each call answers that puts a in, as it stands in place(end), where end is the variable that a is put in for.
func edges(place func(end api.Term) api.Term, a api.Term, tell func(call string, got api.Term, e api.Errno)) {
	v, f := term.Var, term.Free
	got, e := Many(place(v(0)), terms(a, set))
	tell("Many", got, e)
	got, e = One(place(v(0)), a)
	tell("One", got, e)
	got, e = At(place(v(3)), a, 3)
	tell("At", got, e)
	got, e = Named(place(f(3)), a, 3)
	tell("Named", got, e)
}

// TestNodes asks for results of just MaxNodes nodes and one more.
func TestNodes(t *testing.T) { // P9.1
	c := term.Const(1)
	for _, put := range []int{1, 2, 3, 100, api.MaxNodes - 3, api.MaxNodes - 2, api.MaxNodes - 1, api.MaxNodes} {
		a := bush(put, c)
		for _, more := range []int{0, 1, 2} {
			rest := api.MaxNodes - put - 1 + more
			if rest < 1 || rest+2 > api.MaxNodes { // not shaped, whatever is put in
				continue
			}
			for _, place := range []func(end api.Term) api.Term{
				func(end api.Term) api.Term { return term.App(end, bush(rest, c)) },
				func(end api.Term) api.Term { return term.App(bush(rest, c), end) },
			} {
				edges(place, a, func(call string, got api.Term, e api.Errno) {
					if more > 0 {
						errs(t, call, got, e, api.ErrLong)
					} else {
						asks(t, call, got, place(a), e, api.OK)
					}
				})
			}
		}
	}
	for _, c := range []struct {
		ends, put int
		e         api.Errno
	}{
		{4096, 1, api.OK}, {4096, 2, api.ErrLong}, {2048, 3, api.OK}, {2048, 4, api.ErrLong}, {1024, 7, api.OK}, {1024, 8, api.ErrLong}, {64, 127, api.OK}, {64, 128, api.ErrLong}, {2, 4095, api.OK}, {2, 4096, api.ErrLong}, {4096, 8192, api.ErrLong},
	} { // at many places at once, in all 2 * ends - 1 nodes
		a := bush(c.put, set)
		place := func(end api.Term) api.Term { return bush(2*c.ends-1, end) }
		edges(place, a, func(call string, got api.Term, e api.Errno) {
			if c.e == api.OK {
				asks(t, call, got, place(a), e, api.OK)
			} else {
				errs(t, call, got, e, c.e)
			}
		})
	}
	for _, x := range terms(bush(api.MaxNodes, term.Var(5)), bush(api.MaxNodes, term.Free(5))) { // a variable for a variable takes no more room
		calls(x, term.Const(3), 5, func(call string, got api.Term, e api.Errno) {
			if e != api.OK || term.Size(got) != api.MaxNodes {
				t.Errorf("%s: %s, %v", call, told(got), e)
			}
		})
	}
}

// TestDepth asks for results of just MaxDepth levels and one more.
func TestDepth(t *testing.T) { // P9.1
	for _, above := range []int{0, 1, 2, 64, api.MaxDepth - 2, api.MaxDepth - 1} {
		for _, more := range []int{0, 1, 2} {
			levels := api.MaxDepth - above + more
			if levels > api.MaxDepth {
				continue
			}
			a := deep(levels, term.Const(1))
			for _, place := range []func(end api.Term) api.Term{
				func(end api.Term) api.Term { return deep(above+1, end) },
				func(end api.Term) api.Term {
					for range above {
						end = term.Pi(end, set)
					}
					return end
				},
			} {
				edges(place, a, func(call string, got api.Term, e api.Errno) {
					if more > 0 {
						errs(t, call, got, e, api.ErrLong)
					} else {
						asks(t, call, got, place(a), e, api.OK)
					}
				})
			}
		}
	}
	x := under(api.MaxDepth-1, term.Var(api.MaxDepth-1))
	got, e := One(x, term.Var(7))
	asks(t, "beneath binders, a variable", got, under(api.MaxDepth-1, term.Var(api.MaxDepth+6)), e, api.OK)
	got, e = One(x, term.Elim(0, 0))
	errs(t, "beneath binders, an eliminator", got, e, api.ErrLong)
	got, e = One(under(api.MaxDepth-2, term.Var(api.MaxDepth-2)), term.Elim(0, 0))
	asks(t, "one level higher", got, under(api.MaxDepth-2, term.Elim(0, 0)), e, api.OK)
}

// TestOrder has what is not shaped beside what would be too great.
func TestOrder(t *testing.T) { // P9.1
	great, bad := bush(api.MaxNodes, set), term.Var(-1)
	x := term.App(term.Var(0), term.App(term.Var(1), term.Free(2)))
	got, e := Many(x, terms(great, bad))
	errs(t, "Many", got, e, api.ErrShape)
	got, e = Many(term.App(x, bad), terms(great, great))
	errs(t, "Many", got, e, api.ErrShape)
	got, e = Many(x, terms(great, set))
	errs(t, "Many", got, e, api.ErrLong)
	got, e = Many(x, terms(set, great))
	errs(t, "Many", got, e, api.ErrLong)
	got, e = Many(x, terms(set, set, great))
	asks(t, "Many, the great one nowhere", got, term.App(set, term.App(set, term.Free(2))), e, api.OK)
	got, e = At(x, great, most+1)
	errs(t, "At", got, e, api.ErrShape)
	got, e = Named(x, great, -1)
	errs(t, "Named", got, e, api.ErrShape)
	got, e = Bind(term.App(x, term.Var(most)), -1)
	errs(t, "Bind", got, e, api.ErrShape)
}

func TestAll(t *testing.T) { // P9.1
	v, f := term.Var, term.Free
	great := bush(api.MaxNodes, set)
	for i, c := range []struct {
		ts, l, want []api.Term
		e           api.Errno
	}{
		{nil, nil, nil, api.OK}, {terms(), terms(set), nil, api.OK}, {nil, terms(great, great), nil, api.OK}, {terms(v(0)), nil, terms(v(0)), api.OK}, {terms(v(0)), terms(f(1)), terms(f(1)), api.OK},
		{terms(v(0), v(1), v(2), v(3)), terms(f(1), v(5)), terms(f(1), v(5), v(0), v(1)), api.OK}, {terms(v(1), term.Lam(v(0), v(2)), v(1), set), terms(f(1), v(5)), terms(v(5), term.Lam(f(1), v(6)), v(5), set), api.OK},
		{terms(v(0), term.App(v(0), set)), terms(great), nil, api.ErrLong}, {terms(v(0), term.App(v(0), set), v(-1)), terms(great), nil, api.ErrLong}, {terms(v(0), v(-1), term.App(v(0), set)), terms(great), nil, api.ErrShape}, {terms(term.App(v(0), set), v(0)), terms(great), nil, api.ErrLong}, {terms(v(0), v(0)), terms(great), terms(great, great), api.OK},
		{terms(v(0), v(-1)), terms(set), nil, api.ErrShape}, {terms(v(-1), v(0)), terms(set), nil, api.ErrShape}, {terms(set), terms(v(-1)), nil, api.ErrShape}, {terms(set, set), terms(set, v(-1)), nil, api.ErrShape}, {terms(term.App(v(0), set)), terms(great, v(-1)), nil, api.ErrShape}, {terms(api.Term{}), nil, nil, api.ErrShape},
		{terms(term.Lam(set, v(1)), v(0)), terms(v(most)), nil, api.ErrLong}, {terms(v(0), term.Lam(set, v(1))), terms(v(most)), nil, api.ErrLong}, {terms(v(0), v(most)), terms(v(most)), terms(v(most), v(most-1)), api.OK},
		{nil, terms(v(-1)), nil, api.OK}, // there is no first one that would err
	} {
		got, e := All(c.ts, c.l)
		if e != c.e || len(got) != len(c.want) || e != api.OK && got != nil || len(got) > 0 && !reflect.DeepEqual(got, c.want) {
			t.Errorf("%d: %d terms, %v", i, len(got), e)
		}
	}
	long := slices.Repeat(terms(term.Lam(set, v(1))), 20000) // as many of each
	all, e := All(long, slices.Repeat(terms(v(7)), 20000))
	if e != api.OK || len(all) != 20000 || slices.ContainsFunc(all, func(x api.Term) bool { return !term.Same(x, term.Lam(set, v(8))) }) {
		t.Errorf("%d terms, %v", len(all), e)
	}
}

// TestManyLong puts in lists that are longer than variables are many.
func TestManyLong(t *testing.T) { // P9.1, P9.2
	l := slices.Repeat(terms(term.Const(1)), most+3)
	l[most] = term.Const(2)
	for _, c := range []struct {
		t    api.Term
		n    int
		want api.Term
	}{
		{term.Var(most), most, term.Var(0)}, {term.Var(most), most + 1, term.Const(2)}, {term.Var(most), most + 3, term.Const(2)}, {term.Var(most - 1), most, term.Const(1)}, {under(2, term.Var(most)), most - 2, under(2, term.Var(2))}, {under(2, term.Var(most)), most + 3, under(2, term.Const(1))},
	} {
		got, e := Many(c.t, l[:c.n])
		asks(t, told(c.t), got, c.want, e, api.OK)
	}
	lifted, e := lift.Up(under(1, term.Var(1)), most-1)
	if e != api.OK {
		t.Fatal(e)
	}
	got, e := Many(lifted, l[:most-1])
	asks(t, "lifted", got, under(1, term.Var(1)), e, api.OK)
}
