package lift

import (
	"math"
	"reflect"
	"slices"
	"strconv"
	"strings"
	"testing"

	"scholium/api"
	"scholium/term"
)

const most = api.MaxFree

// beyond are numbers that are below 0, or above MaxFree.
var beyond = []int{math.MinInt, math.MinInt + most, -most, -1, most + 1, 2 * most, math.MaxInt - most, math.MaxInt}

// set is a term without variables.
var set = term.Sort(0)

// told writes a term, if it is not too great to be read.
func told(x api.Term) string {
	if term.Size(x) > 60 {
		return "a term of size " + strconv.Itoa(term.Size(x)) + ", depth " + strconv.Itoa(term.Depth(x))
	}
	words := []string{strconv.Itoa(x.Kind), strconv.Itoa(x.N)}
	for _, s := range x.Sub {
		words = append(words, told(s))
	}
	return "(" + strings.Join(words, " ") + ")"
}

// under lays so many binders above a term, functions and types of functions in turn.
func under(binders int, x api.Term) api.Term {
	for i := range binders {
		if i%2 == 0 {
			x = term.Lam(set, x)
		} else {
			x = term.Pi(set, x)
		}
	}
	return x
}

// bush is a term of n nodes that is not deep, its ends the variable v, or eliminators.
func bush(n, v int) api.Term {
	switch n {
	case 1:
		return term.Var(v)
	case 2:
		return term.Elim(0, 0)
	}
	return term.App(bush((n-1)/2, v), bush(n-1-(n-1)/2, v))
}

// endless is a term that stands within its own Subs.
func endless() api.Term {
	x := term.Pi(set, set)
	x.Sub[0], x.Sub[1] = x, x
	return x
}

// unshaped are terms that are not shaped: for a node's number, its Subs, or for what is too great, or too deep.
func unshaped() []api.Term {
	node := func(kind, n int, subs ...api.Term) api.Term { return api.Term{Kind: kind, N: n, Sub: subs} }
	wrong := []api.Term{
		{}, node(9, 0), node(-1, 0), node(math.MaxInt, 0, set), node(0, 0, set, set), node(9, 0, set, set),
		term.Var(-1), term.Var(most + 1), term.Var(math.MinInt), term.Var(math.MaxInt), node(api.KVar, 0, set), node(api.KVar, 5, set, set),
		term.Sort(-1), term.Sort(api.MaxLevel + 1), node(api.KSort, 0, set), term.Const(-1), term.Const(most + 1), node(api.KConst, 0, set), term.Free(-1), term.Free(most + 1), node(api.KFree, 0, set),
		node(api.KElim, 0), node(api.KElim, 0, term.Var(0)), node(api.KElim, 0, set, set), term.Elim(-1, 0), term.Elim(most+1, 0), term.Elim(0, -1), term.Elim(0, api.MaxLevel+1),
		bush(api.MaxNodes+1, 0), bush(api.MaxNodes+2, 9), under(api.MaxDepth, set), under(1000, term.Var(0)), under(api.MaxDepth-1, term.Elim(0, 0)), endless(), term.App(set, endless()),
	}
	for _, kind := range []int{api.KPi, api.KLam, api.KApp} {
		wrong = append(wrong, node(kind, 1, set, set), node(kind, -1, set, set), node(kind, 0), node(kind, 0, set), node(kind, 0, set, set, set), node(kind, 0, set, api.Term{}), node(kind, 0, api.Term{}, set))
	}
	return wrong
}

// asks holds what a call answered against what it must: beside an error, the zero term.
func asks(t *testing.T, call string, got, want api.Term, e, wantE api.Errno) {
	t.Helper()
	if e != wantE || !reflect.DeepEqual(got, want) {
		t.Errorf("%s: %s, %v, not %s, %v", call, told(got), e, told(want), wantE)
	}
}

// errs asks for an error, and the zero term beside it.
func errs(t *testing.T, call string, got api.Term, e, wantE api.Errno) {
	t.Helper()
	asks(t, call, got, api.Term{}, e, wantE)
}

func TestLift(t *testing.T) { // P8.1
	v, app := term.Var, term.App
	for i, c := range []struct {
		t    api.Term
		k, n int
		want api.Term
	}{
		{v(0), 0, 0, v(0)}, {v(0), 1, 0, v(1)}, {v(0), 2, 0, v(2)}, {v(0), 1, 1, v(0)}, {v(1), 1, 1, v(2)}, {v(2), 3, 1, v(5)}, {v(1), 3, 2, v(1)}, {v(4), 3, 4, v(7)}, {v(3), 3, 4, v(3)},
		{set, 3, 0, set}, {term.Const(2), 3, 0, term.Const(2)}, {term.Free(2), 3, 0, term.Free(2)}, {term.Elim(2, 1), 3, 0, term.Elim(2, 1)},
		{app(v(0), v(1)), 2, 0, app(v(2), v(3))}, {app(v(0), v(1)), 2, 1, app(v(0), v(3))}, {app(v(1), v(0)), 2, 1, app(v(3), v(0))}, {app(v(2), v(2)), 1, 2, app(v(3), v(3))},
		{term.Lam(v(0), v(0)), 2, 0, term.Lam(v(2), v(0))}, {term.Lam(v(0), v(1)), 2, 0, term.Lam(v(2), v(3))}, {term.Lam(v(1), v(1)), 2, 1, term.Lam(v(3), v(1))}, {term.Lam(v(1), v(2)), 2, 1, term.Lam(v(3), v(4))},
		{term.Pi(v(0), v(0)), 2, 0, term.Pi(v(2), v(0))}, {term.Pi(v(0), v(1)), 2, 0, term.Pi(v(2), v(3))}, {term.Pi(v(1), v(1)), 2, 1, term.Pi(v(3), v(1))}, {term.Pi(v(1), v(2)), 2, 1, term.Pi(v(3), v(4))},
		{term.Lam(set, term.Pi(v(0), v(1))), 1, 0, term.Lam(set, term.Pi(v(0), v(1)))}, {term.Lam(set, term.Pi(v(1), v(2))), 1, 0, term.Lam(set, term.Pi(v(2), v(3)))}, {term.Lam(set, term.Pi(v(2), v(3))), 5, 1, term.Lam(set, term.Pi(v(7), v(8)))},
		{term.Pi(term.Lam(v(0), v(1)), term.Lam(v(0), v(1))), 4, 0, term.Pi(term.Lam(v(4), v(5)), term.Lam(v(0), v(1)))}, {term.Pi(set, term.Pi(set, term.Pi(set, app(v(2), v(3))))), 9, 0, term.Pi(set, term.Pi(set, term.Pi(set, app(v(2), v(12)))))},
		{term.Lam(v(3), app(v(1), v(0))), 2, 0, term.Lam(v(5), app(v(3), v(0)))}, // the chapter's example
		{app(term.Elim(1, 2), term.Lam(term.Const(3), app(v(5), term.Free(6)))), 4, 4, app(term.Elim(1, 2), term.Lam(term.Const(3), app(v(9), term.Free(6))))},
	} {
		got, e := Lift(c.t, c.k, c.n)
		asks(t, strconv.Itoa(i), got, c.want, e, api.OK)
		if c.n == 0 {
			up, e := Up(c.t, c.k)
			asks(t, strconv.Itoa(i)+": Up", up, c.want, e, api.OK)
		}
		low, e := Lower(c.want, c.k, c.n)
		asks(t, strconv.Itoa(i)+": Lower", low, c.t, e, api.OK)
	}
}

// TestLiftLimit lifts a variable, beneath some binders, to MaxFree and just beyond.
func TestLiftLimit(t *testing.T) { // P8.1
	for _, binders := range []int{0, 1, 2, 3, api.MaxDepth - 1} {
		for _, k := range []int{0, 1, 2, most - binders, most - binders - 1, most} {
			for _, n := range []int{0, 1, 2, most - binders, most - binders - 1, most} {
				for _, m := range []int{0, 1, 2, most - binders - k - 1, most - binders - k, most - binders - k + 1, most - binders - 1, most - binders} {
					if m < 0 || m+binders > most {
						continue
					}
					x, want := under(binders, term.Var(m+binders)), m
					if m >= n {
						want += k
					}
					got, e := Lift(x, k, n)
					call := "loose " + strconv.Itoa(m) + " beneath " + strconv.Itoa(binders) + " by " + strconv.Itoa(k) + " above " + strconv.Itoa(n)
					if want+binders > most {
						errs(t, call, got, e, api.ErrLong)
					} else {
						asks(t, call, got, under(binders, term.Var(want+binders)), e, api.OK)
					}
				}
			}
		}
	}
	for _, kind := range []int{api.KPi, api.KLam, api.KApp} { // one variable too great, in each Sub
		for i := range 2 {
			x := api.Term{Kind: kind, Sub: []api.Term{term.Var(0), term.Var(0)}}
			x.Sub[i] = term.Var(most)
			got, e := Lift(x, 1, 0)
			errs(t, told(x), got, e, api.ErrLong)
			got, e = Up(x, 1)
			errs(t, told(x)+": Up", got, e, api.ErrLong)
		}
	}
	got, e := Up(under(api.MaxDepth-1, term.Var(api.MaxDepth-2)), most) // bound ones stay, whatever k is
	asks(t, "bound", got, under(api.MaxDepth-1, term.Var(api.MaxDepth-2)), e, api.OK)
}

func TestLower(t *testing.T) { // P8.1
	v, app := term.Var, term.App
	for i, c := range []struct {
		t    api.Term
		k, n int
		want api.Term
		e    api.Errno
	}{
		{v(0), 0, 0, v(0), api.OK}, {v(1), 0, 0, v(1), api.OK}, {v(0), 1, 0, api.Term{}, api.ErrScope}, {v(1), 1, 0, v(0), api.OK}, {v(2), 1, 0, v(1), api.OK},
		{v(2), 3, 3, v(2), api.OK}, {v(3), 3, 3, api.Term{}, api.ErrScope}, {v(4), 3, 3, api.Term{}, api.ErrScope}, {v(5), 3, 3, api.Term{}, api.ErrScope}, {v(6), 3, 3, v(3), api.OK}, {v(7), 3, 3, v(4), api.OK}, {v(0), 3, 3, v(0), api.OK},
		{app(v(5), v(0)), 2, 0, api.Term{}, api.ErrScope}, {app(v(0), v(5)), 2, 0, api.Term{}, api.ErrScope}, {app(v(0), v(5)), 2, 1, app(v(0), v(3)), api.OK},
		{term.Lam(v(0), v(1)), 1, 0, api.Term{}, api.ErrScope}, {term.Lam(v(1), v(0)), 1, 0, term.Lam(v(0), v(0)), api.OK}, {term.Lam(v(1), v(1)), 1, 0, api.Term{}, api.ErrScope}, {term.Lam(v(1), v(2)), 1, 0, term.Lam(v(0), v(1)), api.OK}, {term.Lam(v(0), v(0)), 1, 0, api.Term{}, api.ErrScope},
		{term.Pi(v(0), v(1)), 1, 0, api.Term{}, api.ErrScope}, {term.Pi(v(1), v(0)), 1, 0, term.Pi(v(0), v(0)), api.OK}, {term.Pi(v(1), v(1)), 1, 0, api.Term{}, api.ErrScope}, {term.Pi(v(1), v(2)), 1, 0, term.Pi(v(0), v(1)), api.OK}, {term.Pi(v(0), v(0)), 1, 0, api.Term{}, api.ErrScope},
		{term.Pi(set, term.Lam(v(1), v(2))), 2, 0, api.Term{}, api.ErrScope}, {term.Pi(set, term.Lam(v(1), v(3))), 2, 1, api.Term{}, api.ErrScope}, {term.Pi(set, term.Lam(v(1), v(2))), 2, 1, term.Pi(set, term.Lam(v(1), v(2))), api.OK}, {term.Pi(set, term.Lam(v(4), v(5))), 2, 1, term.Pi(set, term.Lam(v(2), v(3))), api.OK},
		{v(most), most, 0, v(0), api.OK}, {v(most - 1), most, 0, api.Term{}, api.ErrScope}, {v(most), most, 1, api.Term{}, api.ErrScope}, {v(0), most, 1, v(0), api.OK}, {v(most), most - 1, 1, v(1), api.OK}, {v(most), 1, most, api.Term{}, api.ErrScope},
		{v(most), 0, most, v(most), api.OK}, {v(most), most, most, api.Term{}, api.ErrScope}, {v(most - 1), most, most, v(most - 1), api.OK}, {v(most), 1, 0, v(most - 1), api.OK}, {v(most), 1, most - 1, v(most - 1), api.OK}, {v(most - 1), 1, most - 1, api.Term{}, api.ErrScope},
		{term.Lam(set, v(most)), most - 1, 0, term.Lam(set, v(1)), api.OK}, {term.Lam(set, v(most)), most, 0, api.Term{}, api.ErrScope}, {term.Lam(set, v(0)), most, 0, term.Lam(set, v(0)), api.OK},
	} {
		got, e := Lower(c.t, c.k, c.n)
		asks(t, strconv.Itoa(i), got, c.want, e, c.e)
	}
}

func TestSwap(t *testing.T) { // P8.1
	v, app := term.Var, term.App
	for i, c := range []struct {
		t    api.Term
		n    int
		want api.Term
		e    api.Errno
	}{
		{v(0), 0, v(1), api.OK}, {v(1), 0, v(0), api.OK}, {v(2), 0, v(2), api.OK}, {v(0), 1, v(0), api.OK}, {v(1), 1, v(2), api.OK}, {v(2), 1, v(1), api.OK}, {v(3), 1, v(3), api.OK},
		{app(v(0), v(1)), 0, app(v(1), v(0)), api.OK}, {app(v(1), app(v(1), v(0))), 0, app(v(0), app(v(0), v(1))), api.OK}, {set, 0, set, api.OK}, {term.Free(0), 0, term.Free(0), api.OK}, {term.Const(1), 0, term.Const(1), api.OK}, {term.Elim(1, 1), 0, term.Elim(1, 1), api.OK},
		{term.Lam(v(0), app(v(0), app(v(1), v(2)))), 0, term.Lam(v(1), app(v(0), app(v(2), v(1)))), api.OK}, {term.Pi(v(1), app(v(0), app(v(1), v(2)))), 0, term.Pi(v(0), app(v(0), app(v(2), v(1)))), api.OK}, {term.Lam(v(1), app(v(1), app(v(2), v(3)))), 1, term.Lam(v(2), app(v(1), app(v(3), v(2)))), api.OK},
		{term.Pi(set, term.Lam(v(1), app(app(v(0), v(1)), app(v(2), v(3))))), 0, term.Pi(set, term.Lam(v(2), app(app(v(0), v(1)), app(v(3), v(2))))), api.OK},
		{v(most), most - 1, v(most - 1), api.OK}, {v(most - 1), most - 1, v(most), api.OK}, {v(most - 2), most - 1, v(most - 2), api.OK}, {v(most), most - 2, v(most), api.OK}, {set, most - 1, set, api.OK},
		{v(most), most, api.Term{}, api.ErrLong}, {v(0), most, api.Term{}, api.ErrLong}, {set, most, api.Term{}, api.ErrLong},
		{term.Lam(set, v(most)), most - 2, term.Lam(set, v(most-1)), api.OK}, {term.Lam(set, v(most-1)), most - 2, term.Lam(set, v(most)), api.OK},
		{term.Lam(set, v(most)), most - 1, api.Term{}, api.ErrLong}, {term.Pi(set, v(most)), most - 1, api.Term{}, api.ErrLong}, {term.Lam(v(most), v(most-1)), most - 1, term.Lam(v(most-1), v(most-1)), api.OK}, // beneath a binder the variable would be above MaxFree
	} {
		got, e := Swap(c.t, c.n)
		asks(t, strconv.Itoa(i), got, c.want, e, c.e)
	}
}

// TestShape gives each call what is not shaped, and numbers that can't be, with and without what would err else.
func TestShape(t *testing.T) { // P8.1
	for _, bad := range unshaped() {
		for _, x := range []api.Term{bad, term.App(bad, term.Var(0)), term.App(term.Var(most), bad), term.Lam(set, bad), term.Pi(bad, term.Var(1)), term.App(term.Var(0), term.App(bad, set))} {
			for _, k := range []int{0, 1, most} {
				for _, n := range []int{0, 1, most} {
					each(x, k, n, func(call string, got api.Term, e api.Errno) { errs(t, call, got, e, api.ErrShape) })
				}
			}
		}
	}
	for _, x := range []api.Term{set, term.Var(0), term.Var(most), under(3, term.Var(4)), {}, endless()} {
		for _, bad := range beyond {
			for _, n := range append(slices.Clone(beyond), 0, 1, most) {
				each(x, bad, n, func(call string, got api.Term, e api.Errno) {
					if !strings.HasPrefix(call, "Swap") || slices.Contains(beyond, n) || !term.Shaped(x) {
						errs(t, call, got, e, api.ErrShape)
					}
				})
				each(x, n, bad, func(call string, got api.Term, e api.Errno) {
					if !strings.HasPrefix(call, "Up") || slices.Contains(beyond, n) || !term.Shaped(x) {
						errs(t, call, got, e, api.ErrShape)
					}
				})
			}
		}
	}
}

// each tells what each call for one term answers.
func each(x api.Term, k, n int, tell func(call string, got api.Term, e api.Errno)) {
	with := "(" + told(x) + ", " + strconv.Itoa(k) + ", " + strconv.Itoa(n) + ")"
	got, e := Lift(x, k, n)
	tell("Lift"+with, got, e)
	got, e = Up(x, k)
	tell("Up"+with, got, e)
	got, e = Lower(x, k, n)
	tell("Lower"+with, got, e)
	got, e = Swap(x, n)
	tell("Swap"+with, got, e)
}

func TestAll(t *testing.T) { // P8.1
	v := term.Var
	for i, c := range []struct {
		l    []api.Term
		k, n int
		want []api.Term
		e    api.Errno
	}{
		{nil, 0, 0, nil, api.OK}, {nil, most, most, nil, api.OK}, {[]api.Term{}, 1, 0, nil, api.OK}, {[]api.Term{v(0)}, 1, 0, []api.Term{v(1)}, api.OK},
		{[]api.Term{v(0), v(1), v(2)}, 2, 1, []api.Term{v(0), v(3), v(4)}, api.OK}, {[]api.Term{v(2), term.Lam(v(0), v(1)), v(2), set}, 3, 0, []api.Term{v(5), term.Lam(v(3), v(4)), v(5), set}, api.OK}, {[]api.Term{v(1), v(1)}, 0, 0, []api.Term{v(1), v(1)}, api.OK},
		{[]api.Term{v(0), v(most)}, 1, 0, nil, api.ErrLong}, {[]api.Term{v(0), v(most), v(0)}, 1, 0, nil, api.ErrLong}, {[]api.Term{v(0), v(-1)}, 1, 0, nil, api.ErrShape}, {[]api.Term{v(0), v(most)}, 1, 1, nil, api.ErrLong},
		{[]api.Term{v(most), v(-1)}, 1, 0, nil, api.ErrLong}, {[]api.Term{v(-1), v(most)}, 1, 0, nil, api.ErrShape}, {[]api.Term{{}}, 1, 0, nil, api.ErrShape}, {[]api.Term{v(most), set}, 1, 0, nil, api.ErrLong},
		{[]api.Term{set}, -1, 0, nil, api.ErrShape}, {[]api.Term{set}, 0, -1, nil, api.ErrShape}, {[]api.Term{set, v(0)}, most + 1, 0, nil, api.ErrShape}, {[]api.Term{set, v(0)}, 0, most + 1, nil, api.ErrShape},
		{nil, -1, math.MaxInt, nil, api.OK}, // there is no first one that would err
	} {
		got, e := All(c.l, c.k, c.n)
		if e != c.e || len(got) != len(c.want) || e != api.OK && got != nil || len(got) > 0 && !reflect.DeepEqual(got, c.want) {
			t.Errorf("%d: %d terms, %v", i, len(got), e)
		}
	}
	many, e := All(slices.Repeat([]api.Term{term.Lam(set, v(1))}, 10000), 7, 0)
	if e != api.OK || len(many) != 10000 || slices.ContainsFunc(many, func(x api.Term) bool { return !term.Same(x, term.Lam(set, v(8))) }) {
		t.Errorf("%d terms, %v", len(many), e)
	}
}
