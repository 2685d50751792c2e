package tele

import (
	"reflect"
	"slices"
	"testing"

	"scholium/api"
	"scholium/lift"
	"scholium/subst"
	"scholium/term"
)

// kinds are few terms: of each kind, with variables of the types ahead of them, of their own, and from outside.
func kinds() []api.Term {
	v, f, app := term.Var, term.Free, term.App
	return terms(set, v(0), v(1), v(3), f(0), term.Elim(1, 2), app(v(0), app(v(1), v(2))), term.Lam(v(0), app(v(0), app(v(1), v(3)))), term.Pi(v(1), app(v(0), app(v(1), f(1)))))
}

// lists are all lists of at most n of some terms.
func lists(n int, of []api.Term) [][]api.Term {
	all := [][]api.Term{nil}
	for from := 0; n > 0; n-- {
		to := len(all)
		for _, l := range all[from:to] {
			for _, x := range of {
				all = append(all, append(slices.Clone(l), x))
			}
		}
		from = to
	}
	return all
}

// telescopes are many: all of up to 3 of the few terms, and some that are longer, or have great variables.
func telescopes() [][]api.Term {
	all := lists(3, kinds())
	for n := range api.MaxTele {
		var long []api.Term
		for i := range n + 1 {
			long = append(long, kinds()[(i*i+n)%len(kinds())])
		}
		all = append(all, long)
	}
	for _, m := range []int{most - 30, most - 2, most - 1, most} {
		all = append(all, terms(term.Var(m)), terms(set, term.Var(m), term.Var(1)), terms(term.Lam(set, term.Var(m)), term.Var(m)))
	}
	return all
}

// arguments are a few lists, those of few terms first.
func arguments() [][]api.Term {
	v, f, lam := term.Var, term.Free, term.Lam
	all := lists(2, terms(v(0), v(2), f(1), lam(v(0), term.App(v(0), v(1)))))
	return append(all, terms(v(1), lam(v(1), v(0)), v(4)), terms(v(most-1), v(0)), terms(v(0), v(most)), slices.Repeat(terms(v(1), f(2)), 10), terms(term.Pi(v(0), term.Pi(v(1), v(2))), term.Pi(set, set)))
}

// TestWholeOfPis takes apart what was put together.
func TestWholeOfPis(t *testing.T) { // P10.4
	put := 0
	for _, l := range telescopes() {
		for _, x := range kinds() {
			all, e := Pis(l, x)
			if e != api.OK {
				t.Fatalf("%s: %v", toldAll(l), e)
			}
			types, rest, e := Split(all, len(l))
			asks(t, "Split", rest, x, e, api.OK)
			asksAll(t, "Split", types, l, e, api.OK)
			again, e := Pis(types, rest)
			asks(t, "Pis of what Split told", again, all, e, api.OK)
			types, rest, e = Whole(all)
			switch {
			case x.Kind != api.KPi:
				asks(t, "Whole", rest, x, e, api.OK)
				asksAll(t, "Whole", types, l, e, api.OK)
			case len(l) < api.MaxTele: // it goes on
				asks(t, "Whole", rest, x.Sub[1], e, api.OK)
				asksAll(t, "Whole", types, append(slices.Clone(l), x.Sub[0]), e, api.OK)
			default:
				errs(t, "Whole", rest, e, api.ErrLong)
				errsAll(t, "Whole", types, e, api.ErrLong)
			}
			put++
		}
	}
	if put < 5000 {
		t.Errorf("%d were put together", put)
	}
}

// TestResultOfPis gives types of functions all their arguments.
func TestResultOfPis(t *testing.T) { // P10.5
	given := 0
	for _, l := range telescopes() {
		for _, args := range arguments() {
			if len(args) < len(l) {
				continue
			}
			for _, x := range append(kinds(), term.Var(len(l)), term.Var(len(l)+5), term.Lam(set, term.Var(len(l)))) {
				all, e := Pis(l, x)
				if e != api.OK {
					t.Fatalf("%s: %v", toldAll(l), e)
				}
				got, e := Result(all, args[:len(l)])
				want, e2 := Fill(x, args[:len(l)])
				if e != api.OK { // of a type ahead, or of what stands beneath all
					errs(t, "Result", got, e, api.ErrLong)
					continue
				}
				asks(t, "Fill", want, got, e2, api.OK)
				given++
			}
		}
	}
	if given < 10000 {
		t.Errorf("%d were given", given)
	}
}

// TestFillVars puts in for each variable of a telescope itself.
func TestFillVars(t *testing.T) { // P10.6
	filled := 0
	for _, x := range append(kinds(), term.Var(most-30), term.Lam(term.Var(24), term.Var(25)), bush(api.MaxNodes, term.Var(1)), deep(api.MaxDepth, term.Var(2)), under(api.MaxDepth-1, term.Var(api.MaxDepth))) {
		for _, n := range []int{0, 1, 2, 3, api.MaxTele, api.MaxTele + 1} {
			up, e := lift.Lift(x, n, n)
			if e != api.OK {
				t.Fatalf("%s: %v", told(x), e)
			}
			got, e := Fill(up, Vars(n))
			asks(t, "Fill", got, x, e, api.OK)
			for _, l := range [][]api.Term{sets(n), slices.Repeat(terms(x), n)} { // and each type of a telescope
				up, e := Lift(l, n, n)
				if e != api.OK {
					t.Fatalf("%s: %v", toldAll(l), e)
				}
				all, e := Put(up, Vars(n))
				asksAll(t, "Put", all, l, e, api.OK)
			}
			filled++
		}
	}
	if filled < 50 {
		t.Errorf("%d were filled", filled)
	}
}

// one gives types as one term: that of functions of all of them.
func one(t *testing.T, l []api.Term) api.Term {
	t.Helper()
	x, e := Pis(l, set)
	if e != api.OK {
		t.Fatalf("%s: %v", toldAll(l), e)
	}
	return x
}

// TestAsOne does with a telescope, type by type, what is done with it as one term, whose binders count themselves.
func TestAsOne(t *testing.T) { // P10.2, P10.3
	done := 0
	for _, l := range telescopes() {
		x := one(t, l)
		for _, k := range []int{0, 1, 3, 25} {
			for _, n := range []int{0, 1, 2, 4, 9} {
				want, e := lift.Lift(x, k, n)
				all, e2 := Lift(l, k, n)
				if e2 != e || e == api.OK && !term.Same(one(t, all), want) {
					t.Fatalf("%s lifted: %s, %v, not %s, %v", toldAll(l), toldAll(all), e2, told(want), e)
				}
				if got, want := Right(l, n, k), term.Right(x, n, k); got != want {
					t.Fatalf("%s, %d, %d: Right %v", toldAll(l), n, k, got)
				}
				done++
			}
		}
		for _, args := range arguments() {
			want, e := subst.Many(x, backwards(args))
			all, e2 := Put(l, args)
			liftable := true // all are lifted, wherever there is a type
			for _, a := range args {
				_, e := lift.Up(a, max(0, len(l)-1))
				liftable = liftable && e == api.OK
			}
			if !liftable {
				e = api.ErrLong
			}
			if e2 != e || e == api.OK && !term.Same(one(t, all), want) {
				t.Fatalf("%s with %s: %s, %v, not %s, %v", toldAll(l), toldAll(args), toldAll(all), e2, told(want), e)
			}
			done++
		}
	}
	if done < 20000 {
		t.Errorf("%d were done", done)
	}
}

// TestTypesAsOne holds what each argument's type must be against the type of the argument that is still to come.
func TestTypesAsOne(t *testing.T) { // P10.2
	asked := 0
	for _, l := range telescopes() {
		x := one(t, l)
		for _, args := range arguments() {
			if len(args) < len(l) {
				continue
			}
			args = args[:len(l)]
			all, e := Types(l, args)
			for place := range all {
				left, e := Result(x, args[:place])
				if e != api.OK {
					break // one that stands behind
				}
				if left.Kind != api.KPi || !reflect.DeepEqual(left.Sub[0], all[place]) {
					t.Fatalf("%s with %s: %s at %d", toldAll(l), toldAll(args), told(all[place]), place)
				}
				asked++
			}
			if e != api.OK {
				errsAll(t, "Types", all, e, api.ErrLong)
			}
		}
	}
	if asked < 5000 {
		t.Errorf("%d were asked", asked)
	}
}

// TestMuchTooGreat puts great terms in at very many places: what comes is refused long before it would be there.
func TestMuchTooGreat(t *testing.T) { // P10.2
	for range 20 {
		for _, a := range terms(bush(api.MaxNodes, term.Var(0)), under(100, bush(7000, term.Free(1)))) {
			filling(func(end api.Term) api.Term { return bush(api.MaxNodes-3, end) }, a, func(call string, got api.Term, e api.Errno) {
				errs(t, call, got, e, api.ErrLong)
			})
		}
	}
}
