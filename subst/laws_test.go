package subst

import (
	"slices"
	"testing"

	"scholium/api"
	"scholium/lift"
	"scholium/term"
)

// small are all terms of at most n nodes over a few nodes without Sub, and one eliminator.
func small(n int, ends ...api.Term) []api.Term {
	by := [][]api.Term{nil, ends, {term.Elim(1, 2)}}
	for size := 3; size <= n; size++ {
		var l []api.Term
		for left := 1; left < size-1; left++ {
			for _, a := range by[left] {
				for _, b := range by[size-1-left] {
					l = append(l, term.Pi(a, b), term.Lam(a, b), term.App(a, b))
				}
			}
		}
		by = append(by, l)
	}
	return slices.Concat(by[:n+1]...)
}

// samples are small terms, few of them of more nodes, and terms that are as great, as deep, or have variables as great as may be.
func samples() []api.Term {
	v, f := term.Var, term.Free
	l := small(5, v(0), v(1), v(2), v(3), f(0), f(1))
	l = append(l, small(6, v(0), v(1))...)
	for _, x := range []api.Term{v(0), v(1), v(3), v(most - api.MaxDepth), v(most - 1), v(most), f(0), f(1), f(most)} {
		l = append(l, x, under(1, x), under(2, x), term.Pi(x, x), term.Lam(x, term.Pi(x, x)), bush(api.MaxNodes, x), bush(api.MaxNodes-1, x))
		l = append(l, under(api.MaxDepth-1, x), under(api.MaxDepth-2, term.App(x, v(api.MaxDepth))), under(api.MaxDepth-5, bush(20, x)), deep(api.MaxDepth-1, term.Lam(x, x)))
	}
	return l
}

// puts are few terms to put in.
func puts() []api.Term {
	v, f := term.Var, term.Free
	return []api.Term{v(0), v(1), v(2), f(0), f(1), set, term.Elim(1, 2), term.App(v(0), v(1)), term.Lam(v(0), v(0)), term.Lam(v(0), v(1)), term.Pi(v(1), term.App(v(2), f(1))), term.Lam(f(0), term.Pi(v(1), term.App(v(0), v(3))))}
}

// telling tells node by node what a variable becomes that nothing binds, and counts on.
type telling func(v api.Term, at *int) []int

// listed tells a term node by node: a bound variable by the node that binds it, another one as becomes says. No number in it hangs on how many binders stand between.
func listed(x api.Term, above []int, at *int, becomes telling) []int {
	out := len(above) - 1 - x.N
	switch {
	case x.Kind == api.KFree:
		return becomes(x, at)
	case x.Kind == api.KVar && out < 0:
		return becomes(term.Var(-1-out), at)
	}
	*at++
	if x.Kind == api.KVar {
		return []int{x.Kind, 1, above[out]}
	}
	self, l := *at, []int{x.Kind, x.N, len(x.Sub)}
	for i, s := range x.Sub {
		if i == 1 && (x.Kind == api.KPi || x.Kind == api.KLam) {
			above = append(slices.Clone(above), self)
		}
		l = append(l, listed(s, above, at, becomes)...)
	}
	return l
}

// itself tells a variable, its number more by so many, if it is a loose one.
func itself(more int) telling {
	return func(v api.Term, at *int) []int {
		*at++
		if v.Kind == api.KVar {
			v.N += more
		}
		return []int{v.Kind, 0, v.N}
	}
}

// as tells a term in a variable's place, its own loose variables more by so many.
func as(a api.Term, more int) telling {
	return func(_ api.Term, at *int) []int { return listed(a, nil, at, itself(more)) }
}

// holds holds what came against what a term is, once its variables became what pick says of each.
func holds(t *testing.T, call string, x, got api.Term, e api.Errno, pick func(v api.Term) telling) {
	t.Helper()
	want := listed(x, nil, new(int), func(v api.Term, at *int) []int { return pick(v)(v, at) })
	if e != api.OK || !term.Shaped(got) || !slices.Equal(listed(got, nil, new(int), itself(0)), want) {
		t.Fatalf("%s of %s: %s, %v", call, told(x), told(got), e)
	}
}

// TestAsWords holds what comes against what is reckoned from the chapter's words.
func TestAsWords(t *testing.T) { // P9.1
	for _, x := range small(5, term.Var(0), term.Var(1), term.Var(2), term.Free(0), term.Free(1)) {
		for i, a := range puts() {
			b := puts()[(i*5+1)%len(puts())]
			for n := range 3 {
				loosePut(t, x, a, n)
				namedPut(t, x, a, n)
			}
			for _, l := range [][]api.Term{nil, {a}, {a, b}, {b, a, b}} {
				got, e := Many(x, l)
				pick := func(v api.Term) telling {
					if v.Kind == api.KVar && v.N < len(l) {
						return as(l[v.N], 0)
					}
					return itself(-len(l))
				}
				holds(t, "Many", x, got, e, pick)
				if len(l) == 1 {
					got, e = One(x, a)
					holds(t, "One", x, got, e, pick)
				}
			}
		}
	}
}

// loosePut holds a term, with another put in at n, and with a named variable put in, against the chapter's words.
func loosePut(t *testing.T, x, a api.Term, n int) {
	t.Helper()
	got, e := At(x, a, n)
	holds(t, "At", x, got, e, func(v api.Term) telling {
		switch {
		case v.Kind == api.KFree || v.N < n:
			return itself(0)
		case v.N > n:
			return itself(-1)
		}
		return as(a, n)
	})
	got, e = Open(x, n)
	holds(t, "Open", x, got, e, func(v api.Term) telling {
		if v.Kind == api.KVar && v.N == 0 {
			return as(term.Free(n), 0)
		}
		return itself(-1)
	})
}

// namedPut holds a term, with another put in for a named variable, and with that one bound, against the chapter's words.
func namedPut(t *testing.T, x, a api.Term, n int) {
	t.Helper()
	got, e := Named(x, a, n)
	holds(t, "Named", x, got, e, func(v api.Term) telling {
		if v.Kind == api.KFree && v.N == n {
			return as(a, 0)
		}
		return itself(0)
	})
	got, e = Bind(x, n)
	holds(t, "Bind", x, got, e, func(v api.Term) telling {
		if v.Kind == api.KFree && v.N == n {
			return as(term.Var(0), 0)
		}
		return itself(1)
	})
}

func TestLiftedAndPut(t *testing.T) { // P9.2
	same := 0
	for _, x := range samples() {
		for _, l := range [][]api.Term{nil, {term.Var(0)}, {term.Lam(set, term.Var(1)), term.Free(0)}, {term.Var(3), set, term.Var(most)}, slices.Repeat(terms(term.Var(1)), 50), {bush(300, term.Var(1)), deep(api.MaxDepth, set)}} {
			up, e := lift.Up(x, len(l))
			if e != api.OK {
				continue
			}
			if y, e := Many(up, l); e != api.OK || !term.Same(x, y) {
				t.Fatalf("%s, %d put in: %s, %v", told(x), len(l), told(y), e)
			}
			if ys, e := All(terms(up, up), l); e != api.OK || len(ys) != 2 || !term.Same(x, ys[0]) || !term.Same(x, ys[1]) {
				t.Fatalf("All of %s, %d put in: %d, %v", told(x), len(l), len(ys), e)
			}
			if len(l) == 1 {
				if y, e := One(up, l[0]); e != api.OK || !term.Same(x, y) {
					t.Fatalf("One, %s: %s, %v", told(x), told(y), e)
				}
			}
			same++
		}
		for _, n := range []int{0, 1, 3, most} { // likewise from n on, at n
			up, e := lift.Lift(x, 1, n)
			if y, e2 := At(up, term.Var(2), n); e == api.OK && (e2 != api.OK || !term.Same(x, y)) {
				t.Fatalf("At %d, %s: %s, %v", n, told(x), told(y), e2)
			}
		}
	}
	if same < 10000 {
		t.Errorf("%d were lifted", same)
	}
}

func TestOneAndAnother(t *testing.T) { // P9.3
	both := 0
	for _, x := range samples() {
		for i, a := range puts() {
			for _, b := range []api.Term{puts()[i], puts()[(i*7+3)%len(puts())], term.Var(3), term.Lam(term.Var(1), term.App(term.Var(0), term.Var(1)))} {
				first, e := One(x, a)
				if e != api.OK {
					continue
				}
				one, e1 := One(first, b)
				beneath, e := At(x, b, 1)
				within, e2 := One(a, b)
				if e != api.OK || e2 != api.OK {
					continue
				}
				another, e2 := One(beneath, within)
				if e1 != e2 || !term.Same(one, another) && e1 == api.OK {
					t.Fatalf("%s, %s, %s: %s, %v, and %s, %v", told(x), told(a), told(b), told(one), e1, told(another), e2)
				}
				both++
			}
		}
	}
	if both < 10000 {
		t.Errorf("%d were put in", both)
	}
}

func TestBoundAndOpened(t *testing.T) { // P9.4
	bound, opened := 0, 0
	great := deep(api.MaxDepth, term.Var(most))
	for _, x := range samples() {
		for _, n := range []int{0, 1, 2, most} {
			if y, e := Bind(x, n); e == api.OK {
				if z, e := Open(y, n); e != api.OK || !term.Same(x, z) {
					t.Fatalf("%s, %d: bound %s, opened %s, %v", told(x), n, told(y), told(z), e)
				}
				if z, e := One(y, term.Free(n)); e != api.OK || !term.Same(x, z) {
					t.Fatalf("%s, %d: bound %s, put in %s, %v", told(x), n, told(y), told(z), e)
				}
				if slices.Contains(term.Frees(y), n) {
					t.Fatalf("%s, %d: still there in %s", told(x), n, told(y))
				}
				bound++
			}
			if slices.Contains(term.Frees(x), n) {
				continue
			}
			if y, e := Open(x, n); e == api.OK {
				if z, e := Bind(y, n); e != api.OK || !term.Same(x, z) {
					t.Fatalf("%s, %d: opened %s, bound %s, %v", told(x), n, told(y), told(z), e)
				}
				if y, e := Named(x, great, n); e != api.OK || !term.Same(x, y) { // nothing comes in
					t.Fatalf("%s, %d: %s, %v", told(x), n, told(y), e)
				}
				opened++
			}
		}
	}
	if bound < 10000 || opened < 10000 {
		t.Errorf("%d bound, %d opened", bound, opened)
	}
}

// TestMuchTooGreat puts great terms in at very many places: what comes is refused long before it would be there.
func TestMuchTooGreat(t *testing.T) { // P9.1
	for range 20 {
		for _, a := range terms(bush(api.MaxNodes, term.Var(0)), under(100, bush(7000, term.Free(1)))) {
			edges(func(end api.Term) api.Term { return bush(api.MaxNodes-1, end) }, a, func(call string, got api.Term, e api.Errno) {
				errs(t, call, got, e, api.ErrLong)
			})
		}
	}
}
