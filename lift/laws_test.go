package lift

import (
	"reflect"
	"slices"
	"testing"

	"scholium/api"
	"scholium/term"
)

// small are all terms of at most n nodes over a few nodes without Sub, and one eliminator.
func small(n int, ends ...api.Term) []api.Term {
	by := [][]api.Term{nil, ends, {term.Elim(1, 2)}}
	for size := 3; size <= n; size++ {
		var l []api.Term
		for left := 1; left < size-1; left++ {
			for _, a := range by[left] {
				for _, b := range by[size-1-left] {
					l = append(l, term.Pi(a, b), term.Lam(a, b), term.App(a, b))
				}
			}
		}
		by = append(by, l)
	}
	return slices.Concat(by[:n+1]...)
}

// samples are small terms, few of them of more nodes, and terms that are as great, as deep, or have variables as great as may be.
func samples() []api.Term {
	v := term.Var
	l := small(5, v(0), v(1), v(2), v(3), v(5), term.Sort(1), term.Const(0), term.Free(0))
	l = append(l, small(6, v(0), v(1), v(2))...)
	for _, n := range []int{0, 1, 3, most - api.MaxDepth, most - 1, most} {
		l = append(l, v(n), under(1, v(n)), under(2, v(n)), term.Pi(v(n), v(n)), term.Lam(v(n), term.Pi(v(n), v(n))), bush(api.MaxNodes, n), bush(api.MaxNodes-1, n))
		l = append(l, under(api.MaxDepth-1, v(n)), under(api.MaxDepth-2, term.App(v(n), v(api.MaxDepth))), under(api.MaxDepth-5, bush(20, n)))
	}
	return l
}

// listed tells a term node by node: a bound variable by the binder that binds it, a loose one by what becomes of it outside. No number in it hangs on how many binders stand between.
func listed(x api.Term, above []int, at *int, becomes func(m int) int) []int {
	*at++
	self, out := *at, len(above)-1-x.N
	switch {
	case x.Kind == api.KVar && out >= 0:
		return []int{x.Kind, 1, above[out]}
	case x.Kind == api.KVar:
		return []int{x.Kind, 0, becomes(-1 - out)}
	}
	l := []int{x.Kind, x.N, len(x.Sub)}
	for i, s := range x.Sub {
		if i == 1 && (x.Kind == api.KPi || x.Kind == api.KLam) {
			above = append(slices.Clone(above), self)
		}
		l = append(l, listed(s, above, at, becomes)...)
	}
	return l
}

// list tells a term as it is once its loose variables became others.
func list(x api.Term, becomes func(m int) int) []int {
	return listed(x, nil, new(int), becomes)
}

func stay(m int) int { return m }

// TestAsWords holds what comes against what is reckoned from the chapter's words.
func TestAsWords(t *testing.T) { // P8.1
	for _, x := range small(6, term.Var(0), term.Var(1), term.Var(2), term.Var(4), term.Free(1)) {
		for n := range 4 {
			swapped, e := Swap(x, n)
			want := list(x, func(m int) int {
				if m == n || m == n+1 {
					m = 2*n + 1 - m
				}
				return m
			})
			if e != api.OK || !slices.Equal(list(swapped, stay), want) {
				t.Fatalf("Swap(%s, %d): %s, %v", told(x), n, told(swapped), e)
			}
			for k := range 4 {
				lifted, e := Lift(x, k, n)
				want := list(x, func(m int) int {
					if m < n {
						return m
					}
					return m + k
				})
				if e != api.OK || !slices.Equal(list(lifted, stay), want) {
					t.Fatalf("Lift(%s, %d, %d): %s, %v", told(x), k, n, told(lifted), e)
				}
				asLowered(t, x, k, n)
			}
		}
	}
}

// asLowered holds a term, lowered, against the chapter's words.
func asLowered(t *testing.T, x api.Term, k, n int) {
	t.Helper()
	lowered, e := Lower(x, k, n)
	wantE := api.OK
	want := list(x, func(m int) int {
		switch {
		case m < n:
			return m
		case m < n+k:
			wantE = api.ErrScope
		}
		return m - k
	})
	if e != wantE || e == api.OK && !slices.Equal(list(lowered, stay), want) || e != api.OK && !reflect.DeepEqual(lowered, api.Term{}) {
		t.Fatalf("Lower(%s, %d, %d): %s, %v", told(x), k, n, told(lowered), e)
	}
}

func TestByNone(t *testing.T) { // P8.2
	for _, x := range samples() {
		for _, n := range []int{0, 1, 2, most - 1, most} {
			if y, e := Lift(x, 0, n); e != api.OK || !term.Same(x, y) {
				t.Fatalf("%s above %d: %s, %v", told(x), n, told(y), e)
			}
		}
		if y, e := Up(x, 0); e != api.OK || !term.Same(x, y) {
			t.Fatalf("%s: %s, %v", told(x), told(y), e)
		}
	}
}

// TestTwice lifts in two steps and in one, also where a variable would be too great.
func TestTwice(t *testing.T) { // P8.2
	steps := [][2]int{{0, 0}, {1, 0}, {0, 1}, {1, 1}, {2, 3}, {1, api.MaxDepth - 1}, {most - api.MaxDepth, api.MaxDepth}, {1, most - 1}, {most, 0}, {most / 2, most / 2}}
	for _, x := range samples() {
		for _, n := range []int{0, 1, 2, most - 1} {
			for _, by := range steps {
				once, e := Lift(x, by[0]+by[1], n)
				first, e1 := Lift(x, by[0], n)
				if e1 != api.OK {
					errs(t, told(x), once, e, e1)
					continue
				}
				twice, e2 := Lift(first, by[1], n)
				if e2 != e || !reflect.DeepEqual(once, twice) {
					t.Fatalf("%s above %d by %v: %s, %v, at once %s, %v", told(x), n, by, told(twice), e2, told(once), e)
				}
			}
		}
	}
}

func TestThereAndBack(t *testing.T) { // P8.3
	down, up := 0, 0
	for _, x := range samples() {
		for _, n := range []int{0, 1, 2, 4, most - 1, most} {
			for _, k := range []int{0, 1, 2, 3, api.MaxDepth, most - 1, most} {
				if y, e := Lift(x, k, n); e == api.OK {
					if z, e := Lower(y, k, n); e != api.OK || !term.Same(z, x) {
						t.Fatalf("%s by %d above %d: lifted %s, lowered %s, %v", told(x), k, n, told(y), told(z), e)
					}
					up++
				}
				if y, e := Lower(x, k, n); e == api.OK {
					if z, e := Lift(y, k, n); e != api.OK || !term.Same(z, x) {
						t.Fatalf("%s by %d above %d: lowered %s, lifted %s, %v", told(x), k, n, told(y), told(z), e)
					}
					down++
				}
			}
		}
	}
	if up < 100000 || down < 100000 {
		t.Errorf("%d lifted, %d lowered", up, down)
	}
}

func TestSwappedTwice(t *testing.T) { // P8.4
	for _, x := range samples() {
		for _, n := range []int{0, 1, 2, 3, most - api.MaxDepth - 1, most - 1} {
			y, e := Swap(x, n)
			if e == api.ErrLong && n == most-1 { // a variable beneath a binder
				continue
			}
			z, e2 := Swap(y, n)
			if e != api.OK || e2 != api.OK || !term.Same(x, z) {
				t.Fatalf("%s at %d: %s, %v, then %s, %v", told(x), n, told(y), e, told(z), e2)
			}
		}
	}
}

func TestAsGreat(t *testing.T) { // P8.5
	for _, x := range samples() {
		for _, n := range []int{0, 1, 2, most} {
			for _, k := range []int{0, 1, 3, most - api.MaxDepth, most} {
				each(x, k, n, func(call string, y api.Term, e api.Errno) {
					if e == api.OK && (!term.Shaped(y) || term.Size(y) != term.Size(x) || term.Depth(y) != term.Depth(x)) {
						t.Fatalf("%s: %s", call, told(y))
					}
				})
			}
		}
	}
	for _, x := range []api.Term{bush(api.MaxNodes, 3), under(api.MaxDepth-1, term.Var(200))} { // at the limits a term is not refused
		for _, k := range []int{0, 1, most - 200} {
			y, e := Up(x, k)
			if e != api.OK || term.Size(y) != term.Size(x) || term.Depth(y) != term.Depth(x) {
				t.Errorf("%s by %d: %s, %v", told(x), k, told(y), e)
			}
		}
	}
}

// roomy gives a term anew, each list of it, those without elements too, with room behind its end that bears a mark.
func roomy(x api.Term) api.Term {
	room := make([]api.Term, len(x.Sub)+2)
	for i, s := range x.Sub {
		room[i] = roomy(s)
	}
	for i := len(x.Sub); i < len(room); i++ {
		room[i] = term.Free(77)
	}
	x.Sub = room[:len(x.Sub)]
	return x
}

// spoil writes over all lists of a term, and the room behind their ends.
func spoil(x api.Term) {
	for _, s := range x.Sub {
		spoil(s)
	}
	for i := range x.Sub[:cap(x.Sub)] {
		x.Sub[:cap(x.Sub)][i] = api.Term{Kind: -1, N: -1}
	}
}

// marked tells whether a term that was made roomy is as it was made.
func marked(x api.Term) bool {
	for _, s := range x.Sub {
		if !marked(s) {
			return false
		}
	}
	for _, s := range x.Sub[len(x.Sub):cap(x.Sub)] {
		if !term.Same(s, term.Free(77)) {
			return false
		}
	}
	return cap(x.Sub) == len(x.Sub)+2
}

// TestMemory writes over what came back, and then over what was given.
func TestMemory(t *testing.T) { // P8.1
	v := term.Var
	for _, x := range []api.Term{v(3), set, term.Free(1), term.Const(1), term.Elim(2, 1), term.Pi(v(3), v(4)), term.Lam(v(3), term.App(v(4), v(0))), term.App(term.Elim(2, 1), term.Pi(set, term.Lam(v(9), v(0)))), under(5, bush(9, 8))} {
		for _, k := range []int{0, 2} {
			given := roomy(x)
			each(given, k, 1, func(call string, got api.Term, e api.Errno) {
				was := roomy(got)
				spoil(got)
				if e != api.OK || !term.Same(given, x) || !marked(given) {
					t.Errorf("%s, %v: what was given was changed, or shares memory with what came", call, e)
				}
				again := roomy(x)
				got = called(call, again, k, 1)
				spoil(again)
				if !term.Same(got, was) {
					t.Errorf("%s: what came shares memory with what was given", call)
				}
			})
		}
	}
}

// called answers the call whose name a text begins with.
func called(call string, x api.Term, k, n int) api.Term {
	var got api.Term
	switch call[:2] {
	case "Li":
		got, _ = Lift(x, k, n)
	case "Up":
		got, _ = Up(x, k)
	case "Lo":
		got, _ = Lower(x, k, n)
	case "Sw":
		got, _ = Swap(x, n)
	}
	return got
}

// TestLists asks whether two lists of one answer share memory, where those of what was given do.
func TestLists(t *testing.T) { // P8.1
	twin := term.App(term.Var(3), term.Lam(set, term.Var(4)))
	pair := term.Pi(twin, twin)
	for _, k := range []int{0, 1} {
		each(pair, k, 0, func(call string, got api.Term, e api.Errno) {
			was := roomy(got)
			spoil(got.Sub[0])
			if e != api.OK || !term.Same(got.Sub[1], was.Sub[1]) {
				t.Errorf("%s, %v: two lists share memory", call, e)
			}
		})
	}
}

// TestAllMemory does likewise with a list of terms.
func TestAllMemory(t *testing.T) { // P8.1
	x := roomy(term.Lam(term.Var(0), term.App(term.Var(0), term.Var(1))))
	want, _ := Up(x, 1)
	room := []api.Term{x, x, x, term.Free(77)}
	got, e := All(room[:3], 1, 0)
	if e != api.OK || len(got) != 3 {
		t.Fatalf("%d terms, %v", len(got), e)
	}
	spoil(got[0])
	got[1] = api.Term{}
	_ = append(got[:1], api.Term{}, api.Term{})
	if !marked(x) || !reflect.DeepEqual(room, []api.Term{x, x, x, term.Free(77)}) {
		t.Error("what was given was changed, or shares memory with what came")
	}
	got, _ = All(room[:3], 1, 0)
	spoil(got[0])
	if !term.Same(got[1], want) || !term.Same(got[2], want) {
		t.Error("two lists share memory")
	}
	spoil(x)
	room[1], room[2] = api.Term{}, api.Term{}
	if !term.Same(got[1], want) || !term.Same(got[2], want) {
		t.Error("what came shares memory with what was given")
	}
}
