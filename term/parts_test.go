package term

import (
	"math"
	"reflect"
	"slices"
	"testing"

	"scholium/api"
)

func TestMade(t *testing.T) { // P7.2
	a, b := Sort(3), Elim(2, 1)
	for i, c := range []struct{ got, want api.Term }{
		{Var(0), api.Term{Kind: 1}}, {Var(7), api.Term{Kind: 1, N: 7}}, {Sort(0), api.Term{Kind: 2}}, {Sort(7), api.Term{Kind: 2, N: 7}},
		{Pi(a, b), api.Term{Kind: 3, Sub: []api.Term{a, b}}}, {Lam(a, b), api.Term{Kind: 4, Sub: []api.Term{a, b}}}, {App(a, b), api.Term{Kind: 5, Sub: []api.Term{a, b}}},
		{Const(0), api.Term{Kind: 6}}, {Const(7), api.Term{Kind: 6, N: 7}}, {Free(0), api.Term{Kind: 8}}, {Free(7), api.Term{Kind: 8, N: 7}},
		{Elim(0, 0), api.Term{Kind: 7, Sub: []api.Term{{Kind: 2}}}}, {Elim(5, 7), api.Term{Kind: 7, N: 5, Sub: []api.Term{{Kind: 2, N: 7}}}},
	} {
		if !reflect.DeepEqual(c.got, c.want) || !Shaped(c.got) {
			t.Errorf("%d: %s", i, told(c.got))
		}
	}
	for _, n := range []int{math.MinInt, -1, api.MaxLevel + 1, api.MaxFree, api.MaxFree + 1, math.MaxInt} { // a node bears what it is given; Shaped tells of it
		if Var(n).N != n || Sort(n).N != n || Const(n).N != n || Free(n).N != n || Elim(n, 0).N != n || Elim(0, n).Sub[0].N != n {
			t.Errorf("%d", n)
		}
	}
	if x := Pi(api.Term{}, endless(api.KApp, 2)); len(x.Sub) != 2 || x.Sub[1].Kind != api.KApp || Shaped(x) {
		t.Error("Subs that are not shaped")
	}
}

func TestSame(t *testing.T) { // P7.2
	one, other, wrong := slices.Concat(shapedOnes(), atLimit()), slices.Concat(shapedOnes(), atLimit()), unshaped()
	for i, a := range one {
		for j, b := range other {
			if Same(a, b) != (i == j) {
				t.Errorf("%s, %s: %v", told(a), told(b), i != j)
			}
		}
		for _, bad := range wrong {
			if Same(a, bad) || Same(bad, a) {
				t.Errorf("%s and %s are the same", told(a), told(bad))
			}
		}
	}
	for _, bad := range wrong {
		if Same(bad, bad) {
			t.Errorf("%s is the same as itself", told(bad))
		}
	}
	if !Same(raw(api.KVar, 3), api.Term{Kind: api.KVar, N: 3, Sub: []api.Term{}}) {
		t.Error("a list without elements is nil's like")
	}
}

// TestSameWithin puts another term into each place of one.
func TestSameWithin(t *testing.T) { // P7.2
	for _, x := range shapedOnes() {
		for i := range Size(x) {
			for _, y := range []api.Term{Free(9), Sort(6), Elim(9, 6), Pi(Free(9), Free(9))} {
				if z, _ := replaced(x, i, y); Same(x, z) || Same(z, x) {
					t.Errorf("%s, with %s at %d: the same", told(x), told(y), i)
				}
			}
		}
	}
}

func TestApply(t *testing.T) { // P7.2
	f, a, b := Const(1), Var(0), Lam(Sort(0), Var(0))
	for i, c := range []struct{ got, want api.Term }{
		{Apply(f), f}, {Apply(f, nil...), f}, {Apply(f, []api.Term{}...), f}, {Apply(f, a), App(f, a)}, {Apply(f, a, b), App(App(f, a), b)},
		{Apply(f, b, a), App(App(f, b), a)}, {Apply(f, a, a, b), App(App(App(f, a), a), b)}, {Apply(App(f, a), b), App(App(f, a), b)},
		{Apply(api.Term{}, api.Term{}), raw(api.KApp, 0, api.Term{}, api.Term{})}, {Apply(api.Term{}), api.Term{}}, {Apply(raw(9, 3, a), f), App(raw(9, 3, a), f)},
	} {
		if !reflect.DeepEqual(c.got, c.want) {
			t.Errorf("%d: %s", i, told(c.got))
		}
	}
	many := Apply(f, slices.Repeat([]api.Term{a}, 1<<15)...)
	if Size(many) != api.MaxNodes+1 || Depth(many) != api.MaxDepth+1 {
		t.Error("a list may be longer than a term may have arguments")
	}
}

// TestApplyRoom asks whether a list, and what lies behind its end, stays as it is, and changes nothing behind the call.
func TestApplyRoom(t *testing.T) { // P7.2
	room := []api.Term{Var(0), Var(1), Var(2), Var(3)}
	x := Apply(Const(0), room[:2]...)
	untouched(t, room, []api.Term{Var(0), Var(1), Var(2), Var(3)})
	room[0], room[1] = Sort(0), Sort(0)
	if !Same(x, App(App(Const(0), Var(0)), Var(1))) {
		t.Errorf("%s: the list was kept", told(x))
	}
}

func TestSpine(t *testing.T) { // P7.2
	f, a, b := Const(1), Var(0), Lam(Sort(0), App(Var(0), Var(1)))
	for i, c := range []struct {
		t, head api.Term
		args    []api.Term
	}{
		{f, f, nil}, {Sort(0), Sort(0), nil}, {b, b, nil}, {Pi(App(f, a), App(f, a)), Pi(App(f, a), App(f, a)), nil}, {Elim(0, 0), Elim(0, 0), nil},
		{App(f, a), f, []api.Term{a}}, {App(App(f, a), b), f, []api.Term{a, b}}, {App(App(App(f, b), a), a), f, []api.Term{b, a, a}},
		{App(f, App(a, b)), f, []api.Term{App(a, b)}}, {App(App(f, App(a, a)), App(b, b)), f, []api.Term{App(a, a), App(b, b)}}, {App(b, f), b, []api.Term{f}},
		{App(App(Elim(3, 1), a), f), Elim(3, 1), []api.Term{a, f}}, {App(Var(2), Var(3)), Var(2), []api.Term{Var(3)}},
	} {
		head, args := Spine(c.t)
		if !reflect.DeepEqual(head, c.head) || !slices.EqualFunc(args, c.args, Same) {
			t.Errorf("%d: %s, %d arguments", i, told(head), len(args))
		}
	}
}

// TestSpineWrong asks for the spine of what is not shaped, or too great.
func TestSpineWrong(t *testing.T) { // P7.2, P7.4
	wild := raw(9, 3, Var(0))
	if head, args := Spine(App(App(wild, api.Term{}), Var(-1))); !reflect.DeepEqual(head, wild) || !reflect.DeepEqual(args, []api.Term{{}, Var(-1)}) {
		t.Errorf("%s", told(head))
	}
	for _, head := range []api.Term{raw(api.KApp, 0), raw(api.KApp, 0, wild), raw(api.KApp, 0, wild, wild, wild), raw(api.KApp, 1, wild, wild), raw(api.KApp, -1, wild, wild)} { // such an application can't be taken off and put back
		got, args := Spine(App(head, Var(1)))
		if !reflect.DeepEqual(got, head) || len(args) != 1 || !Same(args[0], Var(1)) {
			t.Errorf("%s: %s, %d arguments", told(head), told(got), len(args))
		}
	}
	for _, x := range tooGreat() {
		head, args := Spine(x)
		if head.Kind != x.Kind || len(head.Sub) != len(x.Sub) || &head.Sub[0] != &x.Sub[0] || len(args) != 0 {
			t.Errorf("%s: %d arguments", told(x), len(args))
		}
	}
	if head, args := Spine(chain(api.KApp, 1<<12, 0)); head.Kind != api.KVar || len(args) != 1<<12-1 { // too deep alone
		t.Errorf("%s, %d arguments", told(head), len(args))
	}
	if head, args := Spine(App(bush(api.MaxNodes-3), Elim(0, 0))); len(args) == 0 || head.Kind == api.KApp { // MaxNodes nodes
		t.Errorf("%s, %d arguments", told(head), len(args))
	}
}

func TestSpineApplied(t *testing.T) { // P7.4
	for _, x := range slices.Concat(shapedOnes(), wrongOnes(), atLimit(), tooDeep(), small(5)) {
		head, args := Spine(x)
		if got := Apply(head, args...); !reflect.DeepEqual(got, x) {
			t.Errorf("%s: %s", told(x), told(got))
		}
		if Shaped(x) && head.Kind == api.KApp {
			t.Errorf("%s: its head is an application", told(x))
		}
	}
}

// TestSpineMemory writes over what was told.
func TestSpineMemory(t *testing.T) { // P7.2
	x := App(App(Const(0), Var(1)), Var(2))
	_, args := Spine(x)
	args[0], args[1] = Sort(0), Sort(1)
	_ = append(args, Sort(2))
	if !Same(x, App(App(Const(0), Var(1)), Var(2))) {
		t.Error("the list of arguments is the term's own memory")
	}
}

func TestCopy(t *testing.T) { // P7.2
	for _, x := range slices.Concat(shapedOnes(), atLimit()) {
		c := Copy(x)
		if !Same(c, x) {
			t.Errorf("%s: another one", told(x))
		}
	}
	for _, x := range unshaped() {
		if c := Copy(x); !reflect.DeepEqual(c, api.Term{}) {
			t.Errorf("%s: %s", told(x), told(c))
		}
	}
}

// spoil writes over all of a term's nodes but itself.
func spoil(x api.Term) {
	for i := range x.Sub {
		spoil(x.Sub[i])
		x.Sub[i] = api.Term{Kind: -1}
	}
}

// TestCopyMemory writes over a copy, and then over what was copied.
func TestCopyMemory(t *testing.T) { // P7.2
	was, now := shapedOnes(), shapedOnes()
	for i, x := range now {
		spoil(Copy(x))
		if !Same(x, was[i]) {
			t.Errorf("%s is in its copy's memory", told(was[i]))
		}
		c := Copy(x)
		spoil(x)
		if !Same(c, was[i]) {
			t.Errorf("%s: its copy is in its memory", told(was[i]))
		}
	}
	twice := Var(0)
	for range 3 {
		twice = App(twice, twice)
	}
	c := Copy(twice)
	spoil(c.Sub[0])
	if !Same(c.Sub[1], App(App(Var(0), Var(0)), App(Var(0), Var(0)))) {
		t.Error("two lists of a copy share memory")
	}
}

func TestNumbers(t *testing.T) { // P7.3
	for i, c := range []struct {
		t              api.Term
		frees, entries []int
	}{
		{Var(3), nil, nil}, {Sort(3), nil, nil}, {Free(3), []int{3}, nil}, {Const(3), nil, []int{3}}, {Elim(3, 5), nil, []int{3}},
		{Free(0), []int{0}, nil}, {Const(0), nil, []int{0}}, {Elim(0, 0), nil, []int{0}}, {Free(api.MaxFree), []int{api.MaxFree}, nil},
		{App(Free(2), Free(1)), []int{1, 2}, nil}, {App(Free(1), App(Free(1), Free(1))), []int{1}, nil},
		{App(Const(2), Elim(1, 0)), nil, []int{1, 2}}, {App(Elim(2, 0), Const(2)), nil, []int{2}}, {App(Elim(9, 0), Elim(9, 1)), nil, []int{9}},
		{Lam(Free(7), Pi(Const(6), App(Free(5), Elim(4, 3)))), []int{5, 7}, []int{4, 6}}, {Pi(Free(1), Lam(Free(10), Free(2))), []int{1, 2, 10}, nil},
		{Apply(Const(5), Free(3), Const(1), Free(3), Free(0), Elim(5, 2), Const(5), Const(0)), []int{0, 3}, []int{0, 1, 5}},
	} {
		if !slices.Equal(Frees(c.t), c.frees) || !slices.Equal(Entries(c.t), c.entries) {
			t.Errorf("%d: %v, %v", i, Frees(c.t), Entries(c.t))
		}
	}
	for _, x := range unshaped() {
		if l := append(Frees(App(Free(1), x)), Entries(App(Const(1), x))...); len(l) != 0 {
			t.Errorf("%s: %v", told(x), l)
		}
	}
}

func TestLoose(t *testing.T) { // P7.3
	for i, c := range []struct {
		t     api.Term
		loose []int // rising
	}{
		{Sort(1), nil}, {Const(1), nil}, {Free(1), nil}, {Elim(1, 1), nil}, {Var(0), []int{0}}, {Var(5), []int{5}}, {Var(api.MaxFree), []int{api.MaxFree}},
		{Lam(Sort(0), App(Var(1), Var(0))), []int{0}}, {Lam(Var(0), Var(0)), []int{0}}, {Lam(Sort(0), Var(0)), nil}, {Lam(Sort(0), Var(3)), []int{2}}, {Lam(Var(3), Sort(0)), []int{3}},
		{Pi(Sort(0), App(Var(1), Var(0))), []int{0}}, {Pi(Var(0), Var(0)), []int{0}}, {Pi(Sort(0), Var(0)), nil}, {Pi(Sort(0), Var(3)), []int{2}}, {Pi(Var(3), Sort(0)), []int{3}},
		{App(Var(1), Var(4)), []int{1, 4}}, {App(Var(4), Var(1)), []int{1, 4}}, {Lam(Var(4), App(Var(0), Var(2))), []int{1, 4}},
		{Pi(Sort(0), Pi(Var(0), Pi(Var(1), App(Var(0), Var(2))))), nil}, {Pi(Sort(0), Pi(Var(1), Pi(Var(3), App(Var(0), Var(5))))), []int{0, 1, 2}},
		{Pi(Lam(Sort(0), Var(1)), Var(0)), []int{0}}, {Lam(Pi(Var(0), Var(0)), App(Lam(Var(0), Var(2)), Var(0))), []int{0}}, {Lam(Sort(0), Var(api.MaxFree)), []int{api.MaxFree - 1}},
	} {
		if Loose(c.t) != greatest(c.loose) {
			t.Errorf("%d: Loose %d", i, Loose(c.t))
		}
		for _, n := range []int{math.MinInt, -2, -1, 0, 1, 2, 3, 4, 5, 6, api.MaxFree - 1, api.MaxFree, api.MaxFree + 1, math.MaxInt} {
			if Has(c.t, n) != slices.Contains(c.loose, n) {
				t.Errorf("%d: Has(%d) %v", i, n, Has(c.t, n))
			}
		}
	}
	if Loose(chain(api.KLam, api.MaxDepth, 1)) != 0 || Loose(chain(api.KPi, api.MaxDepth, 0)) != 1 || Has(chain(api.KPi, api.MaxDepth, 1), -1) {
		t.Error("beneath as many binders as there may be")
	}
	for _, x := range unshaped() {
		if y := App(Var(1), x); Loose(y) != 0 || Has(y, 1) || Has(y, 0) || Loose(x) != 0 || Has(x, 0) {
			t.Errorf("%s: a loose variable", told(x))
		}
	}
}
