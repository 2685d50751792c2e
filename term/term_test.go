package term

import (
	"math"
	"reflect"
	"slices"
	"strconv"
	"strings"
	"testing"

	"scholium/api"
)

// raw is a node of any kind, with any number and any Subs.
func raw(kind, n int, subs ...api.Term) api.Term {
	return api.Term{Kind: kind, N: n, Sub: subs}
}

// shapedOnes are shaped terms, no two of them the same.
func shapedOnes() []api.Term {
	a, b := Const(0), Free(1)
	return []api.Term{
		Var(0), Var(1), Var(api.MaxFree), Sort(0), Sort(1), Sort(api.MaxLevel),
		Const(0), Const(1), Const(api.MaxFree), Free(0), Free(1), Free(api.MaxFree),
		Elim(0, 0), Elim(1, 0), Elim(0, 1), Elim(api.MaxFree, api.MaxLevel),
		Pi(a, b), Pi(b, a), Pi(a, a), Pi(b, b), Lam(a, b), Lam(b, a), Lam(a, a), App(a, b), App(b, a), App(a, a),
		App(App(a, b), a), App(a, App(b, a)), App(App(a, a), a), App(Pi(a, b), Lam(b, a)), Lam(Pi(a, a), App(a, a)),
		Pi(Sort(0), Pi(Var(0), Pi(Var(1), App(App(Const(2), Var(1)), Var(0))))), App(App(Elim(3, 1), Lam(a, Sort(0))), Free(7)),
		Lam(Sort(0), App(Var(1), Var(0))), Lam(Var(5), Var(6)), Pi(Sort(0), App(Var(1), Var(0))),
	}
}

// wrongOnes are terms that are not shaped, for what their outermost node is, or for one right within.
func wrongOnes() []api.Term {
	x := Const(0)
	wrong := []api.Term{
		{}, raw(0, 0, x), raw(0, 0, x, x), raw(9, 0), raw(9, 0, x, x), raw(-1, 0), raw(math.MinInt, 0), raw(math.MaxInt, 0),
		Sort(-1), Sort(api.MaxLevel + 1), Sort(api.MaxFree), Sort(math.MinInt), Sort(math.MaxInt), raw(api.KSort, 0, x), raw(api.KSort, 0, Sort(0)),
		raw(api.KElim, 0), raw(api.KElim, 0, x), raw(api.KElim, 0, Elim(0, 0)), raw(api.KElim, 0, Var(0)), raw(api.KElim, 0, raw(api.KSort, 0, x)), raw(api.KElim, 0, Sort(0), Sort(0)),
		raw(api.KElim, 0, api.Term{}), Elim(-1, 0), Elim(api.MaxFree+1, 0), Elim(0, -1), Elim(0, api.MaxLevel+1), Elim(math.MinInt, math.MaxInt),
	}
	for _, kind := range []int{api.KVar, api.KConst, api.KFree} {
		for _, n := range []int{-1, api.MaxFree + 1, math.MinInt, math.MaxInt} {
			wrong = append(wrong, raw(kind, n))
		}
		wrong = append(wrong, raw(kind, 0, x), raw(kind, 0, x, x))
	}
	for _, kind := range []int{api.KPi, api.KLam, api.KApp} {
		for _, n := range []int{-1, 1, api.MaxFree, math.MinInt, math.MaxInt} {
			wrong = append(wrong, raw(kind, n, x, x))
		}
		wrong = append(wrong, raw(kind, 0), raw(kind, 0, x), raw(kind, 0, x, x, x))
		wrong = append(wrong, raw(kind, 0, x, api.Term{}), raw(kind, 0, api.Term{}, x), raw(kind, 0, x, raw(kind, 0, x)))
	}
	return wrong
}

// chain is n levels of a kind with two Subs, each deep in the one that is told.
func chain(kind, n, at int) api.Term {
	t := Var(0)
	for range n - 1 {
		subs := []api.Term{Const(0), Const(0)}
		subs[at] = t
		t = raw(kind, 0, subs...)
	}
	return t
}

// bush is a shaped term of n nodes that is not deep.
func bush(n int) api.Term {
	switch n {
	case 1:
		return Var(0)
	case 2:
		return Elim(0, 0)
	}
	return App(bush((n-1)/2), bush(n-1-(n-1)/2))
}

// doubled is a term with twice itself within, so often: far more nodes than there is memory.
func doubled(n int) api.Term {
	t := Var(0)
	for range n {
		t = App(t, t)
	}
	return t
}

// endless is a term that stands within its own Subs.
func endless(kind, subs int) api.Term {
	t := raw(kind, 0, make([]api.Term, subs)...)
	for i := range t.Sub {
		t.Sub[i] = t
	}
	return t
}

// atLimit are shaped terms that are just as great, or as deep, as they may be.
func atLimit() []api.Term {
	l := []api.Term{bush(api.MaxNodes), doubled(12), Apply(bush(api.MaxNodes-4), Var(0), Var(0))}
	for _, kind := range []int{api.KPi, api.KLam, api.KApp} {
		l = append(l, chain(kind, api.MaxDepth, 0), chain(kind, api.MaxDepth, 1), chain(kind, api.MaxDepth-1, 0))
	}
	return append(l, App(chain(api.KApp, api.MaxDepth-1, 1), Elim(0, 0)), elimAt(api.MaxDepth-1))
}

// elimAt is a shaped, or too deep, term with an eliminator at a depth, whose universe stands one deeper.
func elimAt(depth int) api.Term {
	t := Elim(0, 0)
	for range depth - 1 {
		t = App(t, Const(0))
	}
	return t
}

// tooGreat are terms of too many nodes, tooDeep ones of not too many that are too deep; both have nothing wrong else, but those without an end of kinds that have other Subs.
func tooGreat() []api.Term {
	return []api.Term{
		bush(api.MaxNodes + 1), bush(2 * api.MaxNodes), Pi(Var(0), bush(api.MaxNodes-1)), Lam(bush(api.MaxNodes-1), Var(0)), doubled(13), doubled(100),
		chain(api.KApp, 1<<12+1, 0), chain(api.KPi, 1<<16, 1), raw(api.KApp, 0, slices.Repeat([]api.Term{Var(0)}, 1<<20)...),
		endless(api.KApp, 2), endless(api.KPi, 2), endless(api.KLam, 2), endless(api.KElim, 1), endless(api.KVar, 1), endless(0, 3), endless(api.KApp, 1),
		App(Var(0), endless(api.KApp, 2)), Pi(endless(api.KElim, 1), Var(0)),
	}
}

func tooDeep() []api.Term {
	l := []api.Term{elimAt(api.MaxDepth), App(elimAt(api.MaxDepth), Var(0)), Lam(Const(0), chain(api.KApp, api.MaxDepth, 0)), chain(api.KApp, 1<<12, 0)}
	for _, kind := range []int{api.KPi, api.KLam, api.KApp} {
		l = append(l, chain(kind, api.MaxDepth+1, 0), chain(kind, api.MaxDepth+1, 1), chain(kind, 1000, 1))
	}
	return l
}

// unshaped are all that are not shaped.
func unshaped() []api.Term {
	return slices.Concat(wrongOnes(), tooGreat(), tooDeep())
}

// told writes a term that ends.
func told(t api.Term) string {
	if Size(t) > 60 {
		return "a term of kind " + strconv.Itoa(t.Kind) + ", size " + strconv.Itoa(Size(t)) + ", depth " + strconv.Itoa(Depth(t))
	}
	words := []string{strconv.Itoa(t.Kind), strconv.Itoa(t.N)}
	for _, s := range t.Sub {
		words = append(words, told(s))
	}
	return "(" + strings.Join(words, " ") + ")"
}

// replaced makes t anew, with another term in the place of the i-th of its nodes, and tells how many are left to be gone over.
func replaced(t api.Term, i int, with api.Term) (api.Term, int) {
	if i == 0 {
		return with, -1
	}
	i--
	subs := slices.Clone(t.Sub)
	for j := range subs {
		if i < 0 {
			break
		}
		subs[j], i = replaced(subs[j], i, with)
	}
	t.Sub = subs
	return t, i
}

// small are all terms of at most n nodes over a few numbers.
func small(n int) []api.Term {
	by := [][]api.Term{nil, {Var(0), Var(1), Var(3), Sort(2), Const(0), Const(2), Free(0), Free(4)}, {Elim(1, 0), Elim(2, 1)}}
	for size := 3; size <= n; size++ {
		var l []api.Term
		for left := 1; left < size-1; left++ {
			for _, a := range by[left] {
				for _, b := range by[size-1-left] {
					l = append(l, Pi(a, b), Lam(a, b), App(a, b))
				}
			}
		}
		by = append(by, l)
	}
	return slices.Concat(by[:n+1]...)
}

func TestShaped(t *testing.T) { // P7.1
	for _, x := range slices.Concat(shapedOnes(), atLimit()) {
		if !Shaped(x) {
			t.Errorf("Shaped(%s): false", told(x))
		}
	}
	for _, x := range unshaped() {
		if Shaped(x) {
			t.Errorf("Shaped(%s): true", told(x))
		}
	}
}

// TestWrongWithin puts what is not shaped into each place of what is.
func TestWrongWithin(t *testing.T) { // P7.1
	wrong := unshaped()
	for _, x := range shapedOnes() {
		for i := range Size(x) {
			for _, bad := range wrong {
				if y, _ := replaced(x, i, bad); Shaped(y) || Right(y, math.MaxInt, math.MaxInt) {
					t.Errorf("%s, with %s at %d: shaped", told(x), told(bad), i)
				}
			}
		}
	}
}

// asShaped tells, by the chapter's list of kinds, whether a node is shaped whose Subs are.
func asShaped(x api.Term) bool {
	upTo := func(most int) bool { return x.N >= 0 && x.N <= most }
	switch x.Kind {
	case 1, 6, 8:
		return upTo(1<<20) && len(x.Sub) == 0
	case 2:
		return upTo(7) && len(x.Sub) == 0
	case 3, 4, 5:
		return x.N == 0 && len(x.Sub) == 2
	case 7:
		return upTo(1<<20) && len(x.Sub) == 1 && x.Sub[0].Kind == 2
	}
	return false
}

// TestKinds goes over all nodes of one level above a few.
func TestKinds(t *testing.T) { // P7.1
	subs := [][]api.Term{nil}
	for from := 0; len(subs[from]) < 3; from++ {
		for _, s := range []api.Term{Var(0), Sort(7), Pi(Sort(0), Var(0)), Elim(2, 0), Const(1)} {
			subs = append(subs, append(slices.Clone(subs[from]), s))
		}
	}
	yes := 0
	for kind := -2; kind <= 11; kind++ {
		for _, n := range []int{math.MinInt, -1, 0, 1, 6, 7, 8, 1<<20 - 1, 1 << 20, 1<<20 + 1, math.MaxInt} {
			for _, l := range subs {
				x := raw(kind, n, l...)
				want := asShaped(x)
				if Shaped(x) != want || Right(x, math.MaxInt, math.MaxInt) != want {
					t.Errorf("Shaped(%s): %v", told(x), !want)
				}
				if want {
					yes++
				}
			}
		}
	}
	if yes != 3*7+4+7+3*25 { // those without Subs, eliminators into the one universe, those with two Subs
		t.Errorf("%d shaped ones", yes)
	}
}

func TestSize(t *testing.T) { // P7.1
	for n := 1; n <= 40; n++ {
		if Size(bush(n)) != n {
			t.Errorf("%d: %d", n, Size(bush(n)))
		}
	}
	for n := range 3 {
		if m := api.MaxNodes - 1 + n; Size(bush(m)) != m {
			t.Errorf("%d: %d", m, Size(bush(m)))
		}
	}
	for _, x := range append(tooGreat(), bush(api.MaxNodes+2)) {
		if Size(x) != api.MaxNodes+1 {
			t.Errorf("%s", told(x))
		}
	}
	wide := raw(api.KVar, -1, slices.Repeat([]api.Term{{}}, api.MaxNodes-1)...)
	if Size(api.Term{}) != 1 || Size(raw(9, 0, Var(0), Var(0), Elim(0, 0))) != 5 || Size(wide) != api.MaxNodes || Size(Pi(wide, wide)) != api.MaxNodes+1 {
		t.Error("what is not shaped is counted, too")
	}
}

func TestDepth(t *testing.T) { // P7.1
	for at := range 2 {
		for n := 1; n <= api.MaxDepth+3; n++ {
			want := min(n, api.MaxDepth+1)
			for _, kind := range []int{api.KPi, api.KLam, api.KApp, 9} {
				if got := Depth(chain(kind, n, at)); got != want {
					t.Errorf("%d levels of kind %d: %d", n, kind, got)
				}
			}
		}
	}
	for _, x := range slices.Concat(tooGreat(), tooDeep()) {
		if Depth(x) != api.MaxDepth+1 {
			t.Errorf("%s", told(x))
		}
	}
	wide := raw(api.KSort, 0, slices.Repeat([]api.Term{Var(0)}, api.MaxNodes)...)
	if Depth(wide) != api.MaxDepth+1 || Depth(raw(api.KSort, 0, wide.Sub[1:]...)) != 2 || Depth(bush(api.MaxNodes)) != 14 || Depth(api.Term{}) != 1 {
		t.Error("wide ones")
	}
	if Depth(Elim(0, 0)) != 2 || Depth(App(Var(0), Pi(Sort(0), Elim(0, 0)))) != 4 || Depth(App(Pi(Sort(0), Elim(0, 0)), Var(0))) != 4 {
		t.Error("eliminators")
	}
}

func TestRight(t *testing.T) { // P7.1
	for i, c := range []struct {
		t              api.Term
		loose, entries int // the least that are enough
	}{
		{Sort(0), 0, 0}, {Free(5), 0, 0}, {Var(0), 1, 0}, {Var(4), 5, 0}, {Var(api.MaxFree), api.MaxFree + 1, 0},
		{Const(0), 0, 1}, {Const(4), 0, 5}, {Const(api.MaxFree), 0, api.MaxFree + 1}, {Elim(0, 0), 0, 1}, {Elim(4, 1), 0, 5}, {Elim(api.MaxFree, 7), 0, api.MaxFree + 1},
		{Lam(Sort(0), Var(0)), 0, 0}, {Lam(Sort(0), Var(1)), 1, 0}, {Lam(Var(0), Sort(0)), 1, 0}, {Lam(Var(0), Var(1)), 1, 0}, {Lam(Var(1), Var(0)), 2, 0},
		{Pi(Sort(0), Var(0)), 0, 0}, {Pi(Sort(0), Var(1)), 1, 0}, {Pi(Var(0), Sort(0)), 1, 0}, {Pi(Var(0), Var(1)), 1, 0}, {Pi(Var(1), Var(0)), 2, 0},
		{App(Var(0), Sort(0)), 1, 0}, {App(Sort(0), Var(0)), 1, 0}, {App(Var(1), Var(2)), 3, 0}, {App(Var(2), Var(1)), 3, 0},
		{Pi(Sort(0), Lam(Var(0), Var(1))), 0, 0}, {Pi(Sort(0), Lam(Var(0), Var(2))), 1, 0}, {Pi(Sort(0), Lam(Var(1), Var(0))), 1, 0}, {Lam(Pi(Sort(0), Var(1)), Var(0)), 1, 0},
		{App(Const(2), Lam(Const(3), Elim(1, 0))), 0, 4}, {App(Lam(Const(1), Elim(3, 0)), Const(2)), 0, 4}, {Pi(Const(1), App(Var(1), Elim(0, 0))), 1, 2},
		{chain(api.KLam, api.MaxDepth, 1), 0, 1}, {chain(api.KLam, api.MaxDepth, 0), 1, 1}, {chain(api.KPi, api.MaxDepth, 0), 1, 1},
	} {
		for _, loose := range []int{c.loose, c.loose + 1, math.MaxInt} {
			for _, entries := range []int{c.entries, c.entries + 1, math.MaxInt} {
				if !Right(c.t, loose, entries) {
					t.Errorf("%d: not right with %d, %d", i, loose, entries)
				}
				if Right(c.t, c.loose-1, entries) || Right(c.t, -1, entries) || Right(c.t, math.MinInt, entries) {
					t.Errorf("%d: right with too few loose variables", i)
				}
			}
			if c.entries > 0 && (Right(c.t, loose, c.entries-1) || Right(c.t, loose, -1) || Right(c.t, loose, math.MinInt)) {
				t.Errorf("%d: right with too few entries", i)
			}
		}
	}
	if !Right(Free(0), 0, -1) || !Right(Sort(0), 0, math.MinInt) { // what names no entry asks for none
		t.Error("entries below 0")
	}
	for _, x := range unshaped() {
		if Right(x, math.MaxInt, math.MaxInt) || Right(x, api.MaxFree+1, api.MaxFree+1) || Right(x, 0, 0) {
			t.Errorf("%s is right", told(x))
		}
	}
}

// looseOf tells a term's loose variables: beneath a binder each is one more than outside.
func looseOf(x api.Term) map[int]int {
	l := map[int]int{}
	if x.Kind == api.KVar {
		l[x.N]++
	}
	for i, s := range x.Sub {
		for n, times := range looseOf(s) {
			if i == 1 && (x.Kind == api.KPi || x.Kind == api.KLam) {
				n--
			}
			if n >= 0 {
				l[n] += times
			}
		}
	}
	return l
}

// namedOf tells the numbers of a term's nodes of two kinds.
func namedOf(x api.Term, one, other int) map[int]int {
	l := map[int]int{}
	if x.Kind == one || x.Kind == other {
		l[x.N]++
	}
	for _, s := range x.Sub {
		for n, times := range namedOf(s, one, other) {
			l[n] += times
		}
	}
	return l
}

// rising tells a map's keys in order.
func rising(l map[int]int) []int {
	keys := []int{}
	for n := range l {
		keys = append(keys, n)
	}
	slices.Sort(keys)
	return keys
}

// greatest tells one more than the last of a rising list, 0 of none.
func greatest(l []int) int {
	if len(l) == 0 {
		return 0
	}
	return l[len(l)-1] + 1
}

// TestAll holds all small terms against what is reckoned from the chapter's words.
func TestAll(t *testing.T) { // P7.1, P7.3, P7.5
	all := small(6)
	for _, x := range all {
		loose, entries := rising(looseOf(x)), rising(namedOf(x, api.KConst, api.KElim))
		if !slices.Equal(Frees(x), rising(namedOf(x, api.KFree, 0))) || !slices.Equal(Entries(x), entries) {
			t.Fatalf("%s: Frees %v, Entries %v", told(x), Frees(x), Entries(x))
		}
		if Loose(x) != greatest(loose) {
			t.Fatalf("%s: Loose %d", told(x), Loose(x))
		}
		for n := -2; n < 6; n++ {
			if Has(x, n) != slices.Contains(loose, n) {
				t.Fatalf("%s: Has %d: %v", told(x), n, Has(x, n))
			}
			for m := -1; m < 5; m++ {
				want := n >= greatest(loose) && m >= greatest(entries) || n >= greatest(loose) && len(entries) == 0
				if Right(x, n, m) != want {
					t.Fatalf("%s: Right with %d, %d: %v", told(x), n, m, !want)
				}
			}
		}
	}
	if len(all) < 16000 {
		t.Errorf("%d terms", len(all))
	}
}

// TestLeast asks P7.5 of terms at the limits, too.
func TestLeast(t *testing.T) { // P7.5
	for _, x := range slices.Concat(shapedOnes(), atLimit()) {
		loose, entries := Loose(x), greatest(Entries(x))
		for _, more := range []int{0, 1, 1000, math.MaxInt - api.MaxFree - 1} {
			if !Right(x, loose+more, entries+more) {
				t.Errorf("%s, with %d more", told(x), more)
			}
		}
		if Right(x, loose-1, entries) || entries > 0 && Right(x, loose, entries-1) {
			t.Errorf("%s, with one less", told(x))
		}
	}
}

// untouched tells whether a list of terms is, node by node, what it was.
func untouched(t *testing.T, now, was []api.Term) {
	t.Helper()
	if !reflect.DeepEqual(now, was) {
		t.Error("what was handed in was changed")
	}
}

// TestUntouched asks all of terms that must stay as they are.
func TestUntouched(t *testing.T) {
	now, was := slices.Concat(shapedOnes(), wrongOnes()), slices.Concat(shapedOnes(), wrongOnes())
	for _, x := range now {
		Shaped(x)
		Right(x, 1, 1)
		Same(x, now[0])
		Spine(x)
		Frees(x)
		Entries(x)
		Has(x, 0)
		Loose(x)
		Copy(x)
		Apply(x, now...)
		if Size(x) < 1 || Depth(x) < 1 {
			t.Errorf("%s", told(x))
		}
	}
	untouched(t, now, was)
}
