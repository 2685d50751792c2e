package norm

import (
	"reflect"
	"slices"
	"sync"
	"testing"

	"scholium/api"
	"scholium/sign"
	"scholium/term"
	"scholium/whnf"
)

// mark stands in the room behind the end of lists of terms.
var mark = term.Free(77)

// roomy gives a term anew, each list of it with room behind its end that bears a mark.
func roomy(t api.Term) api.Term {
	l := terms()
	for _, s := range t.Sub {
		l = append(l, roomy(s))
	}
	n := len(l)
	t.Sub = append(l, mark, mark)[: n : n+2]
	return t
}

// roomyAll gives entries anew likewise.
func roomyAll(l []api.Entry) []api.Entry {
	ints := func(l []int) []int { return append(slices.Clone(l), 77, 77)[: len(l) : len(l)+2] }
	var all []api.Entry
	for _, e := range l {
		e.Type, e.Body, e.Cons, e.Fields = roomy(e.Type), roomy(e.Body), ints(e.Cons), ints(e.Fields)
		all = append(all, e)
	}
	return append(all, api.Entry{Kind: 77}, api.Entry{Kind: 77})[: len(l) : len(l)+2]
}

// marked tells whether a term that was made roomy still bears its marks.
func marked(t api.Term) bool {
	behind := t.Sub[len(t.Sub):cap(t.Sub)]
	return len(behind) == 2 && term.Same(behind[0], mark) && term.Same(behind[1], mark) && !slices.ContainsFunc(t.Sub, func(s api.Term) bool { return !marked(s) })
}

// markedAll tells whether entries that were made roomy still bear their marks.
func markedAll(l []api.Entry) bool {
	ints := func(l []int) bool { return slices.Equal(l[len(l):cap(l)], []int{77, 77}) }
	for _, e := range l {
		if !marked(e.Type) || !marked(e.Body) || !ints(e.Cons) || !ints(e.Fields) {
			return false
		}
	}
	behind := l[len(l):cap(l)]
	return len(behind) == 2 && reflect.DeepEqual(behind[0], api.Entry{Kind: 77}) && reflect.DeepEqual(behind[1], api.Entry{Kind: 77})
}

// spoil writes over a list of terms, all lists within it, and the room behind their ends.
func spoil(l []api.Term) {
	for _, t := range l {
		spoil(t.Sub)
	}
	for i := range l[:cap(l)] {
		l[:cap(l)][i] = api.Term{Kind: -1, N: -1}
	}
}

// spoilAll writes over entries likewise.
func spoilAll(l []api.Entry) {
	for _, e := range l {
		spoil(e.Type.Sub)
		spoil(e.Body.Sub)
		for _, ints := range [][]int{e.Cons, e.Fields} {
			for i := range ints[:cap(ints)] {
				ints[:cap(ints)][i] = -5
			}
		}
	}
	for i := range l[:cap(l)] {
		l[:cap(l)][i] = api.Entry{Kind: -5, Name: "spoilt"}
	}
}

// asked are terms of which the calls' answers might share memory with them, with each other, and with the machine.
func asked() []api.Term {
	part := app(x(1), v(0), lam(k(nat), v(1)))
	return terms(
		part, lam(part, part), fn(part, part), k(suc, part), number(3), k(pair, part, part, part, part), k(more, part, k(bare, part)), elim(nat, 0, part, part, part, part), elim(nat, 0, part), app(fn(part, part), part),
		app(lam(set, app(v(0), v(0), v(1))), part), app(lam(set, lam(set, app(v(1), v(1)))), part), app(lam(set, v(0)), part, part), app(lam(set, v(3)), part, k(two)),
		k(two), k(plus), k(plus, k(two), k(one)), k(ack, part), k(id, part, part, k(one)), k(times, number(2), part), lam(k(plus, k(one)), k(ack, k(one))), fn(k(two), k(two), k(two)),
		k(fst, part, k(one), k(pair, part, part, part, part), part), k(snd, part, part, k(couple, part)), k(open, k(id, part, part)), k(great), k(tall), app(x(1), k(great), k(tall)),
		elim(nat, 1, part, part, part, k(suc, part), part), elim(nat, 0, part, part, part, k(plus, part, part)), elim(tree, 0, part, part, part, part, k(sup, part, part, part, part), part),
	)
}

// answers are what Norm tells of some terms.
func answers(t *testing.T, m *whnf.Machine, l []api.Term) []api.Term {
	t.Helper()
	var all []api.Term
	for _, from := range l {
		got, e := Norm(m, from, fuel(200))
		if e != api.OK {
			t.Fatal(told(from), e)
		}
		all = append(all, got)
	}
	return all
}

// like asks that two lists of terms are the same.
func like(t *testing.T, what string, got, want []api.Term) {
	t.Helper()
	if !slices.EqualFunc(got, want, term.Same) {
		t.Fatal(what)
	}
}

// held asks that entries and terms that were made roomy are as they were.
func held(t *testing.T, l []api.Entry, given []api.Term) {
	t.Helper()
	if !sign.Same(l, world()) || !markedAll(l) || !slices.EqualFunc(given, asked(), term.Same) || slices.ContainsFunc(given, func(t api.Term) bool { return !marked(t) }) {
		t.Fatal("what was given was changed, or shares memory with what came")
	}
}

// given are a signature and terms with room behind each list, and a machine of that signature.
func given(t *testing.T) ([]api.Entry, []api.Term, *whnf.Machine) {
	t.Helper()
	l, from := roomyAll(world()), terms()
	for _, each := range asked() {
		from = append(from, roomy(each))
	}
	m, e := whnf.New(l)
	if e != api.OK {
		t.Fatal(e)
	}
	return l, from, m
}

// TestMemory writes over what came back, and over what was given.
func TestMemory(t *testing.T) { // P15.1
	l, from, m := given(t)
	want := answers(t, machine(t), asked())
	all := answers(t, m, from)
	for i := range all {
		like(t, "what came shares memory with others that came", all[i:], want[i:])
		spoil(all[i].Sub)
	}
	held(t, l, from)
	all = answers(t, m, from) // the machine is as it was, too
	spoil(from)
	spoilAll(l)
	like(t, "what came shares memory with what was given", all, want)
	like(t, "the machine shares memory", answers(t, m, asked()), want)
}

// TestOfMemory does so with the call in a signature.
func TestOfMemory(t *testing.T) { // P15.1
	for i, want := range answers(t, machine(t), asked()) {
		l, from, _ := given(t)
		got, _, e := Of(l, from[i], 200)
		same(t, told(from[i]), got, e, want)
		again, _, e := Of(l, from[i], 200)
		spoil(terms(got))
		held(t, l, from)
		same(t, told(from[i])+", again", again, e, want)
		spoil(from)
		spoilAll(l)
		same(t, told(want)+", what was given written over", again, e, want)
	}
}

// TestAskedMemory asks that what is but asked about stays as it is.
func TestAskedMemory(t *testing.T) { // P15.2
	l, from, m := given(t)
	for _, each := range from {
		_ = Value(m, each)
		_ = Normal(m, each)
		_, _ = Number(m, each)
	}
	held(t, l, from)
	for _, part := range from {
		for _, n := range terms(k(suc, part), k(bare, part), k(more, part, k(bare, part)), k(pair, part, part, part, part)) {
			want := term.Copy(n)
			_ = Value(m, n)
			_ = Normal(m, n)
			_, _ = Number(m, n)
			if !term.Same(n, want) {
				t.Errorf("%s was changed", told(want))
			}
		}
	}
	held(t, l, from)
}

// TestTwins asks that no two lists of one answer share memory, where one term comes several times.
func TestTwins(t *testing.T) { // P15.1
	part := app(x(1), v(0))
	twins := append(asked(), k(sup, part, part, part, part), app(lam(set, app(v(0), v(0), v(0))), part), lam(part, part), fn(part, part), app(fn(part, part), part, part))
	for i, got := range answers(t, machine(t), twins) {
		seen := map[*api.Term]struct{}{}
		var each func(l []api.Term) bool
		each = func(l []api.Term) bool {
			for j := range l {
				if _, twice := seen[&l[j]]; twice || !each(l[j].Sub) {
					return false
				}
				seen[&l[j]] = struct{}{}
			}
			return true
		}
		if !each(terms(got)) {
			t.Errorf("%d: two lists of one memory", i)
		}
	}
}

// TestTogether asks the same machine from many sides at once.
func TestTogether(t *testing.T) { // P15.1
	m := machine(t)
	want := answers(t, m, asked())
	var wait sync.WaitGroup
	told := make([][]api.Term, 8)
	for i := range told {
		wait.Go(func() { told[i] = answers(t, m, asked()) })
	}
	wait.Wait()
	for i := range told {
		like(t, "other answers", told[i], want)
	}
}
