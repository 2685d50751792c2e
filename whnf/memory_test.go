package whnf

import (
	"reflect"
	"slices"
	"sync"
	"testing"

	"scholium/api"
	"scholium/sign"
	"scholium/term"
)

// mark stands in the room behind the end of lists of terms.
var mark = term.Free(77)

// roomy gives a term anew, each list of it with room behind its end that bears a mark.
func roomy(t api.Term) api.Term {
	room := terms()
	for _, s := range t.Sub {
		room = append(room, roomy(s))
	}
	n := len(room)
	t.Sub = append(room, mark, mark)[: n : n+2]
	return t
}

// roomyAll gives entries anew likewise.
func roomyAll(l []api.Entry) []api.Entry {
	ints := func(l []int) []int { return append(slices.Clone(l), 77, 77)[: len(l) : len(l)+2] }
	var room []api.Entry
	for _, e := range l {
		e.Type, e.Body, e.Cons, e.Fields = roomy(e.Type), roomy(e.Body), ints(e.Cons), ints(e.Fields)
		room = append(room, e)
	}
	return append(room, api.Entry{Kind: 77}, api.Entry{Kind: 77})[: len(l) : len(l)+2]
}

// marked tells whether a term that was made roomy still bears its marks.
func marked(t api.Term) bool {
	behind := t.Sub[len(t.Sub):cap(t.Sub)]
	return len(behind) == 2 && term.Same(behind[0], mark) && term.Same(behind[1], mark) && !slices.ContainsFunc(t.Sub, func(s api.Term) bool { return !marked(s) })
}

// markedAll tells whether entries that were made roomy still bear their marks.
func markedAll(l []api.Entry) bool {
	ints := func(l []int) bool { return slices.Equal(l[len(l):cap(l)], []int{77, 77}) }
	for _, e := range l {
		if !marked(e.Type) || !marked(e.Body) || !ints(e.Cons) || !ints(e.Fields) {
			return false
		}
	}
	behind := l[len(l):cap(l)]
	return len(behind) == 2 && reflect.DeepEqual(behind[0], api.Entry{Kind: 77}) && reflect.DeepEqual(behind[1], api.Entry{Kind: 77})
}

// spoil writes over a list of terms, all lists within it, and the room behind their ends.
func spoil(l []api.Term) {
	for _, t := range l {
		spoil(t.Sub)
	}
	for i := range l[:cap(l)] {
		l[:cap(l)][i] = api.Term{Kind: -1, N: -1}
	}
}

// spoilAll writes over entries likewise.
func spoilAll(l []api.Entry) {
	for _, e := range l {
		spoil(e.Type.Sub)
		spoil(e.Body.Sub)
		for _, ints := range [][]int{e.Cons, e.Fields} {
			for i := range ints[:cap(ints)] {
				ints[:cap(ints)][i] = -5
			}
		}
	}
	for i := range l[:cap(l)] {
		l[:cap(l)][i] = api.Entry{Kind: -5, Name: "spoilt"}
	}
}

// asked are terms of which the calls' answers might share memory with them, with each other, and with the machine.
func asked() []api.Term {
	some := app(x(1), v(0), lam(k(nat), v(1)))
	return terms(
		some, lam(some, some), fn(some, some), k(suc, some), k(pair, some, some, some, some), elim(nat, 0, some, some, some, some), elim(nat, 0, some),
		app(lam(set, app(v(0), v(0), v(1))), some), app(lam(set, lam(set, app(v(1), v(1)))), some), app(lam(set, v(0)), some, some), app(lam(set, v(3)), some, some),
		k(two), k(plus), k(ack, some), k(id, some, some, some), k(plus, number(2), some), k(times, number(2), some),
		k(fst, some, some, k(pair, some, some, some, some), some), k(snd, some, some, k(couple, some), some), k(fst, some, some, some, some), k(open, k(snd, some, some, k(couple, some))),
		elim(nat, 1, some, some, some, k(suc, some), some), elim(nat, 0, some, some, some, k(id, some, k(zero)), some), elim(nat, 0, some, some, some, k(plus, some, some)),
		elim(tree, 0, some, some, some, some, k(sup, some, some, some, some), some), elim(vec, 0, some, some, some, some, some, k(vcons, some, some, some, some)),
	)
}

// answers are what all calls answer of some terms, each answer's terms one behind the other.
func answers(t *testing.T, m *Machine, l []api.Term) [][]api.Term {
	t.Helper()
	var all [][]api.Term
	for _, from := range l {
		got, e := m.Bring(from, fuel(100))
		if e != api.OK {
			t.Fatal(told(from), e)
		}
		all = append(all, terms(got))
		got, _, e = m.Once(from, fuel(100))
		if e != api.OK {
			t.Fatal(told(from), e)
		}
		_, args, _ := m.Con(from)
		all = append(all, terms(got), args)
	}
	for _, e := range m.Entries() {
		all = append(all, terms(e.Type, e.Body))
	}
	return all
}

// like tells whether two lists of terms are the same; of entries without a body there is one that is not shaped.
func like(a, b []api.Term) bool { return slices.EqualFunc(a, b, same2) }

// same2 tells whether all is the same in two terms, whether they are shaped or not.
func same2(a, b api.Term) bool {
	return a.Kind == b.Kind && a.N == b.N && slices.EqualFunc(a.Sub, b.Sub, same2)
}

// TestMemory writes over what came back, and over what was given.
func TestMemory(t *testing.T) { // P14.1, P14.2
	given, l := terms(), roomyAll(world())
	for _, from := range asked() {
		given = append(given, roomy(from))
	}
	m, e := New(l)
	if e != api.OK {
		t.Fatal(e)
	}
	want := answers(t, machine(t), asked())
	all := answers(t, m, given)
	for i := range all {
		if !like(all[i], want[i]) {
			t.Fatalf("%d: %v, not %v", i, all[i], want[i])
		}
		spoil(all[i])
		for j := i + 1; j < len(all); j++ {
			if !like(all[j], want[j]) {
				t.Fatalf("%d shares memory with %d", i, j)
			}
		}
	}
	if !sign.Same(l, world()) || !markedAll(l) || !slices.EqualFunc(given, asked(), term.Same) || slices.ContainsFunc(given, func(t api.Term) bool { return !marked(t) }) {
		t.Fatal("what was given was changed, or shares memory with what came")
	}
	all = answers(t, m, given) // the machine is as it was, too
	spoil(given)
	spoilAll(l)
	for i := range all {
		if !like(all[i], want[i]) {
			t.Fatalf("%d shares memory with what was given", i)
		}
	}
	for i, now := range answers(t, m, asked()) {
		if !like(now, want[i]) {
			t.Fatalf("%d: the machine shares memory with what was given", i)
		}
	}
}

// TestEntriesMemory writes over the entries that a machine told.
func TestEntriesMemory(t *testing.T) { // P14.1
	m := machine(t)
	told := m.Entries()
	spoilAll(told)
	if !sign.Same(m.Entries(), world()) || m.Len() != end {
		t.Error("the machine shares memory with what it told")
	}
	comes := func(from, to api.Term) {
		t.Helper()
		got, e := m.Bring(from, fuel(100))
		same(t, "behind it", got, e, to)
	}
	comes(k(one), number(1))
	comes(k(plus, number(1), k(zero)), k(suc, add(k(zero), k(zero))))
	comes(k(snd, x(1), x(2), k(couple, x(3))), k(suc, x(3)))
}

// TestBringMemory writes over what the call in a signature told, and was given.
func TestBringMemory(t *testing.T) { // P14.2
	for _, from := range asked() {
		l, given := roomyAll(world()), roomy(from)
		want, _, e := Bring(world(), from, 100)
		if e != api.OK {
			t.Fatal(e)
		}
		got, _, e := Bring(l, given, 100)
		same(t, told(from), got, e, want)
		again, _, _ := Bring(l, given, 100)
		spoil(terms(got))
		if !sign.Same(l, world()) || !markedAll(l) || !term.Same(given, from) || !marked(given) || !term.Same(again, want) {
			t.Errorf("%s: what came shares memory", told(from))
		}
		spoil(terms(given))
		spoilAll(l)
		same(t, told(from), again, e, want)
	}
}

// TestTwins asks that no two lists of one answer share memory, where one term comes several times.
func TestTwins(t *testing.T) { // P14.1, P14.2
	m := machine(t)
	some := app(x(1), v(0))
	twins := append(asked(), k(sup, some, some, some, some), app(lam(set, app(v(0), v(0), v(0))), some))
	for i, got := range answers(t, m, twins) {
		seen := map[*api.Term]struct{}{}
		var each func(l []api.Term) bool
		each = func(l []api.Term) bool {
			for j := range l {
				if _, twice := seen[&l[j]]; twice || !each(l[j].Sub) {
					return false
				}
				seen[&l[j]] = struct{}{}
			}
			return true
		}
		if !each(got) {
			t.Errorf("%d: two lists of one memory", i)
		}
	}
}

// TestTogether asks the same machine from many sides at once.
func TestTogether(t *testing.T) { // P14.1
	m := machine(t)
	want := answers(t, m, asked())
	var wait sync.WaitGroup
	told := make([][][]api.Term, 8)
	for i := range told {
		wait.Go(func() { told[i] = answers(t, m, asked()) })
	}
	wait.Wait()
	for i := range told {
		if !slices.EqualFunc(told[i], want, like) {
			t.Errorf("%d: other answers", i)
		}
	}
}
