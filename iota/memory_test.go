package iota

import (
	"reflect"
	"slices"
	"sync"
	"testing"

	"scholium/api"
	"scholium/sign"
	"scholium/term"
)

// mark stands in the room behind the end of lists of terms.
var mark = term.Free(77)

// roomy gives a term anew, each list of it with room behind its end that bears a mark.
func roomy(t api.Term) api.Term {
	t.Sub = roomyTerms(t.Sub)
	return t
}

// roomyTerms gives a list of terms anew likewise.
func roomyTerms(l []api.Term) []api.Term {
	room := terms()
	for _, t := range l {
		room = append(room, roomy(t))
	}
	return append(room, mark, mark)[: len(l) : len(l)+2]
}

// roomyInts gives a list of numbers anew likewise.
func roomyInts(l []int) []int { return append(slices.Clone(l), 77, 77)[: len(l) : len(l)+2] }

// roomyAll gives entries anew likewise.
func roomyAll(l []api.Entry) []api.Entry {
	var room []api.Entry
	for _, e := range l {
		e.Type, e.Body, e.Cons, e.Fields = roomy(e.Type), roomy(e.Body), roomyInts(e.Cons), roomyInts(e.Fields)
		room = append(room, e)
	}
	return append(room, api.Entry{Kind: 77}, api.Entry{Kind: 77})[: len(l) : len(l)+2]
}

// marked tells whether a list of terms that was made roomy still bears its marks.
func marked(l []api.Term) bool {
	behind := l[len(l):cap(l)]
	return len(behind) == 2 && same2(behind[0], mark) && same2(behind[1], mark) && !slices.ContainsFunc(l, func(t api.Term) bool { return !marked(t.Sub) })
}

// markedAll tells whether entries that were made roomy still bear their marks.
func markedAll(l []api.Entry) bool {
	ints := func(l []int) bool { return slices.Equal(l[len(l):cap(l)], []int{77, 77}) }
	for _, e := range l {
		if !marked(e.Type.Sub) || !marked(e.Body.Sub) || !ints(e.Cons) || !ints(e.Fields) {
			return false
		}
	}
	behind := l[len(l):cap(l)]
	return len(behind) == 2 && reflect.DeepEqual(behind[0], api.Entry{Kind: 77}) && reflect.DeepEqual(behind[1], api.Entry{Kind: 77})
}

// spoil writes over a list of terms, all lists within it, and the room behind their ends.
func spoil(l []api.Term) {
	for _, t := range l {
		spoil(t.Sub)
	}
	for i := range l[:cap(l)] {
		l[:cap(l)][i] = api.Term{Kind: -1, N: -1}
	}
}

// spoilAll writes over entries likewise.
func spoilAll(l []api.Entry) {
	for _, e := range l {
		spoil(e.Type.Sub)
		spoil(e.Body.Sub)
		for _, ints := range [][]int{e.Cons, e.Fields} {
			for i := range ints[:cap(ints)] {
				ints[:cap(ints)][i] = -5
			}
		}
	}
	for i := range l[:cap(l)] {
		l[:cap(l)][i] = api.Entry{Kind: -5, Name: "spoilt"}
	}
}

// given is what calls are asked with.
type given struct {
	l         []api.Entry
	args, own []api.Term
	r         *Rules
}

// given4 is world and four terms of each, all with room behind their ends.
func given4(t *testing.T) given {
	args := terms(fn(v(0), x(1)), lam(set, app(v(0), v(1))), app(x(2), fn(v(3), v(4))), lam(v(2), x(9), app(v(0), v(1))))
	own := terms(k(suc, v(0)), app(v(5), k(one)), lam(k(nat), app(v(0), v(4))), app(x(6), fn(set, set)))
	g := given{roomyAll(world()), roomyTerms(args), roomyTerms(own), nil}
	r, e := New(g.l)
	if e != api.OK {
		t.Fatal(e)
	}
	g.r = r
	return g
}

// answers are what all calls answer of what is given.
func (g given) answers(t *testing.T) []api.Term {
	t.Helper()
	var all []api.Term
	add := func(got api.Term, e api.Errno) {
		t.Helper()
		if e != api.OK {
			t.Fatal(e)
		}
		all = append(all, got)
	}
	add(Step(g.l, many, 1, most, g.args, g.own))
	add(g.r.Step(many, 1, most, g.args, g.own))
	add(g.r.Step(vec, 1, vcons, g.args, g.own[:3]))
	add(g.r.Step(sigma, 1, pair, g.args, g.own[:2]))
	add(Step(g.l, list, 1, nil0, g.args, nil))
	add(g.r.Step(list, 1, nil0, g.args, nil))
	add(Field(g.l, fst, g.own[:2]))
	add(g.r.Field(snd, g.own[:2]))
	add(Motive(g.l, acc, 1, g.args[:2]))
	add(Method(g.l, most, g.args[:2], g.args[3])) // what stands behind the parameters is another one
	add(Method(g.l, zero, nil, g.args[2]))
	add(Type(g.l, many, 1))
	return all
}

// TestMemory writes over what came back, and over what was given.
func TestMemory(t *testing.T) { // P13.1, P13.2
	g := given4(t)
	want := given4(t).answers(t)
	all := g.answers(t)
	for i := range all {
		if !term.Same(all[i], want[i]) {
			t.Fatalf("%d: %s, not %s", i, told(all[i]), told(want[i]))
		}
		spoil(all[i].Sub)
		for j := i + 1; j < len(all); j++ {
			if !term.Same(all[j], want[j]) {
				t.Fatalf("%d shares memory with %d", i, j)
			}
		}
	}
	if !sign.Same(g.l, world()) || !markedAll(g.l) || !marked(g.args) || !marked(g.own) {
		t.Fatal("what was given was changed, or shares memory with what came")
	}
	all = g.answers(t) // the rules are as they were, too
	spoil(g.args)
	spoil(g.own)
	spoilAll(g.l)
	for i := range all {
		if !term.Same(all[i], want[i]) {
			t.Fatalf("%d shares memory with what was given", i)
		}
	}
}

// TestRulesMemory asks rules of what was written over since.
func TestRulesMemory(t *testing.T) { // P13.1
	g := given4(t)
	spoilAll(g.l)
	g.l = roomyAll(world())
	for i, want := range given4(t).answers(t) {
		if got := g.answers(t)[i]; !term.Same(got, want) {
			t.Errorf("%d: %s, not %s", i, told(got), told(want))
		}
	}
}

// TestTwins asks that no two lists of one answer share memory, where one term comes several times.
func TestTwins(t *testing.T) { // P13.1, P13.2
	for i, got := range given4(t).answers(t) {
		seen := map[*api.Term]struct{}{}
		var each func(t api.Term) bool
		each = func(t api.Term) bool {
			for j := range t.Sub {
				if _, twice := seen[&t.Sub[j]]; twice {
					return false
				}
				seen[&t.Sub[j]] = struct{}{}
			}
			return !slices.ContainsFunc(t.Sub, func(s api.Term) bool { return !each(s) })
		}
		if !each(got) {
			t.Errorf("%d: %s has two lists of one memory", i, told(got))
		}
	}
}

// TestTogether asks the same rules from many sides at once.
func TestTogether(t *testing.T) { // P13.1
	g := given4(t)
	want := g.answers(t)
	var wait sync.WaitGroup
	told := make([][]api.Term, 8)
	for i := range told {
		wait.Go(func() { told[i] = g.answers(t) })
	}
	wait.Wait()
	for i := range told {
		if !slices.EqualFunc(told[i], want, term.Same) {
			t.Errorf("%d: other answers", i)
		}
	}
}
