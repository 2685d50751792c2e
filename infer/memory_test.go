package infer

import (
	"reflect"
	"slices"
	"sync"
	"testing"

	"scholium/api"
	"scholium/sign"
	"scholium/term"
)

// mark stands in the room behind the end of lists of terms.
var mark = term.Free(77)

// roomy gives a term anew, each list of it with room behind its end that bears a mark.
func roomy(t api.Term) api.Term {
	t.Sub = roomyTerms(t.Sub)
	return t
}

// roomyTerms gives terms anew likewise.
func roomyTerms(from []api.Term) []api.Term {
	l := terms()
	for _, t := range from {
		l = append(l, roomy(t))
	}
	return append(slices.Clip(l), mark, mark)[: len(l) : len(l)+2]
}

// roomyInts gives numbers anew likewise.
func roomyInts(l []int) []int { return append(slices.Clone(l), 77, 77)[: len(l) : len(l)+2] }

// roomyAll gives entries anew likewise.
func roomyAll(l []api.Entry) []api.Entry {
	var all []api.Entry
	for _, e := range l {
		e.Type, e.Body, e.Cons, e.Fields = roomy(e.Type), roomy(e.Body), roomyInts(e.Cons), roomyInts(e.Fields)
		all = append(all, e)
	}
	return append(all, api.Entry{Kind: 77}, api.Entry{Kind: 77})[: len(l) : len(l)+2]
}

// marked tells whether terms that were made roomy still bear their marks.
func marked(l []api.Term) bool {
	behind := l[len(l):cap(l)]
	return len(behind) == 2 && term.Same(behind[0], mark) && term.Same(behind[1], mark) && !slices.ContainsFunc(l, func(t api.Term) bool { return !marked(t.Sub) })
}

// markedInts tells whether numbers that were made roomy still bear their marks.
func markedInts(l []int) bool { return slices.Equal(l[len(l):cap(l)], []int{77, 77}) }

// markedAll tells whether entries that were made roomy still bear their marks.
func markedAll(l []api.Entry) bool {
	for _, e := range l {
		if !marked(e.Type.Sub) || !marked(e.Body.Sub) || !markedInts(e.Cons) || !markedInts(e.Fields) {
			return false
		}
	}
	behind := l[len(l):cap(l)]
	return len(behind) == 2 && reflect.DeepEqual(behind[0], api.Entry{Kind: 77}) && reflect.DeepEqual(behind[1], api.Entry{Kind: 77})
}

// spoil writes over a list of terms, all lists within it, and the room behind their ends.
func spoil(l []api.Term) {
	for _, t := range l {
		spoil(t.Sub)
	}
	for i := range l[:cap(l)] {
		l[:cap(l)][i] = api.Term{Kind: -1, N: -1}
	}
}

// asked are terms of which each two are asked, some with types, some without.
func asked() []api.Term {
	n := k(nat)
	part := fn(v(sort), k(vec, v(sort+1), v(number+1)))
	return terms(
		n, set, s(3), s(7), v(0), v(1), v(2), v(3), v(4), v(5), x(0), x(1), x(3), x(4), x(9), k(zero), k(two), k(suc), k(pairing), term.Elim(nat, 0), term.Elim(vec, 3), term.Elim(zero, 0),
		part, fn(part, part), lam(part, v(0)), lam(part, k(zero)), fn(n, n), fn(set, v(0)), lam(n, v(0)), lam(set, v(0)), lam(n, k(suc, v(0))), k(suc, k(two)), k(suc, n), k(vec, n), k(vec, v(sort), v(number)),
		k(id, part), k(id, n, k(two)), k(onward), k(arrow), x(to), x(moot), app(x(moot), k(two)), app(x(family), k(two)), app(v(second), v(2)), k(couple, k(two)), k(snd, n, lam(n, n), k(couple, k(two))), k(hold, part, v(second)),
		elim(nat, 1, lam(n, set), part, lam(n, set, v(0)), k(two)), elim(nat, 0, lam(n, n)), app(lam(part, v(0)), v(second)), fn(x(to), x(to)), lam(app(lam(set, v(0)), n), v(0)), round(), app(x(any), part), lam(n, v(9)),
	)
}

// verdicts are what all calls tell in a world of each two terms of a list.
func verdicts(entries []api.Entry, w World, l []api.Term) []answer {
	var all []answer
	for i, of := range l {
		for j, a := range l {
			for _, name := range []string{"Infer", "Check", "Universe", "Tele", "Context"} {
				if name == "Check" || i == j || name == "Tele" && (i+j)%7 == 0 {
					got := answered(calls(nil)[name][0], w, 60, of, a, l[min(i, j):max(i, j)])
					got.t = term.Copy(got.t)
					all = append(all, got)
				}
			}
		}
		got, e := Of(entries, of, 60)
		all = append(all, answer{t: term.Copy(got), e: e})
	}
	return all
}

// alike tells whether two lists of answers are the same.
func alike(l, o []answer) bool { return slices.EqualFunc(l, o, answer.like) }

// TestMemory asks that what is handed in, and what lies behind its lists' ends, stays as it is, and that nothing of it is kept.
func TestMemory(t *testing.T) { // P17.1, P17.2
	p := placed(t)
	l, from := roomyAll(world()), roomyTerms(asked())
	w := World{M: machineOf(t, l), Context: roomyTerms(p.Context), Names: roomyInts(p.Names), Types: roomyTerms(p.Types)}
	want := verdicts(world(), p, asked())
	if !alike(verdicts(l, w, from), want) {
		t.Error("other answers")
	}
	if !sign.Same(l, world()) || !markedAll(l) || !slices.EqualFunc(from, asked(), term.Same) || !marked(from) {
		t.Error("what was given was changed")
	}
	if !slices.EqualFunc(w.Context, p.Context, term.Same) || !slices.EqualFunc(w.Types, p.Types, term.Same) || !slices.Equal(w.Names, p.Names) || !marked(w.Context) || !marked(w.Types) || !markedInts(w.Names) {
		t.Error("the world was changed")
	}
	if !sign.Same(w.M.Entries(), world()) {
		t.Error("the machine was changed")
	}
	spoil(from)
	spoil(w.Context)
	spoil(w.Types)
	w.Context, w.Types, w.Names = p.Context, p.Types, p.Names
	if !alike(verdicts(world(), w, asked()), want) {
		t.Error("other answers behind what was written over")
	}
	have, not := 0, 0
	for _, each := range want {
		if each.e == api.OK {
			have++
		} else {
			not++
		}
	}
	if have < 150 || not < 1000 {
		t.Errorf("%d have, %d have not", have, not)
	}
}

// TestNew asks that an answer is new memory, of which no two lists are the same: so it may be written over, and nothing else changes.
func TestNew(t *testing.T) { // P17.1, P17.2
	p := placed(t)
	for _, of := range append(asked(), fn(k(nat), k(nat)), lam(k(nat), k(nat), v(1)), app(lam(fn(set, set), v(0)), lam(set, v(0)))) {
		l, from := world(), roomy(of)
		w := World{machineOf(t, l), fuel(60), roomyTerms(p.Context), roomyInts(p.Names), roomyTerms(p.Types)}
		got, e := Infer(w, from)
		closed, no := Of(l, from, 60)
		for _, each := range []struct {
			t api.Term
			e api.Errno
		}{{got, e}, {closed, no}} {
			if each.e != api.OK {
				continue
			}
			if !apart(each.t) {
				t.Errorf("%s: lists of its type are the same memory", told(of))
			}
			spoil([]api.Term{each.t})
		}
		if !term.Same(from, of) || !marked(from.Sub) || !marked(w.Context) || !marked(w.Types) || !slices.EqualFunc(w.Context, p.Context, term.Same) || !slices.EqualFunc(w.Types, p.Types, term.Same) || !sign.Same(w.M.Entries(), world()) || !sign.Same(l, world()) {
			t.Errorf("%s: its type is memory of what was given", told(of))
		}
		w.F = fuel(60)
		again, no := Infer(w, from)
		want, _ := Infer(World{p.M, fuel(60), p.Context, p.Names, p.Types}, of)
		if no != e || !(answer{t: again}).like(answer{t: want}) {
			t.Errorf("%s: another answer behind what was written over", told(of))
		}
	}
}

// apart tells whether no two lists of a term are the same memory.
func apart(t api.Term) bool {
	seen := map[*api.Term]bool{}
	var each func(t api.Term) bool
	each = func(t api.Term) bool {
		for i := range t.Sub {
			if at := &t.Sub[i]; seen[at] {
				return false
			} else {
				seen[at] = true
			}
		}
		return !slices.ContainsFunc(t.Sub, func(s api.Term) bool { return !each(s) })
	}
	return each(t)
}

// TestRoom asks in contexts with much room behind their ends, more than all binders of what is asked need.
func TestRoom(t *testing.T) { // P17.1, P17.2
	p := placed(t)
	room := append(slices.Clone(p.Context), slices.Repeat(terms(mark), 1000)...)
	w := p
	w.Context = room[:len(p.Context)]
	l := append(asked(), ladder(api.MaxDepth), lam(set, fn(set, v(0), v(2), v(4))))
	lists := append(slices.Clone(l), slices.Repeat(terms(mark), 1000)...)
	if !alike(verdicts(theWorld(), w, lists[:len(l)]), verdicts(theWorld(), p, l)) {
		t.Error("other answers")
	}
	other := func(t api.Term) bool { return !term.Same(t, mark) }
	if slices.ContainsFunc(room[len(p.Context):], other) || slices.ContainsFunc(lists[len(l):], other) {
		t.Error("what lies behind the end was changed")
	}
}

// TestShared asks terms, types and contexts that share memory with each other.
func TestShared(t *testing.T) { // P17.1, P17.2
	p := placed(t)
	for _, part := range asked() {
		for _, of := range terms(part, fn(part, part), app(part, part), lam(part, part), k(pairing, part, part, part, part)) {
			w := p
			w.Context, w.Types = append(slices.Clone(p.Context), part, of), append(slices.Clone(p.Types), of)
			w.Names = append(slices.Clone(p.Names), 9)
			one, other := w, w
			other.Context, other.Types = roomyTerms(w.Context), roomyTerms(w.Types)
			for _, name := range []string{"Infer", "Check", "Universe", "Tele", "Context"} {
				call := calls(nil)[name][0]
				got, want := answered(call, one, 60, of, of, terms(of, part, of)), answered(call, other, 60, term.Copy(of), roomy(of), roomyTerms(terms(of, part, of)))
				if !got.like(want) {
					t.Errorf("%s, %s: %s, not %s", name, told(of), got.written(), want.written())
				}
			}
		}
	}
}

// TestTogether asks in the same world from many sides at once.
func TestTogether(t *testing.T) { // P17.1, P17.2
	p := placed(t)
	p.Context = append(slices.Clone(p.Context), set)[:len(p.Context)]
	want := verdicts(theWorld(), p, asked())
	var wait sync.WaitGroup
	got := make([][]answer, 6)
	for i := range got {
		wait.Go(func() { got[i] = verdicts(theWorld(), p, asked()) })
	}
	wait.Wait()
	for i := range got {
		if !alike(got[i], want) {
			t.Errorf("%d: other answers", i)
		}
	}
}

// TestOneMeter asks several things with one meter: what is left behind an answer, and behind an error, is there for the next one.
func TestOneMeter(t *testing.T) { // P17.1, P17.2
	w, n := placed(t), k(nat)
	w.F = fuel(20)
	calls := calls(nil)
	for i, each := range []struct {
		name  string
		of, a api.Term
		e     api.Errno
		left  int
	}{
		{"Infer", k(suc, k(one)), n, api.OK, 19},
		{"Infer", lam(n, v(0)), n, api.OK, 19},
		{"Check", lam(n, v(0)), k(onward), api.OK, 18},
		{"Check", lam(set, v(0)), k(onward), api.ErrType, 17},
		{"Universe", app(x(family), k(suc, k(one))), n, api.OK, 15},
		{"Universe", app(x(moot), k(zero)), n, api.ErrType, 13},
		{"Infer", k(plus, k(one), v(9)), n, api.ErrScope, 11},
		{"Infer", k(end), n, api.ErrShape, 11},
		{"Tele", fn(x(to), k(vec, n, v(9))), n, api.ErrScope, 8},
		{"Context", n, n, api.ErrFuel, 0},
		{"Infer", k(suc, k(one)), n, api.ErrFuel, 0},
		{"Infer", k(suc), n, api.OK, 0},
		{"Check", k(zero), n, api.OK, 0},
	} {
		_, _, e := calls[each.name][0](w, each.of, each.a, terms(each.of))
		if e != each.e || w.F.Left() != each.left || w.F.Used() != 20-each.left {
			t.Errorf("%d: %v, %d left", i, e, w.F.Left())
		}
	}
}
