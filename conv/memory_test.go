package conv

import (
	"reflect"
	"slices"
	"sync"
	"testing"

	"scholium/api"
	"scholium/sign"
	"scholium/term"
	"scholium/whnf"
)

// mark stands in the room behind the end of lists of terms.
var mark = term.Free(77)

// roomy gives a term anew, each list of it with room behind its end that bears a mark.
func roomy(t api.Term) api.Term {
	l := terms()
	for _, s := range t.Sub {
		l = append(l, roomy(s))
	}
	n := len(l)
	t.Sub = append(l, mark, mark)[: n : n+2]
	return t
}

// roomyAll gives entries anew likewise.
func roomyAll(l []api.Entry) []api.Entry {
	ints := func(l []int) []int { return append(slices.Clone(l), 77, 77)[: len(l) : len(l)+2] }
	var all []api.Entry
	for _, e := range l {
		e.Type, e.Body, e.Cons, e.Fields = roomy(e.Type), roomy(e.Body), ints(e.Cons), ints(e.Fields)
		all = append(all, e)
	}
	return append(all, api.Entry{Kind: 77}, api.Entry{Kind: 77})[: len(l) : len(l)+2]
}

// marked tells whether a term that was made roomy still bears its marks.
func marked(t api.Term) bool {
	behind := t.Sub[len(t.Sub):cap(t.Sub)]
	return len(behind) == 2 && term.Same(behind[0], mark) && term.Same(behind[1], mark) && !slices.ContainsFunc(t.Sub, func(s api.Term) bool { return !marked(s) })
}

// markedAll tells whether entries that were made roomy still bear their marks.
func markedAll(l []api.Entry) bool {
	ints := func(l []int) bool { return slices.Equal(l[len(l):cap(l)], []int{77, 77}) }
	for _, e := range l {
		if !marked(e.Type) || !marked(e.Body) || !ints(e.Cons) || !ints(e.Fields) {
			return false
		}
	}
	behind := l[len(l):cap(l)]
	return len(behind) == 2 && reflect.DeepEqual(behind[0], api.Entry{Kind: 77}) && reflect.DeepEqual(behind[1], api.Entry{Kind: 77})
}

// spoil writes over a list of terms, all lists within it, and the room behind their ends.
func spoil(l []api.Term) {
	for _, t := range l {
		spoil(t.Sub)
	}
	for i := range l[:cap(l)] {
		l[:cap(l)][i] = api.Term{Kind: -1, N: -1}
	}
}

// asked are terms of which each two are asked.
func asked() []api.Term {
	part := app(x(1), v(0), lam(k(nat), v(1)))
	field := func(p int) api.Term { return k(p, x(1), x(2), part) }
	return terms(
		part, lam(part, part), fn(part, part), fn(part, set), set, k(suc, part), number(2), k(two), k(plus, k(one), k(one)), app(fn(part, part), part), elim(nat, 0, part, part), elim(nat, 0, part, part, part, k(two)),
		lam(set, app(x(1), v(1), lam(k(nat), v(2)), v(0))), k(pairing, part, part, part, part), k(pairing, part, x(2), part, part), k(pairing, x(1), x(2), field(fst), field(snd)), k(couple, part), k(pairing, set, set, part, k(suc, part)),
		k(box, k(open, part)), k(box, part), k(both, part, part, part, part), k(star, part), k(plus), lam(set, app(k(plus), v(0))), k(plus, round(), doubles()), app(x(1), round()), app(x(1), k(one), doubles()),
	)
}

// verdict is what a call tells of a pair.
type verdict struct {
	is   bool
	used int
	e    api.Errno
}

// verdicts are what all calls tell of each two terms of a list.
func verdicts(m *whnf.Machine, entries []api.Entry, l []api.Term) []verdict {
	var all []verdict
	for i, a := range l {
		for _, b := range l {
			for _, of := range []call{Same, Most} {
				f := fuel(60)
				is, e := of(m, a, b, f)
				all = append(all, verdict{is, f.Used(), e})
			}
			if i%5 == 0 {
				is, used, e := Of(entries, a, b, 60)
				all = append(all, verdict{is, used, e})
			}
		}
	}
	return all
}

// TestMemory asks that what is handed in, and what lies behind its lists' ends, stays as it is, and that nothing of it is kept.
func TestMemory(t *testing.T) { // P16.1
	l, from := roomyAll(world()), terms()
	for _, each := range asked() {
		from = append(from, roomy(each))
	}
	m := machineOf(t, l)
	want := verdicts(machine(t), world(), asked())
	if got := verdicts(m, l, from); !slices.Equal(got, want) {
		t.Error("other answers")
	}
	if !sign.Same(l, world()) || !markedAll(l) || !slices.EqualFunc(from, asked(), term.Same) || slices.ContainsFunc(from, func(t api.Term) bool { return !marked(t) }) {
		t.Error("what was given was changed")
	}
	if !sign.Same(m.Entries(), world()) {
		t.Error("the machine was changed")
	}
	spoil(from)
	if got := verdicts(m, l, asked()); !slices.Equal(got, want) {
		t.Error("other answers behind what was written over")
	}
	one, other := 0, 0
	for _, each := range want {
		if each.is {
			one++
		} else {
			other++
		}
	}
	if one < 60 || other < 300 {
		t.Errorf("%d are, %d are not", one, other)
	}
}

// TestShared asks terms that share memory with each other, and with themselves.
func TestShared(t *testing.T) { // P16.1
	m := machine(t)
	for _, part := range asked() {
		for _, a := range terms(part, fn(part, part), app(x(1), part, part), lam(part, part), k(pairing, part, part, part, part)) {
			b := term.Copy(a)
			if !term.Shaped(a) {
				continue // some are too great to stand in one twice
			}
			for _, of := range []call{Same, Most} {
				f, g := fuel(60), fuel(60)
				is, e := of(m, a, a, f)
				too, no := of(m, a, b, g)
				if is != too || e != no || f.Used() != g.Used() || !term.Same(a, b) {
					t.Errorf("%s: %v, %v, %d steps, with itself, %v, %v, %d with another like it", told(b), is, e, f.Used(), too, no, g.Used())
				}
			}
		}
	}
}

// TestTogether asks the same machine from many sides at once.
func TestTogether(t *testing.T) { // P16.1
	m := machine(t)
	want := verdicts(m, theWorld(), asked())
	var wait sync.WaitGroup
	got := make([][]verdict, 8)
	for i := range got {
		wait.Go(func() { got[i] = verdicts(m, theWorld(), asked()) })
	}
	wait.Wait()
	for i := range got {
		if !slices.Equal(got[i], want) {
			t.Errorf("%d: other answers", i)
		}
	}
}

// TestOneMeter asks several pairs with one meter: what is left behind an answer is there for the next one.
func TestOneMeter(t *testing.T) { // P16.1
	m, f := machine(t), fuel(11)
	for i, each := range []struct {
		of   call
		a, b api.Term
		is   bool
		e    api.Errno
		left int
	}{
		{Same, k(one), number(1), true, api.OK, 10},
		{Most, fn(k(one), set), fn(k(one), k(upper)), true, api.OK, 7},
		{Same, k(two), k(one), false, api.OK, 4},
		{Same, app(x(1), k(one), doubles()), app(x(1), k(one), set), false, api.ErrLong, 2},
		{Most, k(end), round(), false, api.ErrShape, 2},
		{Most, k(two), k(two), false, api.ErrFuel, 0},
		{Same, k(one), k(one), false, api.ErrFuel, 0},
		{Same, lam(set, k(suc, v(0))), k(suc), true, api.OK, 0},
	} {
		is, e := each.of(m, each.a, each.b, f)
		if is != each.is || e != each.e || f.Left() != each.left || f.Used() != 11-each.left {
			t.Errorf("%d: %v, %v, %d left", i, is, e, f.Left())
		}
	}
}
