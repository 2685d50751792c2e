package subst

import (
	"reflect"
	"testing"

	"scholium/api"
	"scholium/term"
)

// roomy gives a term anew, each list of it, those without elements too, with room behind its end that bears a mark.
func roomy(x api.Term) api.Term {
	room := make([]api.Term, len(x.Sub)+2)
	for i, s := range x.Sub {
		room[i] = roomy(s)
	}
	for i := len(x.Sub); i < len(room); i++ {
		room[i] = term.Free(77)
	}
	x.Sub = room[:len(x.Sub)]
	return x
}

// spoil writes over all lists of a term, and the room behind their ends.
func spoil(x api.Term) {
	for _, s := range x.Sub {
		spoil(s)
	}
	for i := range x.Sub[:cap(x.Sub)] {
		x.Sub[:cap(x.Sub)][i] = api.Term{Kind: -1, N: -1}
	}
}

// marked tells whether a term that was made roomy is as it was made.
func marked(x api.Term) bool {
	for _, s := range x.Sub {
		if !marked(s) {
			return false
		}
	}
	for _, s := range x.Sub[len(x.Sub):cap(x.Sub)] {
		if !term.Same(s, term.Free(77)) {
			return false
		}
	}
	return cap(x.Sub) == len(x.Sub)+2
}

// answered are the answers of all calls that put a in, one behind the other.
func answered(x, a api.Term, n int) (l []api.Term) {
	calls(x, a, n, func(_ string, got api.Term, _ api.Errno) { l = append(l, got) })
	return l
}

// TestMemory writes over what came back, and then over what was given.
func TestMemory(t *testing.T) { // P9.1
	v, f := term.Var, term.Free
	xs := terms(v(0), v(1), v(3), set, f(0), f(1), f(2), term.Const(1), term.Elim(2, 1), term.Pi(v(0), v(1)), term.Lam(v(1), term.App(v(2), v(0))), term.Lam(f(1), term.App(v(2), f(0))), term.App(term.Elim(2, 1), term.Pi(set, term.Lam(v(9), v(0)))), under(5, bush(9, v(5))), under(4, bush(9, f(0))))
	for _, x := range xs {
		for _, a := range terms(v(0), f(1), set, term.Elim(1, 0), term.Lam(v(0), term.App(v(0), v(1))), under(3, bush(7, v(4)))) {
			for _, n := range []int{0, 1} {
				givenX, givenA := roomy(x), roomy(a)
				calls(givenX, givenA, n, func(call string, got api.Term, e api.Errno) {
					spoil(got)
					if e != api.OK || !term.Same(givenX, x) || !term.Same(givenA, a) || !marked(givenX) || !marked(givenA) {
						t.Errorf("%s, %v: what was given was changed, or shares memory with what came", call, e)
					}
				})
				was := answered(x, a, n)
				got := answered(givenX, givenA, n)
				spoil(givenX)
				spoil(givenA)
				for i := range got {
					if !term.Same(got[i], was[i]) {
						t.Errorf("call %d, %s, %s, %d: what came shares memory with what was given", i, told(x), told(a), n)
					}
				}
			}
		}
	}
}

// TestLists asks whether two lists of one answer share memory, where those of what was given do, or one term comes in twice.
func TestLists(t *testing.T) { // P9.1
	twin := term.App(term.Var(0), term.Lam(set, term.App(term.Var(1), term.Free(0))))
	pair := term.App(twin, twin)
	for _, a := range terms(set, term.App(term.Var(0), set), term.Lam(term.Var(0), term.App(term.Var(1), set))) {
		was := answered(pair, a, 0)
		for i, got := range answered(pair, a, 0) {
			spoil(got.Sub[0])
			if !term.Same(got.Sub[1], was[i].Sub[1]) {
				t.Errorf("call %d: two lists share memory", i)
			}
		}
	}
}

// TestGivenList asks that the list of what is put in, and the room behind its end, stay as they are.
func TestGivenList(t *testing.T) { // P9.1
	x := roomy(term.App(term.Var(1), term.App(term.Var(0), term.Var(2))))
	a, b := roomy(term.Lam(set, term.Var(1))), roomy(term.App(set, term.Free(0)))
	room := terms(a, b, term.Free(77))
	want := terms(a, b, term.Free(77))
	got, e := Many(x, room[:2])
	all, e2 := All(terms(x, x), room[:2])
	if e != api.OK || e2 != api.OK || len(all) != 2 {
		t.Fatal(e, e2)
	}
	spoil(got)
	spoil(all[0])
	if !reflect.DeepEqual(room, want) || !marked(a) || !marked(b) || !marked(x) {
		t.Error("what was given was changed, or shares memory with what came")
	}
	fine := term.App(term.App(set, term.Free(0)), term.App(term.Lam(set, term.Var(1)), term.Var(0)))
	if !term.Same(all[1], fine) {
		t.Errorf("two lists share memory: %s", told(all[1]))
	}
	all, _ = All(terms(x, x), room[:2])
	spoil(x)
	spoil(a)
	spoil(b)
	room[0], room[1] = api.Term{}, api.Term{}
	if !term.Same(all[0], fine) || !term.Same(all[1], fine) {
		t.Error("what came shares memory with what was given")
	}
}

// TestAllMemory asks likewise of the list of those that others are put into.
func TestAllMemory(t *testing.T) { // P9.1
	x := roomy(term.Lam(term.Var(0), term.App(term.Var(0), term.Var(1))))
	room := terms(x, x, x, term.Free(77))
	got, e := All(room[:3], terms(set))
	if e != api.OK || len(got) != 3 {
		t.Fatalf("%d terms, %v", len(got), e)
	}
	got[1] = api.Term{}
	_ = append(got[:1], api.Term{}, api.Term{}, api.Term{})
	if !marked(x) || !reflect.DeepEqual(room, terms(x, x, x, term.Free(77))) {
		t.Error("what was given was changed")
	}
	got, _ = All(room[:3], terms(set))
	room[0], room[2] = api.Term{}, api.Term{}
	for _, y := range got {
		if !term.Same(y, term.Lam(set, term.App(term.Var(0), set))) {
			t.Errorf("what came shares memory with what was given: %s", told(y))
		}
	}
}
