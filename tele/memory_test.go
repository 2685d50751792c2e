package tele

import (
	"reflect"
	"slices"
	"testing"

	"scholium/api"
	"scholium/term"
)

// mark stands in the room behind the end of lists.
var mark = term.Free(77)

// roomy gives a term anew, each list of it, those without elements too, with room behind its end that bears a mark.
func roomy(x api.Term) api.Term {
	x.Sub = roomyAll(x.Sub)
	return x
}

// roomyAll gives a list anew likewise.
func roomyAll(l []api.Term) []api.Term {
	var room []api.Term
	for _, x := range l {
		room = append(room, roomy(x))
	}
	room = append(room, mark, mark)
	return room[:len(l):len(room)]
}

// marked tells whether a list that was made roomy still bears its marks.
func marked(l []api.Term) bool {
	if cap(l) != len(l)+2 || slices.ContainsFunc(l, func(x api.Term) bool { return !marked(x.Sub) }) {
		return false
	}
	behind := l[len(l):cap(l)]
	return term.Same(behind[0], mark) && term.Same(behind[1], mark)
}

// same tells whether two lists are, whatever room is behind their ends.
func same(a, b []api.Term) bool {
	return slices.EqualFunc(a, b, term.Same)
}

// spoil writes over a list, all lists within it, and the room behind their ends.
func spoil(l []api.Term) {
	for _, x := range l {
		spoil(x.Sub)
	}
	for i := range l[:cap(l)] {
		l[:cap(l)][i] = api.Term{Kind: -1, N: -1}
	}
}

// answers are the lists that all calls answer, a term as a list of it.
func answers(t *testing.T, l, args []api.Term, x api.Term) [][]api.Term {
	t.Helper()
	var all [][]api.Term
	add := func(l []api.Term, e api.Errno) {
		if e != api.OK {
			t.Fatalf("call %d of %s, %s, %s: %v", len(all), toldAll(l), toldAll(args), told(x), e)
		}
		all = append(all, l)
	}
	single := func(x api.Term, e api.Errno) { add(terms(x), e) }
	single(Pis(l, x))
	single(Lams(l, x))
	pair := func(types []api.Term, rest api.Term, e api.Errno) { add(types, e); single(rest, e) }
	pair(Split(x, 0))
	pair(Split(x, 1))
	pair(Whole(x))
	add(Lift(l, 2, 0))
	add(Lift(l, 0, 0))
	add(Put(l, args))
	add(Put(l, nil))
	single(Fill(x, args))
	single(Fill(x, nil))
	add(Types(l, args[:len(l)]))
	single(Result(x, args[:1]))
	single(Result(x, nil))
	return all
}

// copied are lists in new memory.
func copied(all [][]api.Term) [][]api.Term {
	var anew [][]api.Term
	for _, l := range all {
		l = slices.Clone(l)
		for i := range l {
			l[i] = term.Copy(l[i])
		}
		anew = append(anew, l)
	}
	return anew
}

// TestMemory writes over what came back, and over what was given.
func TestMemory(t *testing.T) { // P10.1, P10.2
	v, pi := term.Var, term.Pi
	args := terms(term.Lam(v(0), term.App(v(0), v(1))), term.App(v(3), set), term.Free(5), v(0))
	for _, l := range lists(2, append(kinds(), pi(v(0), pi(v(1), v(2))))) {
		for _, x := range terms(pi(set, v(0)), pi(term.App(v(0), v(2)), pi(v(1), term.App(v(1), term.App(v(0), v(0))))), pi(set, term.Lam(pi(set, v(1)), term.App(v(0), term.Elim(1, 1))))) {
			givenL, givenArgs, givenX := roomyAll(l), roomyAll(args), roomy(x)
			all := answers(t, givenL, givenArgs, givenX)
			want := copied(all)
			for i, one := range all { // over one after the other: the others stay
				spoil(one)
				for j := i + 1; j < len(all); j++ {
					if !same(all[j], want[j]) {
						t.Fatalf("%s, %s: call %d shares memory with call %d", toldAll(l), told(x), j, i)
					}
				}
			}
			if !same(givenL, l) || !same(givenArgs, args) || !term.Same(givenX, x) || !marked(givenL) || !marked(givenArgs) || !marked(givenX.Sub) {
				t.Fatalf("%s, %s: what was given was changed, or shares memory with what came", toldAll(l), told(x))
			}
			all = answers(t, givenL, givenArgs, givenX)
			spoil(givenL)
			spoil(givenArgs)
			spoil(givenX.Sub)
			for i := range all {
				if !same(all[i], want[i]) {
					t.Fatalf("%s, %s: call %d shares memory with what was given", toldAll(l), told(x), i)
				}
			}
		}
	}
}

// TestLists asks whether lists of one answer share memory, where those of what was given do, or one term comes in twice.
func TestLists(t *testing.T) { // P10.1, P10.2
	v := term.Var
	twin := term.App(v(0), term.Lam(set, term.App(v(1), term.Free(0))))
	l, args, x := slices.Repeat(terms(twin), 3), slices.Repeat(terms(twin), 4), term.Pi(twin, term.Pi(twin, term.App(v(0), v(0))))
	want := copied(answers(t, l, args, x))
	for i := range want {
		for j := range want[i] { // one of a list
			got := answers(t, l, args, x)[i]
			spoil(got[j].Sub)
			got[j] = want[i][j]
			if !same(got, want[i]) {
				t.Errorf("call %d: %d of its terms shares memory with another", i, j)
			}
			if len(got[j].Sub) == 2 { // and one of a term
				got = answers(t, l, args, x)[i]
				spoil(got[j].Sub[0].Sub)
				if !term.Same(got[j].Sub[1], want[i][j].Sub[1]) {
					t.Errorf("call %d: lists of term %d share memory", i, j)
				}
			}
		}
	}
	types, rest, _ := Split(x, 2)
	spoil(types)
	if !term.Same(rest, term.App(v(0), v(0))) {
		t.Error("what stands beneath shares memory with the types")
	}
}

// TestRoomBehind asks that what stands behind the end of the lists that are given stays, where they are appended to.
func TestRoomBehind(t *testing.T) { // P10.2
	room := terms(term.Free(1), term.Free(2), mark, mark)
	was := slices.Clone(room)
	for n := range 3 {
		Put(sets(3), room[:n])
		Put(room[:n], room[:2])
		Fill(set, room[:n])
		Types(sets(n), room[:n])
		Result(pis(3, set), room[:n])
		Pis(room[:n], set)
		Lams(room[:n], set)
		Lift(room[:n], 1, 0)
		Right(room[:n], 0, 0)
		if !reflect.DeepEqual(room, was) {
			t.Fatalf("with %d: %s", n, toldAll(room))
		}
	}
}

// TestVarsMemory asks that no two answers share memory.
func TestVarsMemory(t *testing.T) { // P10.2
	spoil(Vars(5))
	asksAll(t, "Vars", Vars(5), terms(term.Var(4), term.Var(3), term.Var(2), term.Var(1), term.Var(0)), api.OK, api.OK)
}
