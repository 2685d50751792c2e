package sign

import (
	"reflect"
	"slices"
	"testing"

	"scholium/api"
	"scholium/term"
)

// mark stands in the room behind the end of lists of terms.
var mark = term.Free(77)

// roomy gives a term anew, each list of it with room behind its end that bears a mark.
func roomy(x api.Term) api.Term {
	var room []api.Term
	for _, s := range x.Sub {
		room = append(room, roomy(s))
	}
	n := len(room)
	x.Sub = append(room, mark, mark)[: n : n+2]
	return x
}

// roomyInts gives a list anew likewise.
func roomyInts(l []int) []int { return append(slices.Clone(l), 77, 77)[: len(l) : len(l)+2] }

// roomyAll gives entries anew likewise.
func roomyAll(l []api.Entry) []api.Entry {
	var room []api.Entry
	for _, e := range l {
		e.Type, e.Body, e.Cons, e.Fields = roomy(e.Type), roomy(e.Body), roomyInts(e.Cons), roomyInts(e.Fields)
		room = append(room, e)
	}
	return append(room, api.Entry{Kind: 77}, api.Entry{Kind: 77})[: len(l) : len(l)+2]
}

// marked tells whether a term that was made roomy still bears its marks.
func marked(x api.Term) bool {
	behind := x.Sub[len(x.Sub):cap(x.Sub)]
	return len(behind) == 2 && term.Same(behind[0], mark) && term.Same(behind[1], mark) && !slices.ContainsFunc(x.Sub, func(s api.Term) bool { return !marked(s) })
}

// markedAll tells whether entries that were made roomy still bear their marks.
func markedAll(l []api.Entry) bool {
	ints := func(l []int) bool { return slices.Equal(l[len(l):cap(l)], []int{77, 77}) }
	behind := l[len(l):cap(l)]
	for _, e := range l {
		if !marked(e.Type) || !marked(e.Body) || !ints(e.Cons) || !ints(e.Fields) {
			return false
		}
	}
	return len(behind) == 2 && reflect.DeepEqual(behind[0], api.Entry{Kind: 77}) && reflect.DeepEqual(behind[1], api.Entry{Kind: 77})
}

// spoil writes over a list of terms, all lists within it, and the room behind their ends.
func spoil(l []api.Term) {
	for _, x := range l {
		spoil(x.Sub)
	}
	for i := range l[:cap(l)] {
		l[:cap(l)][i] = api.Term{Kind: -1, N: -1}
	}
}

// spoilInts writes over a list of numbers, and the room behind its end.
func spoilInts(l []int) {
	for i := range l[:cap(l)] {
		l[:cap(l)][i] = -5
	}
}

// spoilAll writes over entries likewise.
func spoilAll(l []api.Entry) {
	for _, e := range l {
		spoil(e.Type.Sub)
		spoil(e.Body.Sub)
		spoilInts(e.Cons)
		spoilInts(e.Fields)
	}
	for i := range l[:cap(l)] {
		l[:cap(l)][i] = api.Entry{Kind: -5, Name: "spoilt"}
	}
}

// spoilCon writes over a constructor's parts.
func spoilCon(c Con) {
	spoil(c.Args)
	spoil(c.Inds)
	for _, r := range c.Recs {
		spoil(r.Around)
		spoil(r.At)
	}
	for i := range c.Recs[:cap(c.Recs)] {
		c.Recs[:cap(c.Recs)][i] = Rec{Is: true}
	}
}

// answer is what one call answered, with what writes over it.
type answer struct {
	call  string
	holds func() bool
	spoil func()
}

// answers are what the calls that answer lists answer of world, of which l is one.
func answers(t *testing.T, l []api.Entry) []answer {
	t.Helper()
	var all []answer
	entries := func(call string, got []api.Entry, want []api.Entry) {
		all = append(all, answer{call, func() bool { return Same(got, want) }, func() { spoilAll(got) }})
	}
	add := func(n int) []api.Entry {
		got, e := Add(l[:n:n], l[n:])
		if e != api.OK {
			t.Fatal(e)
		}
		return got
	}
	entries("Copy", Copy(l), world())
	entries("Add", add(one), world())
	entries("Add to nothing", add(0), world())
	entries("Add of nothing", add(len(l)), world())
	names := Names(l)
	all = append(all, answer{"Names", func() bool { return slices.Equal(names, Names(world())) }, func() {
		for i := range names[:cap(names)] {
			names[:cap(names)][i] = "spoilt"
		}
	}})
	want := wantParts()
	every, e := Every(l)
	if e != api.OK {
		t.Fatal(e)
	}
	for n := range l {
		all = append(all, answer{"Every", func() bool { return sameParts(every[n], want[n]) }, func() { spoilCon(every[n]) }})
	}
	for n := range want {
		got, e := Parts(l, n)
		if e != api.OK {
			t.Fatal(e)
		}
		all = append(all, answer{"Parts", func() bool { return sameParts(got, want[n]) }, func() { spoilCon(got) }})
	}
	for _, n := range []int{vec, tree, acc, up} {
		pars, inds, _ := Pars(l, n)
		wantPars, wantInds, _ := Pars(world(), n)
		all = append(all, answer{"Pars", func() bool { return sameTerms(pars, wantPars) }, func() { spoil(pars) }})
		all = append(all, answer{"Pars' indices", func() bool { return sameTerms(inds, wantInds) }, func() { spoil(inds) }})
	}
	return all
}

// TestMemory writes over what came back, and over what was given.
func TestMemory(t *testing.T) { // P12.1, P12.2
	given := roomyAll(world())
	all := answers(t, given)
	for i, one := range all {
		if !one.holds() {
			t.Fatalf("%s", one.call)
		}
		one.spoil()
		for j, other := range all[i+1:] {
			if !other.holds() {
				t.Fatalf("%s (%d) shares memory with %s (%d)", one.call, i, other.call, j)
			}
		}
	}
	if !Same(given, world()) || !markedAll(given) {
		t.Fatal("what was given was changed, or shares memory with what came")
	}
	all = answers(t, given)
	spoilAll(given)
	for i, one := range all {
		if !one.holds() {
			t.Fatalf("%s (%d) shares memory with what was given", one.call, i)
		}
	}
}

// TestPartsMemory asks that no two lists of one answer share memory, where one term comes twice.
func TestPartsMemory(t *testing.T) { // P12.2
	twin := k(3, v(1), term.App(v(0), v(0)))
	l := append(numbers(), data("D", 1, 1, fn(set, set, set), 4), con("c", 3, 0, 1, fn(set, set, fn(twin, k(3, v(2), term.App(v(0), v(1)))), k(3, v(2), term.App(v(1), v(1))))))
	lists := func() [][]api.Term {
		c, e := Parts(l, 4)
		if e != api.OK || !c.Recs[1].Is {
			t.Fatal(e)
		}
		return [][]api.Term{c.Args, c.Inds, c.Recs[1].Around, c.Recs[1].At}
	}
	want := lists()
	for i := range want {
		got := lists()
		spoil(got[i])
		for j := range got {
			if j != i && !sameTerms(got[j], want[j]) {
				t.Errorf("list %d shares memory with list %d", i, j)
			}
		}
	}
}

// TestRoomBehind asks that what stands behind the end of what is given stays, where it is appended to.
func TestRoomBehind(t *testing.T) { // P12.2
	room := append(world(), def("behind", set, set))
	got, e := Add(room[:one], world()[one:one+1])
	if e != api.OK || len(got) != one+1 || !Same(room, append(world(), def("behind", set, set))) {
		t.Errorf("%v, %s", e, toldAll(room))
	}
	Copy(room[:one])
	Names(room[:one])
	if !Same(room, append(world(), def("behind", set, set))) {
		t.Error(toldAll(room))
	}
}
