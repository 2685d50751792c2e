package sign

import (
	"math"
	"slices"
	"testing"

	"scholium/api"
	"scholium/term"
)

// signatures are formed ones.
func signatures() [][]api.Entry {
	return [][]api.Entry{nil, numbers(), world(), defs(3), defs(api.MaxSig), simple(api.MaxCons), lone(5, api.MaxTele), recordOf(0, 3), recordOf(2, 5), around(api.MaxTele), around(api.MaxTele + 1), {familyOf(3, 4, 7)}}
}

// TestCopy asks whether a copy is the same, but for terms that are not shaped.
func TestCopy(t *testing.T) { // P12.1
	for _, l := range signatures() {
		if got := Copy(l); !Same(got, l) || len(got) != len(l) {
			t.Errorf("%s: %s", toldAll(l), toldAll(got))
		}
	}
	for _, wrong := range append(unshaped(), api.Term{}) {
		for i := range 4 {
			l := numbers()
			e := &l[i%3]
			e.Type = wrong
			if i > 1 {
				e.Body, e.Kind, e.Name, e.Of, e.Place, e.Pars, e.Inds, e.Level, e.Cons, e.Fields = wrong, -9, "\xff", -8, math.MinInt, 6, math.MaxInt, 4, []int{-3, 2}, []int{1}
			}
			want := slices.Clone(l)
			want[i%3].Type = api.Term{}
			want[i%3].Body = api.Term{}
			got := Copy(l)
			if !Same(got, want) || got[i%3].Type.Kind != 0 || got[i%3].Type.N != 0 || len(got[i%3].Type.Sub) != 0 || got[i%3].Body.Kind != 0 || len(got[i%3].Body.Sub) != 0 {
				t.Errorf("%s: %s", told(wrong), toldAll(got))
			}
		}
	}
	if got := Copy(make([]api.Entry, 3000)); len(got) != 3000 {
		t.Error(len(got))
	}
}

// TestSame holds signatures against each other, and against themselves with one thing otherwise.
func TestSame(t *testing.T) { // P12.1
	for i, a := range signatures() {
		for j, b := range signatures() {
			if Same(a, b) != (i == j) {
				t.Errorf("%d, %d", i, j)
			}
		}
		if i > 0 && (Same(a, a[1:]) || Same(a[1:], a) || Same(a[:len(a)-1], a) || Same(a, nil) || Same(nil, a)) {
			t.Errorf("%d: a part", i)
		}
	}
	l := world()
	for i := range l {
		for _, e := range otherEntries(l, i) {
			other := slices.Concat(l[:i], []api.Entry{e}, l[i+1:])
			if !term.Shaped(e.Body) && len(e.Body.Sub) == 0 { // as good as none
				e.Body = api.Term{}
			}
			if want := alike(l[i], e); Same(l, other) != want || Same(other, l) != want {
				t.Errorf("%d: not %v: %s", i, want, toldAll(other[i:i+1]))
			}
		}
		if i > 0 {
			turned := slices.Clone(l)
			turned[0], turned[i] = turned[i], turned[0]
			if Same(l, turned) {
				t.Errorf("%d, in another order", i)
			}
		}
	}
	if !Same(nil, []api.Entry{}) || !Same([]api.Entry{{Cons: []int{}, Fields: []int{}}}, make([]api.Entry, 1)) || !Same(make([]api.Entry, 1000), make([]api.Entry, 1000)) {
		t.Error("lists without elements")
	}
}

// TestSameTerms holds terms that are not shaped against each other: they are the same, if neither has a Sub.
func TestSameTerms(t *testing.T) { // P12.1
	all := append(unshaped(), api.Term{}, api.Term{Sub: terms()}, set, fn(set, set), v(3))
	for _, a := range all {
		for _, b := range all {
			bare := !term.Shaped(a) && !term.Shaped(b) && len(a.Sub) == 0 && len(b.Sub) == 0
			want := bare || term.Same(a, b)
			if got := Same([]api.Entry{{Type: a}}, []api.Entry{{Type: b}}); got != want {
				t.Errorf("types %s, %s: %v", told(a), told(b), got)
			}
			if got := Same([]api.Entry{{Body: a}}, []api.Entry{{Body: b}}); got != want {
				t.Errorf("bodies %s, %s: %v", told(a), told(b), got)
			}
		}
	}
}

// TestBeginnings cuts formed signatures at each place.
func TestBeginnings(t *testing.T) { // P12.3
	for i, l := range signatures() {
		for n := range len(l) + 1 {
			within := n < len(l) && (l[n].Kind == api.ECon || l[n].Kind == api.EProj)
			if Formed(l[:n]) == within {
				t.Errorf("%d, up to %d: %v", i, n, !within)
			}
		}
	}
}

// TestAdded asks whether what was added is found, and all ahead of it is as it was.
func TestAdded(t *testing.T) { // P12.4
	for i, l := range signatures() {
		for n := range l {
			got, e := Add(l[:n], l[n:])
			if !Formed(l[:n]) {
				if e != api.ErrShape {
					t.Errorf("%d, up to %d: %v", i, n, e)
				}
				continue
			}
			if e != api.OK || !Same(got[:n], l[:n]) || !Formed(got) || !slices.Equal(Names(got), append(Names(l[:n]), Names(l[n:])...)) {
				t.Fatalf("%d, up to %d: %v", i, n, e)
			}
			for place := range l {
				if at, e := Find(got, l[place].Name); at != place || e != api.OK {
					t.Errorf("%d, up to %d: %s at %d, %v", i, n, l[place].Name, at, e)
				}
			}
			before, _ := Every(l[:n])
			after, e := Every(got)
			if e != api.OK || !slices.EqualFunc(before, after[:n], sameParts) {
				t.Errorf("%d, up to %d: other parts", i, n)
			}
			if len(l) > 50 { // each of them once is enough
				break
			}
		}
	}
}

// TestAgain asks that a call twice tells the same, and that Every tells what Parts does.
func TestAgain(t *testing.T) { // P12.2
	for _, l := range signatures() {
		every, e := Every(l)
		again, _ := Every(l)
		if e != api.OK || !slices.EqualFunc(every, again, sameParts) {
			t.Errorf("%v", e)
		}
		if len(l) > 50 {
			continue
		}
		for n := range l {
			c, e := Parts(l, n)
			if (e == api.OK) != (l[n].Kind == api.ECon) || !sameParts(c, every[n]) {
				t.Errorf("%d of %s: %v", n, toldAll(l), e)
			}
			pars, inds, e := Pars(l, n)
			if e == api.OK && (len(pars) != l[n].Pars || len(inds) != l[n].Inds || !term.Same(fn(append(slices.Concat(pars, inds), term.Sort(l[n].Level))...), l[n].Type)) {
				t.Errorf("%d of %s: %v, %v", n, toldAll(l), pars, inds)
			}
		}
	}
}
