package iota

import (
	"math/rand"
	"slices"
	"strconv"
	"testing"

	"scholium/api"
	"scholium/sign"
	"scholium/term"
)

// maker makes terms and signatures, always the same ones.
type maker struct{ *rand.Rand }

// term is a term that may bear loose variables and entries so far, and some named variables.
func (m maker) term(deep, loose, entries, frees int) api.Term {
	if deep > 0 && m.Intn(3) > 0 {
		a := m.term(deep-1, loose, entries, frees)
		switch m.Intn(4) {
		case 0:
			return term.Pi(a, m.term(deep-1, loose+1, entries, frees))
		case 1:
			return term.Lam(a, m.term(deep-1, loose+1, entries, frees))
		}
		return term.App(a, m.term(deep-1, loose, entries, frees))
	}
	switch {
	case loose > 0 && m.Intn(3) > 0:
		return v(m.Intn(loose))
	case frees > 0 && m.Intn(2) > 0:
		return x(m.Intn(frees))
	case entries > 0 && m.Intn(5) == 0:
		return term.Elim(m.Intn(entries), m.Intn(3))
	case entries > 0 && m.Intn(2) > 0:
		return k(m.Intn(entries))
	}
	return term.Sort(m.Intn(2))
}

// terms are so many terms.
func (m maker) terms(n, deep, loose, entries, frees int) []api.Term {
	l := terms()
	for range n {
		l = append(l, m.term(deep, loose, entries, frees))
	}
	return l
}

// tele are so many types, each beneath those ahead of it.
func (m maker) tele(n, loose, entries int) []api.Term {
	l := terms()
	for i := range n {
		l = append(l, m.term(2, loose+i, entries, 0))
	}
	return l
}

// family is the family with its parameters, beneath so many binders, and some indices.
func (m maker) family(d, pars, inds, binders, entries int) api.Term {
	args := terms()
	for i := range pars {
		args = append(args, v(binders-1-i))
	}
	return k(d, append(args, m.terms(inds, 2, binders, entries, 0)...)...)
}

// signature is the numbers, and behind them a family, entry 3, of any kind.
func (m maker) signature() []api.Entry {
	const d = 3
	pars, inds := m.Intn(4), m.Intn(3)
	l := append(numbers(), data("D", pars, inds, fn(append(m.tele(pars+inds, 0, d), set)...)))
	params, _ := taken(l[d].Type, pars)
	for place := range m.Intn(4) {
		types := slices.Clone(params)
		entries := d + 1 + place
		for range m.Intn(5) {
			if m.Intn(2) == 0 {
				types = append(types, m.term(2, len(types), entries, 0))
				continue
			}
			around := m.tele(m.Intn(4), len(types), entries)
			types = append(types, fn(append(around, m.family(d, pars, inds, len(types)+len(around), entries))...))
		}
		l = append(l, con("c"+strconv.Itoa(place), d, place, pars, fn(append(types, m.family(d, pars, inds, len(types), entries))...)))
		l[d].Cons = append(l[d].Cons, entries)
	}
	return l
}

// taken takes so many types of functions off, as they are.
func taken(t api.Term, n int) ([]api.Term, api.Term) {
	l := terms()
	for range n {
		l, t = append(l, t.Sub[0]), t.Sub[1]
	}
	return l, t
}

// signatures are many: that with all that there is, and made ones.
func signatures() [][]api.Entry {
	m := maker{rand.New(rand.NewSource(13))}
	all := [][]api.Entry{world(), several(3, 4), indexed(2, 3, 4), indexed(0, api.MaxCons, 6)}
	for range 400 {
		all = append(all, m.signature())
	}
	return all
}

// TestReckoned holds each call against what is reckoned by names.
func TestReckoned(t *testing.T) { // P13.1, P13.2
	m := maker{rand.New(rand.NewSource(1))}
	var right tally
	for i, l := range signatures() {
		if !sign.Formed(l) {
			t.Fatalf("%d is not formed", i)
		}
		r, _ := New(l)
		for c, entry := range l {
			if entry.Kind != api.ECon {
				continue
			}
			d, level := entry.Of, m.Intn(api.MaxLevel+1)
			pars := m.terms(entry.Pars, 3, 5, len(l), 4)
			args := slices.Concat(pars, m.terms(1+len(l[d].Cons), 3, 5, len(l)+9, 4))
			own := m.terms(len(r.cons[c].Args), 3, 5, len(l), 4)
			want, no := wantStep(l, d, level, c, args, own)
			got, e := Step(l, d, level, c, args, own)
			right.hold(t, "Step", got, e, want, no)
			got, e = r.Step(d, level, c, args, own)
			right.hold(t, "rules' Step", got, e, want, no)
			want, no = wantMethod(l, c, pars, args[len(pars)])
			got, e = Method(l, c, pars, args[len(pars)])
			right.hold(t, "Method", got, e, want, no)
			want, no = wantMotive(l, d, level, pars)
			got, e = Motive(l, d, level, pars)
			right.hold(t, "Motive", got, e, want, no)
			want, no = wantType(l, d, level)
			got, e = Type(l, d, level)
			right.hold(t, "Type", got, e, want, no)
		}
		if t.Failed() {
			t.Fatalf("%d", i)
		}
	}
	if right.right < 2000 || right.long > right.right/10 {
		t.Error(right)
	}
}

// TestTypeRight asks that an eliminator's type is right, and has as many types as there are arguments.
func TestTypeRight(t *testing.T) { // P13.3
	for i, l := range signatures() {
		for d, entry := range l {
			if entry.Kind != api.EData {
				continue
			}
			for level := range api.MaxLevel + 1 {
				got, e := Type(l, d, level)
				if e == api.ErrLong {
					if _, no := wantType(l, d, level); no != api.ErrLong {
						t.Errorf("%d: %v", i, e)
					}
					continue
				}
				n, _ := Args(l, d)
				if e != api.OK || !term.Right(got, 0, len(l)) || term.Loose(got) != 0 || len(term.Frees(got)) != 0 || outermost(got) != n {
					t.Errorf("%d: %v, %s", i, e, told(got))
				}
				_, rest := taken(got, entry.Pars)
				_, universe := taken(rest.Sub[0], entry.Inds+1)
				if !term.Same(universe, term.Sort(level)) {
					t.Errorf("%d: a motive of type %s", i, told(rest.Sub[0]))
				}
			}
		}
	}
}

// TestTypeParts asks that within the eliminator's type stand the motive's and the methods'.
func TestTypeParts(t *testing.T) { // P13.2
	for i, l := range signatures() {
		for d, entry := range l {
			whole, e := Type(l, d, 2)
			if e != api.OK {
				continue
			}
			r := reckonerOf(l)
			opened, whole := r.beneath(whole, entry.Pars+1+len(entry.Cons))
			pars, motive := names(opened[:entry.Pars]), opened[entry.Pars]
			got, e := Motive(l, d, 2, pars)
			same(t, strconv.Itoa(i), got, e, motive.t)
			for place, c := range entry.Cons {
				got, e := Method(l, c, pars, x(motive.name))
				same(t, strconv.Itoa(i), got, e, opened[entry.Pars+1+place].t)
			}
			_, result := r.beneath(whole, entry.Inds+1)
			if head, args := headed(result); !term.Same(head, x(motive.name)) || len(args) != entry.Inds+1 {
				t.Errorf("%d: %s", i, told(result))
			}
		}
	}
}

// TestStepEntries asks that what a step comes to names no other entries.
func TestStepEntries(t *testing.T) { // P13.4
	m := maker{rand.New(rand.NewSource(2))}
	for i, l := range signatures() {
		for c, entry := range l {
			if entry.Kind != api.ECon {
				continue
			}
			d := entry.Of
			whole, _ := wantType(l, d, 0)
			if whole.Kind == 0 {
				continue
			}
			own := m.terms(outermost(entry.Type)-entry.Pars, 2, 5, 0, 4)
			args := m.terms(entry.Pars+1+len(l[d].Cons), 2, 5, 0, 4)
			may := append(term.Entries(whole), d)
			for place := range args { // one of them names entries that there are not
				args[place] = term.App(args[place], k(300+place))
				may = append(may, 300+place)
			}
			got, e := Step(l, d, 0, c, args, own)
			if e != api.OK {
				t.Fatalf("%d: %v", i, e)
			}
			for _, n := range term.Entries(got) {
				if !slices.Contains(may, n) {
					t.Errorf("%d: %s names %d", i, told(got), n)
				}
			}
		}
	}
}

// TestAgain asks that a call twice tells the same, whatever was asked between.
func TestAgain(t *testing.T) { // P13.1
	l := world()
	r, _ := New(l)
	own, args := frees(4), frees(4)
	want, _ := Step(l, many, 1, most, args, own)
	for range 3 {
		got, e := r.Step(many, 1, most, args, own)
		same(t, "Step", got, e, want)
		r.Step(vec, 0, vcons, args, own[:3])
		r.Step(vec, 9, vcons, nil, nil)
		r.Field(snd, own[:2])
		Type(l, many, 0)
	}
}
