package conv

import (
	"iter"
	"math/rand"
	"testing"

	"scholium/api"
	"scholium/norm"
	"scholium/term"
)

// maker makes terms over world, always the same ones.
type maker struct {
	*rand.Rand
	l []api.Entry
}

// makerOf is one that begins anew.
func makerOf(seed int64) maker { return maker{rand.New(rand.NewSource(seed)), theWorld()} }

// some are so many terms, each told by a function.
func some(n int, of func() api.Term) []api.Term {
	l := terms()
	for range n {
		l = append(l, of())
	}
	return l
}

// pick is a term of a list.
func (m maker) pick(l ...api.Term) api.Term { return l[m.Intn(len(l))] }

// small is a term without others in it.
func (m maker) small(loose int) api.Term {
	if loose > 0 && m.Intn(2) == 0 {
		return v(m.Intn(loose))
	}
	if m.Intn(60) == 0 {
		return v(api.MaxFree - m.Intn(3)) // what can't be lifted, or but a few times
	}
	return m.pick(x(m.Intn(3)), term.Sort(m.Intn(3)), k(m.Intn(end)), k(zero), k(one), k(arrow), term.Elim(m.Intn(end), m.Intn(3)))
}

// asks tells how many arguments a constructor has, the parameters too.
func (m maker) asks(c int) int {
	n := 0
	for t := m.l[c].Type; t.Kind == api.KPi; t = t.Sub[1] {
		n++
	}
	return n
}

// con is a constructor of a family, mostly with all its arguments.
func (m maker) con(d, deep, loose int) api.Term {
	c := m.l[d].Cons[m.Intn(len(m.l[d].Cons))]
	n := m.asks(c)
	if m.Intn(12) == 0 {
		n = max(0, n+m.Intn(3)-1)
	}
	return k(c, some(n, func() api.Term { return m.term(deep, loose) })...)
}

// target is what may come to a constructor of a family.
func (m maker) target(d, deep, loose int) api.Term {
	switch m.Intn(5) {
	case 0:
		return m.term(deep, loose)
	case 1:
		return k(id, set, m.con(d, deep-1, loose))
	}
	return m.con(d, deep-1, loose)
}

// term is any term, often one with steps at its head, or within it.
func (m maker) term(deep, loose int) api.Term {
	if deep <= 0 {
		return m.small(loose)
	}
	deep--
	part := func() api.Term { return m.term(deep, loose) }
	little := func() api.Term { return m.small(loose) }
	d := []int{nat, nat, vec, tree, sigma, sigma, prod, unit, only, wrap}[m.Intn(10)]
	switch m.Intn(12) {
	case 0, 1:
		return term.Pi(part(), m.term(deep, loose+1))
	case 2, 3:
		return term.Lam(part(), m.term(deep, loose+1))
	case 4:
		return app(little(), some(m.Intn(4), part)...)
	case 5:
		return app(part(), some(m.Intn(3), part)...)
	case 6:
		return app(term.Lam(little(), m.term(deep, loose+1)), some(1+m.Intn(2), part)...)
	case 7:
		p := []int{fst, snd, left, right, open}[m.Intn(5)]
		return k(p, append(some(m.l[p].Pars, little), m.target(m.l[p].Of, deep, loose))...)
	case 8:
		args := some(m.l[d].Pars+1+len(m.l[d].Cons)+m.l[d].Inds, part)
		return elim(d, m.Intn(3), append(args, m.target(d, deep, loose))...)
	case 9:
		return k([]int{plus, times, id, couple}[m.Intn(4)], some(m.Intn(4), part)...)
	}
	return m.con(d, deep, loose)
}

// other is a term that is mostly one with another one, its parts likewise.
func (m maker) other(t api.Term) api.Term {
	l := terms()
	for _, s := range t.Sub {
		if t.Kind != api.KElim && m.Intn(4) > 0 {
			s = m.other(s)
		}
		l = append(l, s)
	}
	t.Sub = l
	switch m.Intn(14) {
	case 0:
		return lam(m.small(0), app(raised(t, 0), v(0)))
	case 1:
		return k(id, set, t)
	case 2:
		return app(lam(set, raised(t, 0)), m.small(0))
	case 3:
		return m.record(t)
	case 4:
		return m.retyped(t)
	}
	return t
}

// record is the constructor of a record with the fields of a term.
func (m maker) record(t api.Term) api.Term {
	d := []int{sigma, prod, unit}[m.Intn(3)]
	pars := some(m.l[d].Pars, func() api.Term { return m.small(0) })
	r := k(m.l[d].Cons[0], pars...)
	for _, p := range m.l[d].Fields {
		r = app(r, app(k(p, pars...), t))
	}
	return r
}

// retyped is a function with another type, a record's constructor with other parameters, a universe of another level; another term as it is.
func (m maker) retyped(t api.Term) api.Term {
	head, args := term.Spine(t)
	switch {
	case t.Kind == api.KLam:
		return lam(m.small(0), t.Sub[1])
	case t.Kind == api.KSort:
		return term.Sort(m.Intn(3))
	case head.Kind == api.KConst && (head.N == pairing || head.N == both) && len(args) == 4:
		return k(head.N, m.small(0), m.small(0), args[2], args[3])
	}
	return t
}

// spoilt is a term with something else in one place.
func (m maker) spoilt(t api.Term) api.Term {
	if len(t.Sub) == 0 || t.Kind == api.KElim || m.Intn(4) == 0 {
		return m.small(2)
	}
	i := m.Intn(len(t.Sub))
	l := append(terms(), t.Sub...)
	l[i] = m.spoilt(l[i])
	t.Sub = l
	return t
}

// several are so many terms, with loose and named variables.
func several(seed int64, n int) iter.Seq2[int, api.Term] {
	return func(yield func(int, api.Term) bool) {
		m := makerOf(seed)
		for i := 0; i < n; {
			if t := m.term(1+m.Intn(5), m.Intn(4)); term.Shaped(t) {
				if !yield(i, t) {
					return
				}
				i++
			}
		}
	}
}

// towards is a type of functions to a universe, and another one that is mostly at most, or at least, that one.
func (m maker) towards() (api.Term, api.Term) {
	n := m.Intn(4)
	a, b := term.Sort(n), m.other(term.Sort(max(0, n+m.Intn(4)-1)))
	for range m.Intn(4) {
		first := m.term(m.Intn(3), 1)
		a, b = fn(first, raised(a, 0)), fn(m.other(first), raised(b, 0))
		if m.Intn(4) == 0 {
			a = k(id, set, a)
		}
	}
	return a, b
}

// related are two terms, many of which are one, or nearly so.
func (m maker) related() (api.Term, api.Term) {
	a := m.term(1+m.Intn(5), m.Intn(4))
	switch b := m.other(a); m.Intn(8) {
	case 0, 1:
		return m.towards()
	case 2:
		return a, m.spoilt(b)
	case 3:
		return m.other(a), b
	default:
		return a, b
	}
}

// pairs are so many pairs of terms that may come.
func pairs(seed int64, n int) iter.Seq2[string, [2]api.Term] {
	return func(yield func(string, [2]api.Term) bool) {
		m := makerOf(seed)
		for i := 0; i < n; {
			a, b := m.related()
			if !term.Shaped(a) || !term.Shaped(b) {
				continue
			}
			if !yield(many(i), [2]api.Term{a, b}) || !yield(many(i)+", the other way round", [2]api.Term{b, a}) {
				return
			}
			i++
		}
	}
}

// TestReckoned holds the calls against what is reckoned call within call, with all fuel up to what is enough.
func TestReckoned(t *testing.T) { // P16.1
	m, l := machine(t), theWorld()
	const enough = 100
	counted := map[string]int{}
	asked := 0
	for what, ab := range pairs(1, 3000) {
		a, b := ab[0], ab[1]
		same, most := reckoned(l, m, a, b, false, enough), reckoned(l, m, a, b, true, enough)
		taken := enough - min(same.left, most.left)
		for n := range taken + 2 {
			if n >= 6 && n < taken-1 {
				continue
			}
			if asked++; asked%40 == 0 {
				holdsOf(t, l, m, what, a, b, n)
			} else {
				holds(t, l, m, what, a, b, n)
			}
		}
		counted[same.e.Error()]++
		for word, is := range map[string]bool{"one": same.is, "one, by steps": same.is && same.left < enough, "at most alone": most.is && !same.is, "not, by steps": same.e == api.OK && !same.is && same.left < enough} {
			if is {
				counted[word]++
			}
		}
		if t.Failed() {
			t.Fatalf("%s: %s, %s", what, told(a), told(b))
		}
	}
	for word, least := range map[string]int{"ok": 4500, "fuel": 10, "long": 20, "one": 2000, "one, by steps": 1500, "at most alone": 200, "not, by steps": 300} {
		if counted[word] < least {
			t.Errorf("%d are %s: %v", counted[word], word, counted)
		}
	}
}

// settled tells whether a call answers a pair with much fuel, and what.
func settled(t *testing.T, of call, a, b api.Term) (bool, bool) {
	t.Helper()
	is, e := of(machine(t), a, b, fuel(3000))
	return is, e == api.OK
}

// TestItself asks that a term is one with itself, with its normal form and with its weak head form.
func TestItself(t *testing.T) { // P16.2
	m := machine(t)
	byNorm, byWhnf := 0, 0
	for i, a := range several(2, 6000) {
		f, g := fuel(1000), fuel(1000)
		w, e := m.Bring(a, f)
		n, no := norm.Norm(m, a, g)
		if e != api.OK || no != api.OK {
			continue
		}
		for _, b := range terms(a, w, n) {
			for _, ab := range [][2]api.Term{{a, b}, {b, a}} {
				for _, of := range []call{Same, Most} {
					if is, enough := settled(t, of, ab[0], ab[1]); enough && !is {
						t.Errorf("%d: %s, %s: not one", i, told(ab[0]), told(ab[1]))
					}
				}
			}
		}
		if g.Used() > 0 {
			byNorm++
		}
		if f.Used() > 0 {
			byWhnf++
		}
	}
	if byNorm < 3000 || byWhnf < 1000 {
		t.Errorf("%d, %d", byNorm, byWhnf)
	}
}

// TestRound asks that to be one is to be it the other way round, and at most, both ways round; and that what is at most, both ways round, is one.
func TestRound(t *testing.T) { // P16.3, P16.4
	are, not, more := 0, 0, 0
	for what, ab := range pairs(3, 4000) {
		is, enough := settled(t, Same, ab[0], ab[1])
		too, round := settled(t, Same, ab[1], ab[0])
		most, up := settled(t, Most, ab[0], ab[1])
		least, down := settled(t, Most, ab[1], ab[0])
		if enough && round && is != too {
			t.Errorf("%s: %s, %s: %v, %v", what, told(ab[0]), told(ab[1]), is, too)
		}
		if enough && is && (up && !most || down && !least) {
			t.Errorf("%s: %s, %s: one, but %v, %v at most", what, told(ab[0]), told(ab[1]), most, least)
		}
		if enough && up && down && !is && most && least {
			t.Errorf("%s: %s, %s: at most, both ways round", what, told(ab[0]), told(ab[1]))
		}
		switch {
		case is:
			are++
		case most || least:
			more++
		default:
			not++
		}
	}
	if are < 2000 || not < 1000 || more < 200 {
		t.Errorf("%d are, %d are not, %d are at most", are, not, more)
	}
}

// TestEta asks that a function is one with functions of what it makes of their variable, and a record's constructor with the fields of something with it.
func TestEta(t *testing.T) { // P16.5
	m, mk := machine(t), makerOf(5)
	functions, records := 0, 0
	for i, a := range several(4, 6000) {
		w, e := m.Bring(a, fuel(1000))
		if e != api.OK {
			continue
		}
		b := lam(mk.term(2, 0), app(raised(a, 0), v(0)))
		if is, enough := settled(t, Same, a, b); enough && !is {
			t.Errorf("%d: %s is not one with the function of it", i, told(a))
		} else if is {
			functions++
		}
		// What is a function, or another record's constructor, is nothing of the record's type.
		if _, _, _, is := (reckoner{l: theWorld()}).record(w); is || w.Kind == api.KLam {
			continue
		}
		b = mk.record(a)
		for _, ab := range [][2]api.Term{{a, b}, {b, a}} {
			if is, enough := settled(t, Same, ab[0], ab[1]); enough && !is {
				t.Errorf("%d: %s is not one with the record of it, %s", i, told(a), told(b))
			} else if is {
				records++
			}
		}
	}
	if functions < 4000 || records < 3000 {
		t.Errorf("%d functions, %d records", functions, records)
	}
}

// TestRecordsOfPairs asks that a record's constructor is one with the one of its own fields, with its parameters and with others.
func TestRecordsOfPairs(t *testing.T) { // P16.5
	mk := makerOf(6)
	are := 0
	for i := range 2000 {
		c := []int{pairing, both, box}[mk.Intn(3)]
		pars, own := some(mk.l[c].Pars, func() api.Term { return mk.small(2) }), some(mk.asks(c)-mk.l[c].Pars, func() api.Term { return mk.term(mk.Intn(4), 2) })
		a := k(c, append(pars, own...)...)
		b := k(c, some(mk.l[c].Pars, func() api.Term { return mk.small(2) })...)
		for p := range own {
			b = app(b, app(k(c+1+p, some(mk.l[c].Pars, func() api.Term { return mk.small(2) })...), a))
		}
		for _, ab := range [][2]api.Term{{a, b}, {b, a}} {
			if is, enough := settled(t, Same, ab[0], ab[1]); enough && !is {
				t.Errorf("%d: %s is not one with %s", i, told(a), told(b))
			} else if is {
				are++
			}
		}
	}
	if are < 3500 {
		t.Errorf("%d are", are)
	}
}

// TestMore asks for the same with more fuel.
func TestMore(t *testing.T) { // P16.1
	m := machine(t)
	enough := 0
	for what, ab := range pairs(7, 500) {
		for _, of := range []call{Same, Most} {
			f := fuel(300)
			is, e := of(m, ab[0], ab[1], f)
			if e != api.OK {
				continue
			}
			enough++
			for _, n := range []int{f.Used(), f.Used() + 1, 2*f.Used() + 3, 5000, api.MaxFuel} {
				answers(t, of, m, what, ab[0], ab[1], n, is, api.OK, f.Used())
			}
			if f.Used() > 0 {
				answers(t, of, m, what, ab[0], ab[1], f.Used()-1, false, api.ErrFuel, f.Used()-1)
			}
		}
	}
	if enough < 1500 {
		t.Errorf("%d with enough fuel", enough)
	}
}
