package whnf

import (
	"iter"
	"math/rand"
	"slices"
	"strconv"
	"testing"

	"scholium/api"
	"scholium/term"
)

// maker makes terms over world, always the same ones.
type maker struct {
	*rand.Rand
	l []api.Entry
}

// makerOf is one that begins anew.
func makerOf(seed int64) maker { return maker{rand.New(rand.NewSource(seed)), world()} }

// many are so many terms.
func (m maker) many(n, deep, loose int) []api.Term {
	l := terms()
	for range n {
		l = append(l, m.term(deep, loose))
	}
	return l
}

// more is a term, applied to some more, mostly to none.
func (m maker) more(t api.Term, deep, loose int) api.Term {
	return app(t, m.many(max(0, m.Intn(5)-2), deep, loose)...)
}

// small is a term without others in it.
func (m maker) small(loose int) api.Term {
	if loose > 0 && m.Intn(2) == 0 {
		return v(m.Intn(loose))
	}
	return terms(x(m.Intn(3)), set, k(m.Intn(end)), k(zero), k(one), term.Elim(m.Intn(end), m.Intn(3)))[m.Intn(6)]
}

// family is that of an entry with constructors.
func (m maker) family() int { return []int{nat, nat, nat, vec, tree, sigma, unit}[m.Intn(7)] }

// made is a constructor of a family, mostly with all its arguments.
func (m maker) made(d, deep, loose int) api.Term {
	c := m.l[d].Cons[m.Intn(len(m.l[d].Cons))]
	n := 0
	for t := m.l[c].Type; t.Kind == api.KPi; t = t.Sub[1] {
		n++
	}
	if m.Intn(12) == 0 {
		n = max(0, n+m.Intn(3)-1)
	}
	return k(c, m.many(n, deep, loose)...)
}

// target is what may come to a constructor of a family.
func (m maker) target(d, deep, loose int) api.Term {
	switch m.Intn(5) {
	case 0:
		return m.term(deep, loose)
	case 1:
		return k(id, set, m.made(d, deep-1, loose))
	case 2:
		return app(term.Lam(set, m.made(d, deep-1, loose+1)), m.term(deep-1, loose))
	}
	return m.made(d, deep-1, loose)
}

// term is any term, mostly one with a step at its head, or in its target.
func (m maker) term(deep, loose int) api.Term {
	if deep <= 0 {
		return m.small(loose)
	}
	deep--
	switch m.Intn(11) {
	case 0:
		return term.Pi(m.term(deep, loose), m.term(deep, loose+1))
	case 1:
		return term.Lam(m.term(deep, loose), m.term(deep, loose+1))
	case 2:
		return m.more(m.term(deep, loose), deep, loose)
	case 3, 4:
		return m.more(app(term.Lam(m.small(loose), m.term(deep, loose+1)), m.term(deep, loose)), deep, loose)
	case 5, 6:
		p := []int{fst, snd, open}[m.Intn(3)]
		return m.more(k(p, append(m.many(m.l[p].Pars, 0, loose), m.target(m.l[p].Of, deep, loose))...), deep, loose)
	case 7, 8:
		d := m.family()
		args := m.many(m.l[d].Pars+1+len(m.l[d].Cons)+m.l[d].Inds, deep-1, loose)
		return m.more(elim(d, m.Intn(8), append(args, m.target(d, deep, loose))...), deep, loose)
	case 9:
		return k([]int{plus, times, ack, id, couple}[m.Intn(5)], m.many(m.Intn(4), deep, loose)...)
	}
	return m.made(m.family(), deep, loose)
}

// made are so many terms, with loose and named variables.
func made(seed int64, n int) iter.Seq2[int, api.Term] {
	return func(yield func(int, api.Term) bool) {
		m := makerOf(seed)
		for i := 0; i < n; {
			if t := m.term(2+m.Intn(5), m.Intn(4)); term.Shaped(t) {
				if !yield(i, t) {
					return
				}
				i++
			}
		}
	}
}

// TestReckoned holds both calls against what is reckoned call within call, with all fuel up to what is enough.
func TestReckoned(t *testing.T) { // P14.1
	m, r := machine(t), reckonerOf(t, world())
	const most = 60
	counted := map[api.Errno]int{}
	var steps, within int
	for i, from := range made(1, 10000) {
		what := strconv.Itoa(i)
		enough := r.bring(from, most)
		counted[enough.e]++
		for n := range most - enough.left + 2 {
			if n < 25 || n >= most-enough.left-1 {
				r.holdAll(t, m, what, from, n)
			}
		}
		if enough.left < most {
			steps++
		}
		if once := r.once(from, most); once.e == api.OK && !once.is && once.left < most {
			within++
		}
		if t.Failed() {
			t.Fatalf("%s: %s", what, told(from))
		}
	}
	if counted[api.OK] < 9000 || steps < 5000 || within < 300 || counted[api.ErrLong] < 50 {
		t.Errorf("%v, %d with steps, %d with steps within alone", counted, steps, within)
	}
}

// TestBegin asks that each step is as the reckoned one, one by one, and that steps one by one come to what Bring tells.
func TestBegin(t *testing.T) { // P14.1
	m := machine(t)
	for i, from := range made(2, 5000) {
		f, g := fuel(300), fuel(300)
		want, no := m.Bring(from, f)
		now, is, e := from, true, api.OK
		for is && e == api.OK {
			now, is, e = m.Once(now, g)
		}
		if e != no || f.Left() != g.Left() {
			t.Fatalf("%d, %s: %v, %d left, not %v, %d", i, told(from), e, g.Left(), no, f.Left())
		}
		if e == api.OK && !term.Same(now, want) {
			t.Fatalf("%d, %s: %s, not %s", i, told(from), told(now), told(want))
		}
	}
}

// quiet tells whether no step is taken in asking for a step at the head of a weak head form: its target, if it waits for one, is such a one, too.
func quiet(m *Machine, t api.Term) bool {
	head, args := headed(t)
	if head.Kind != api.KElim && (head.Kind != api.KConst || m.entries[head.N].Kind != api.EProj) {
		return true
	}
	n := m.Pars(head.N) + 1
	if head.Kind == api.KElim {
		n += len(m.entries[head.N].Cons) + m.entries[head.N].Inds + 1
	}
	if len(args) < n {
		return true
	}
	_, is, e := m.Once(args[n-1], fuel(1))
	return e == api.OK && !is && quiet(m, args[n-1])
}

// TestAgain brings weak head forms to weak head form.
func TestAgain(t *testing.T) { // P14.3
	m := machine(t)
	var still, within int
	for i, from := range made(3, 10000) {
		w, e := m.Bring(from, fuel(1000))
		if e != api.OK {
			continue
		}
		f := fuel(1000)
		got, e := m.Bring(w, f)
		same(t, strconv.Itoa(i), got, e, w)
		got, is, e := m.Once(w, fuel(1000))
		same(t, strconv.Itoa(i), got, e, w)
		if is {
			t.Errorf("%d: a step at the head of %s", i, told(w))
		}
		if !quiet(m, w) {
			within++
			continue
		}
		still++
		if f.Used() != 0 {
			t.Errorf("%d: %d steps of %s", i, f.Used(), told(w))
		}
		got, e = m.Bring(w, nil)
		same(t, strconv.Itoa(i)+", a nil meter", got, e, w)
	}
	if still < 5000 || within < 50 {
		t.Errorf("%d, and %d with steps within", still, within)
	}
}

// TestMore asks for the same with more fuel.
func TestMore(t *testing.T) { // P14.4
	m := machine(t)
	right := 0
	for i, from := range made(4, 2000) {
		f := fuel(200)
		want, e := m.Bring(from, f)
		if e != api.OK {
			continue
		}
		right++
		for _, n := range []int{f.Used(), f.Used() + 1, 2*f.Used() + 3, 5000, api.MaxFuel} {
			got, used, e := Bring(m.entries, from, n)
			same(t, strconv.Itoa(i), got, e, want)
			if used != f.Used() {
				t.Errorf("%d: %d steps, not %d", i, used, f.Used())
			}
		}
		if f.Used() > 0 {
			got, _, e := Bring(m.entries, from, f.Used()-1)
			errs(t, strconv.Itoa(i), got, e, api.ErrFuel)
		}
	}
	if right < 1500 {
		t.Errorf("%d with enough fuel", right)
	}
}

// loose are a term's loose variables, each once.
func loose(t api.Term) map[int]struct{} {
	l := map[int]struct{}{}
	changed(t, 0, func(n, binders int) api.Term { l[n-binders] = struct{}{}; return v(n) })
	return l
}

// TestLoose asks that no loose variable comes, and no named one, that was not there.
func TestLoose(t *testing.T) { // P14.5
	m := machine(t)
	fewer := 0
	for i, from := range made(5, 10000) {
		w, e := m.Bring(from, fuel(200))
		if e != api.OK {
			continue
		}
		had, has := loose(from), loose(w)
		for n := range has {
			if _, is := had[n]; !is {
				t.Errorf("%d: variable %d in %s, of %s", i, n, told(w), told(from))
			}
		}
		if len(has) < len(had) {
			fewer++
		}
		for _, n := range term.Frees(w) {
			if !slices.Contains(term.Frees(from), n) {
				t.Errorf("%d: named variable %d in %s, of %s", i, n, told(w), told(from))
			}
		}
	}
	if fewer < 500 {
		t.Errorf("%d with fewer variables", fewer)
	}
}
