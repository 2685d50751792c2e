package norm

import (
	"iter"
	"math/rand"
	"strconv"
	"testing"

	"scholium/api"
	"scholium/term"
)

// maker makes terms over world, always the same ones.
type maker struct {
	*rand.Rand
	l []api.Entry
}

// makerOf is one that begins anew.
func makerOf(seed int64) maker { return maker{rand.New(rand.NewSource(seed)), world()} }

// some are so many terms, each told by a function.
func some(n int, of func() api.Term) []api.Term {
	l := terms()
	for range n {
		l = append(l, of())
	}
	return l
}

// pick is a term of a list.
func (m maker) pick(l ...api.Term) api.Term { return l[m.Intn(len(l))] }

// small is a term without others in it.
func (m maker) small(loose int) api.Term {
	if loose > 0 && m.Intn(2) == 0 {
		return v(m.Intn(loose))
	}
	return m.pick(x(m.Intn(3)), set, k(m.Intn(great)), k(zero), k(one), term.Elim(m.Intn(great), m.Intn(3)))
}

// asks tells how many arguments a constructor has, the parameters too.
func (m maker) asks(c int) int {
	n := 0
	for t := m.l[c].Type; t.Kind == api.KPi; t = t.Sub[1] {
		n++
	}
	return n
}

// made is a constructor of a family, mostly with all its arguments.
func (m maker) made(d, deep, loose int) api.Term {
	c := m.l[d].Cons[m.Intn(len(m.l[d].Cons))]
	n := m.asks(c)
	if m.Intn(12) == 0 {
		n = max(0, n+m.Intn(3)-1)
	}
	return k(c, some(n, func() api.Term { return m.term(deep, loose) })...)
}

// target is what may come to a constructor of a family.
func (m maker) target(d, deep, loose int) api.Term {
	switch m.Intn(5) {
	case 0:
		return m.term(deep, loose)
	case 1:
		return k(id, set, m.made(d, deep-1, loose))
	}
	return m.made(d, deep-1, loose)
}

// term is any term, often one with steps at its head, or within it.
func (m maker) term(deep, loose int) api.Term {
	if deep <= 0 {
		return m.small(loose)
	}
	deep--
	part := func() api.Term { return m.term(deep, loose) }
	little := func() api.Term { return m.small(loose) }
	d := []int{nat, nat, vec, tree, sigma, unit, wrap}[m.Intn(7)]
	switch m.Intn(11) {
	case 0:
		return term.Pi(part(), m.term(deep, loose+1))
	case 1, 2:
		return term.Lam(part(), m.term(deep, loose+1))
	case 3:
		return app(little(), some(m.Intn(4), part)...)
	case 4:
		return app(part(), some(m.Intn(3), part)...)
	case 5, 6:
		return app(term.Lam(little(), m.term(deep, loose+1)), some(1+m.Intn(2), part)...)
	case 7:
		p := []int{fst, snd, open}[m.Intn(3)]
		return k(p, append(some(m.l[p].Pars, little), m.target(m.l[p].Of, deep, loose))...)
	case 8:
		args := some(m.l[d].Pars+1+len(m.l[d].Cons)+m.l[d].Inds, part)
		return elim(d, m.Intn(8), append(args, m.target(d, deep, loose))...)
	case 9:
		return k([]int{plus, times, ack, id, couple}[m.Intn(5)], some(m.Intn(4), part)...)
	}
	return m.made(d, deep, loose)
}

// made are so many terms, with loose and named variables.
func made(seed int64, n int) iter.Seq2[int, api.Term] {
	return func(yield func(int, api.Term) bool) {
		m := makerOf(seed)
		for i := 0; i < n; {
			if t := m.term(2+m.Intn(5), m.Intn(4)); term.Shaped(t) {
				if !yield(i, t) {
					return
				}
				i++
			}
		}
	}
}

// TestReckoned holds the calls against what is reckoned step by step, with all fuel up to what is enough.
func TestReckoned(t *testing.T) { // P15.1, P15.2
	m := machine(t)
	const most = 200
	counted := map[api.Errno]int{}
	steps := 0
	for i, from := range made(1, 2000) {
		what := strconv.Itoa(i)
		enough := reckoned(m, from, most)
		counted[enough.e]++
		taken := most - enough.left
		for n := range taken + 2 {
			if n >= 8 && n < taken-1 {
				continue
			}
			want := holds(t, m, what, from, n)
			if i%8 == 0 {
				holdsOf(t, world(), what, from, n, want)
			}
		}
		if taken > 0 {
			steps++
		}
		if t.Failed() {
			t.Fatalf("%s: %s", what, told(from))
		}
	}
	if counted[api.OK] < 1500 || steps < 1200 || counted[api.ErrLong] < 5 || counted[api.ErrFuel] < 10 {
		t.Errorf("%v, %d with steps", counted, steps)
	}
}

// TestAgain brings normal forms to normal form; what took a step to one was none.
func TestAgain(t *testing.T) { // P15.3, P15.2
	m := machine(t)
	were, became := 0, 0
	for i, from := range made(2, 10000) {
		f := fuel(1000)
		n, e := Norm(m, from, f)
		if e != api.OK {
			continue
		}
		stays(t, m, strconv.Itoa(i), n)
		if is := Normal(m, from); is != (f.Used() == 0) || is && !term.Same(from, n) {
			t.Errorf("%d: whether %s is normal", i, told(from))
		}
		if f.Used() == 0 {
			were++
		} else {
			became++
		}
	}
	if were < 500 || became < 4000 {
		t.Errorf("%d were normal, %d became so", were, became)
	}
}

// TestOfWhnf asks that a term and its weak head form have the same normal form, or the same error.
func TestOfWhnf(t *testing.T) { // P15.4
	m := machine(t)
	other, long := 0, 0
	for i, from := range made(3, 10000) {
		f := fuel(1000)
		w, e := m.Bring(from, f)
		if e != api.OK {
			continue
		}
		want, first := Norm(m, from, fuel(5000))
		got, second := Norm(m, w, fuel(5000))
		switch {
		case first == api.ErrFuel || second == api.ErrFuel:
			continue
		case first == api.ErrLong:
			errs(t, strconv.Itoa(i), got, second, first)
			long++
		default:
			same(t, strconv.Itoa(i), got, second, want)
		}
		if f.Used() > 0 {
			other++
		}
		// Steps at the head, one by one, change nothing either.
		next, is, e := m.Once(from, fuel(1000))
		if is && first == api.OK {
			got, e = Norm(m, next, fuel(5000))
			same(t, strconv.Itoa(i)+", one step", got, e, want)
		}
	}
	if other < 4000 || long < 5 {
		t.Errorf("%d with steps at the head, %d too great", other, long)
	}
}

// value is a value of constructors of all kinds, its parameters told by a function.
func (m maker) value(deep int, par func() api.Term) api.Term {
	cons := []int{zero, suc, vnil, vcons, sup, pair, box, bare, more}
	if deep <= 0 {
		cons = []int{zero, vnil, bare}
	}
	c := cons[m.Intn(len(cons))]
	args := some(m.l[c].Pars, par)
	return k(c, append(args, some(m.asks(c)-m.l[c].Pars, func() api.Term { return m.value(deep-1, par) })...)...)
}

// TestValues asks that values are values, and normal, if their parameters are.
func TestValues(t *testing.T) { // P15.5, P15.2
	m, mk := machine(t), makerOf(4)
	normal, steps := 0, 0
	for i := range 6000 {
		par := func() api.Term { return mk.small(3) }
		if i%2 == 0 {
			par = func() api.Term { return mk.term(mk.Intn(3), 2) }
		}
		all := true
		from := mk.value(mk.Intn(5), func() api.Term {
			p := par()
			all = all && Normal(m, p)
			return p
		})
		if !Value(m, from) {
			t.Errorf("%d: %s is no value", i, told(from))
		}
		if Normal(m, from) != all {
			t.Errorf("%d: %s, with parameters that are normal, %v", i, told(from), all)
		}
		if all {
			stays(t, m, strconv.Itoa(i), from)
			normal++
		} else {
			steps++
		}
		// Anything else in a place behind the parameters makes it none.
		if spoilt, is := mk.replaced(from); is && Value(m, spoilt) {
			t.Errorf("%d: %s is a value", i, told(spoilt))
		}
	}
	if normal < 1000 || steps < 1000 {
		t.Errorf("%d normal, %d not", normal, steps)
	}
}

// replaced is a value with what is none in the place of one of its arguments behind the parameters, or of one within it; and whether it has such a one.
func (m maker) replaced(t api.Term) (api.Term, bool) {
	head, args := term.Spine(t)
	pars := m.l[head.N].Pars
	if len(args) == pars {
		return t, false
	}
	i := pars + m.Intn(len(args)-pars)
	in, is := m.replaced(args[i])
	if !is || m.Intn(3) == 0 {
		in = m.pick(x(1), v(2), set, lam(set, k(zero)), k(one), k(suc), k(zero, k(zero)), elim(nat, 0), k(nat), app(lam(set, v(0)), k(zero)))
	}
	args[i] = in
	return app(head, args...), true
}

// TestNumbered holds numbers against a count of their constructors.
func TestNumbered(t *testing.T) { // P15.2
	m, mk := machine(t), makerOf(5)
	par := func() api.Term { return mk.small(2) }
	for i := range 3000 {
		from := mk.pick(k(zero), k(vnil, par()), k(bare, par()))
		many := mk.Intn(40)
		for range many {
			from = mk.pick(k(suc, from), k(box, from), k(more, par(), from))
		}
		if n, is := Number(m, from); !is || n != many || !Value(m, from) {
			t.Errorf("%d, %s: %d, %v, not %d", i, told(from), n, is, many)
		}
		value := mk.value(mk.Intn(5), par)
		want, is := counted(mk.l, value)
		if n, got := Number(m, value); got != is || n != want {
			t.Errorf("%d, %s: %d, %v, not %d, %v", i, told(value), n, got, want, is)
		}
	}
}

// counted tells how many constructors of a value stand around its innermost one, if each has but one argument behind the parameters.
func counted(l []api.Entry, t api.Term) (int, bool) {
	head, args := term.Spine(t)
	switch args = args[l[head.N].Pars:]; len(args) {
	case 0:
		return 0, true
	case 1:
		if n, is := counted(l, args[0]); is {
			return n + 1, true
		}
	}
	return 0, false
}

// TestMore asks for the same with more fuel.
func TestMore(t *testing.T) { // P15.1
	m := machine(t)
	right := 0
	for i, from := range made(6, 600) {
		f := fuel(300)
		want, e := Norm(m, from, f)
		if e != api.OK {
			continue
		}
		right++
		for _, n := range []int{f.Used(), f.Used() + 1, 2*f.Used() + 3, 5000, api.MaxFuel} {
			holdsOf(t, world(), strconv.Itoa(i), from, n, answer{want, api.OK, n - f.Used()})
		}
		if f.Used() > 0 {
			refused(t, strconv.Itoa(i), world(), from, f.Used()-1, api.ErrFuel)
		}
	}
	if right < 500 {
		t.Errorf("%d with enough fuel", right)
	}
}
