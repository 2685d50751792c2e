package infer

import (
	"iter"
	"math/rand"
	"slices"
	"testing"

	"scholium/api"
	"scholium/conv"
	"scholium/term"
)

// maker makes terms over world that mostly have types, always the same ones.
type maker struct {
	*rand.Rand
	World
}

// makerOf is one that begins anew.
func makerOf(t *testing.T, seed int64) maker {
	t.Helper()
	return maker{rand.New(rand.NewSource(seed)), placed(t)}
}

// pick is a term of a list.
func (m maker) pick(l ...api.Term) api.Term { return l[m.Intn(len(l))] }

// weak is a term's weak head form.
func (m maker) weak(t api.Term) api.Term {
	t, _ = m.M.Bring(t, fuel(5000))
	return t
}

// small tells whether a type is of the least universe.
func (m maker) small(context []api.Term, a api.Term) bool {
	w := m.World
	w.F = fuel(5000)
	n, e := reckoner{w, theWorld()}.universe(context, a)
	return n == 0 && e == api.OK
}

// held are the variables, loose and named, that have a type, or one that is at most it.
func (m maker) held(context []api.Term, a api.Term) []api.Term {
	l := terms()
	try := func(t, has api.Term) {
		if is, e := conv.Most(m.M, has, a, fuel(5000)); is && e == api.OK {
			l = append(l, t)
		}
	}
	for i := range context {
		try(v(i), moved(context[len(context)-1-i], i+1, 0))
	}
	for i, n := range m.Names {
		if !slices.Contains(m.Names[i+1:], n) {
			try(x(n), m.Types[i])
		}
	}
	return l
}

// number is a number.
func (m maker) number(context []api.Term, deep int) api.Term { return m.of(context, k(nat), deep) }

// raised is a term beneath one more variable.
func raised(t api.Term) api.Term { return moved(t, 1, 0) }

// typ is a type of the least universe.
func (m maker) typ(context []api.Term, deep int) api.Term {
	if deep <= 0 {
		return m.pick(append(m.held(context, set), k(nat), k(nat), k(unit), k(onward))...)
	}
	deep--
	a := m.typ(context, deep)
	switch m.Intn(11) {
	case 0, 1:
		return k(vec, a, m.number(context, deep))
	case 2, 3:
		return fn(a, m.typ(under(context, a), deep))
	case 4:
		return k(sigma, a, lam(a, m.typ(under(context, a), deep)))
	case 5:
		return k(eq, a, m.of(context, a, deep), m.of(context, a, deep))
	case 6:
		return k(tree, a, lam(a, m.typ(under(context, a), deep)))
	case 7:
		return app(lam(set, m.typ(under(context, set), deep)), a)
	case 8:
		return elim(nat, 1, lam(k(nat), set), a, lam(k(nat), set, fn(v(0), raised(raised(raised(a))))), m.number(context, deep))
	case 9:
		return app(x(family), m.number(context, deep))
	}
	return a
}

// great is a type of any universe.
func (m maker) great(context []api.Term, deep int) api.Term {
	switch n := m.Intn(7); {
	case deep <= 0 || n == 0:
		return s(m.Intn(4))
	case n == 1:
		a := m.great(context, deep-1)
		return fn(a, m.great(under(context, a), deep-1))
	case n == 2:
		return m.pick(k(upper), k(arrow), k(some), x(to))
	}
	return m.typ(context, deep)
}

// of is a term of a type, often one with steps at its head.
func (m maker) of(context []api.Term, a api.Term, deep int) api.Term {
	if l := m.held(context, a); len(l) > 0 && (deep <= 0 || m.Intn(4) == 0) {
		return m.pick(l...)
	}
	if deep > 0 && m.Intn(3) == 0 {
		return m.redex(context, a, deep-1)
	}
	return m.made(context, a, deep-1)
}

// redex is a term of a type, with a step at its head.
func (m maker) redex(context []api.Term, a api.Term, deep int) api.Term {
	t := m.of(context, a, deep)
	b := m.great(context, deep)
	n := m.number(context, deep)
	if m.Intn(3) > 0 && m.small(context, a) {
		switch m.Intn(5) {
		case 0:
			return k(id, a, t)
		case 1:
			return k(fst, a, lam(a, k(nat)), k(pairing, a, lam(a, k(nat)), t, n))
		case 2:
			return k(snd, k(nat), lam(k(nat), raised(a)), k(pairing, k(nat), lam(k(nat), raised(a)), n, t))
		case 3:
			return elim(nat, 0, lam(k(nat), raised(a)), t, lam(k(nat), raised(a), v(0)), n)
		case 4:
			return elim(unit, 0, lam(k(unit), raised(a)), lam(k(nat), raised(t)), k(box, n))
		}
	}
	switch m.Intn(3) {
	case 0:
		return app(lam(b, raised(t)), m.of(context, b, deep))
	case 1:
		return app(lam(a, v(0)), t)
	}
	return app(lam(fn(b, raised(a)), app(v(0), raised(m.of(context, b, deep)))), lam(b, raised(t)))
}

// made is a term of a type, by what that comes to.
func (m maker) made(context []api.Term, a api.Term, deep int) api.Term {
	w := m.weak(a)
	head, args := term.Spine(w)
	part := func(a api.Term) api.Term { return m.of(context, a, deep) }
	if w.Kind == api.KPi {
		return lam(w.Sub[0], m.of(under(context, w.Sub[0]), w.Sub[1], deep))
	}
	if w.Kind == api.KSort {
		if w.N == 0 {
			return m.typ(context, deep)
		}
		return m.pick(s(m.Intn(w.N)), m.typ(context, deep), fn(m.typ(context, deep), s(w.N-1)))
	}
	if head.Kind == api.KConst {
		switch head.N {
		case nat:
			if deep <= 0 {
				return m.pick(k(zero), k(one), x(count))
			}
			return m.pick(k(zero), k(suc, part(k(nat))), k(plus, part(k(nat)), part(k(nat))), k(times, k(two), part(k(nat))), k(open, part(k(unit))), app(x(twice), k(one), part(k(nat))))
		case unit:
			return k(box, part(k(nat)))
		case some:
			b := m.typ(context, deep)
			return k(hold, b, part(b))
		case sigma:
			first := part(args[0])
			return k(pairing, args[0], args[1], first, part(app(args[1], first)))
		case vec:
			n := m.weak(args[1])
			if f, l := term.Spine(n); f.Kind == api.KConst && f.N == zero {
				return k(vnil, args[0])
			} else if f.Kind == api.KConst && f.N == suc {
				return k(vcons, args[0], l[0], part(args[0]), part(k(vec, args[0], l[0])))
			}
		case eq:
			if is, _ := conv.Same(m.M, args[1], args[2], fuel(5000)); is {
				return k(refl, args[0], args[m.Intn(2)+1])
			}
		}
	}
	return app(x(any), a)
}

// context are types, each beneath those ahead of it.
func (m maker) context() []api.Term {
	l := terms()
	for range m.Intn(5) {
		l = append(l, m.great(l, m.Intn(3)))
	}
	return l
}

// spoilt is a term with something else in one place.
func (m maker) spoilt(t api.Term) api.Term {
	if len(t.Sub) == 0 || t.Kind == api.KElim || m.Intn(5) == 0 {
		return m.pick(v(m.Intn(4)), x(m.Intn(8)), k(m.Intn(end)), s(m.Intn(8)), k(nat), k(zero), term.Elim(m.Intn(end), m.Intn(3)), app(t, k(zero)), k(suc, t), k(id, k(nat), t), lam(k(nat), raised(t)), app(lam(k(nat), raised(t)), k(zero)))
	}
	i := m.Intn(len(t.Sub))
	l := append(terms(), t.Sub...)
	l[i] = m.spoilt(l[i])
	t.Sub = l
	return t
}

// sample is a term in a world, and a type against which it may be checked.
type sample struct {
	World
	of, a api.Term
	right bool // made to have a type, and to have this one
}

// samples are so many of them, more than half of which are right.
func samples(t *testing.T, seed int64, n int) iter.Seq2[string, sample] {
	t.Helper()
	m := makerOf(t, seed)
	return func(yield func(string, sample) bool) {
		for i := 0; i < n; {
			w := m.World
			w.Context = m.context()
			a := m.great(w.Context, m.Intn(4))
			of := m.of(w.Context, a, m.Intn(5))
			each := sample{w, of, a, true}
			switch m.Intn(8) {
			case 0, 1:
				each = sample{w, m.spoilt(of), a, false}
			case 2:
				each = sample{w, of, m.spoilt(a), false}
			case 3:
				each = sample{w, a, m.great(w.Context, 2), false}
			}
			if !term.Shaped(each.of) || !term.Shaped(each.a) || term.Size(each.of)+term.Size(each.a) > 1000 {
				continue
			}
			if !yield(many(i), each) {
				return
			}
			i++
		}
	}
}

// TestReckoned holds the calls against what is reckoned from the words, with all fuel up to what is enough.
func TestReckoned(t *testing.T) { // P17.1, P17.2
	counted := map[string]int{}
	for what, each := range samples(t, 1, 1500) {
		l := terms(each.a, raised(each.of), raised(raised(each.a)))
		all := holds(t, theWorld(), each.World, what, each.of, each.a, l, 3000)
		for name, want := range all {
			for n := range want.used {
				if n < 3 || n > want.used-3 || n%(1+want.used/7) == 0 {
					held(t, theWorld(), name, each.World, what, each.of, each.a, l, n)
				}
			}
			held(t, theWorld(), name, each.World, what, each.of, each.a, l, want.used)
			counted[name+" "+want.e.Error()]++
		}
		if each.right && (all["Infer"].e != api.OK || all["Check"].e != api.OK || all["Tele"].e == api.OK && all["Universe"].e != api.OK) {
			counted["not right"]++
		}
		if t.Failed() {
			t.Fatalf("%s: %s, %s", what, told(each.of), told(each.a))
		}
	}
	for word, least := range map[string]int{
		"Infer ok": 1100, "Infer type": 100, "Infer scope": 5, "Infer none": 10, "Infer level": 3,
		"Check ok": 800, "Check type": 200, "Universe ok": 200, "Universe type": 800, "Tele ok": 100, "Tele type": 500, "Context ok": 1400,
	} {
		if counted[word] < least {
			t.Errorf("%d are %s: %v", counted[word], word, counted)
		}
	}
	if counted["not right"] > 50 {
		t.Errorf("%d that should be right are not: %v", counted["not right"], counted)
	}
}

// typed are so many terms with their types, told with much fuel.
func typed(t *testing.T, seed int64, n int) iter.Seq2[string, sample] {
	t.Helper()
	return func(yield func(string, sample) bool) {
		have := 0
		for what, each := range samples(t, seed, n) {
			each.F = fuel(api.MaxFuel)
			a, e := Infer(each.World, each.of)
			if e != api.OK {
				continue
			}
			have++
			if !yield(what, sample{each.World, each.of, a, true}) {
				return
			}
		}
		if have < n*3/4 {
			t.Errorf("but %d of %d have types", have, n)
		}
	}
}

// TestItself asks that a term is checked against its own type.
func TestItself(t *testing.T) { // P17.3
	for what, each := range typed(t, 2, 2000) {
		each.F = fuel(api.MaxFuel)
		if e := Check(each.World, each.of, each.a); e != api.OK {
			t.Fatalf("%s: %s, of %s: %v", what, told(each.of), told(each.a), e)
		}
	}
}

// TestWeak asks that a term's weak head form has a type that is at most the term's, and is checked against it.
func TestWeak(t *testing.T) { // P17.4
	steps, lower := 0, 0
	for what, each := range typed(t, 3, 4000) {
		f := fuel(api.MaxFuel)
		w, e := each.M.Bring(each.of, f)
		if e != api.OK {
			t.Fatal(what, e)
		}
		if f.Used() > 0 {
			steps++
		}
		each.F = fuel(api.MaxFuel)
		b, e := Infer(each.World, w)
		if e != api.OK {
			t.Fatalf("%s: %s, of %s: %v", what, told(each.of), told(w), e)
		}
		is, e := conv.Most(each.M, b, each.a, fuel(api.MaxFuel))
		if !is || e != api.OK {
			t.Fatalf("%s: %s has %s, not %s: %v", what, told(w), told(b), told(each.a), e)
		}
		if too, _ := conv.Same(each.M, b, each.a, fuel(api.MaxFuel)); !too {
			lower++
		}
	}
	if steps < 700 || lower < 50 {
		t.Errorf("%d take steps, %d have a lower type behind them", steps, lower)
	}
}

// TestMore asks the same with more fuel.
func TestMore(t *testing.T) { // P17.5
	enough, less := 0, 0
	for what, each := range samples(t, 4, 700) {
		l := terms(each.a, raised(each.of))
		for name, two := range calls(nil) {
			want := answered(two[0], each.World, 3000, each.of, each.a, l)
			if want.e == api.ErrFuel {
				continue
			}
			enough++
			for _, n := range []int{want.used, want.used + 1, 2*want.used + 3, 5000, api.MaxFuel} {
				answers(t, name, each.World, what, each.of, each.a, l, n, want)
			}
			if want.used > 0 {
				less++
				answers(t, name, each.World, what, each.of, each.a, l, want.used-1, answer{e: api.ErrFuel, used: want.used - 1})
			}
		}
	}
	if enough < 3000 || less < 1500 {
		t.Errorf("%d, %d", enough, less)
	}
}

// TestFunctionsOfContexts asks that what has a type beneath a variable is a function with a type, and the other way round; and that what is checked beneath it is checked as a function.
func TestFunctionsOfContexts(t *testing.T) { // P17.1
	functions := 0
	for what, each := range typed(t, 5, 1000) {
		last := len(each.Context) - 1
		if last < 0 {
			continue
		}
		a := each.Context[last]
		around := each.World
		around.Context, around.F = each.Context[:last], fuel(api.MaxFuel)
		got, e := Infer(around, lam(a, each.of))
		if e != api.OK || !term.Same(got, fn(a, each.a)) {
			t.Errorf("%s: %s has %s: %v", what, told(lam(a, each.of)), told(got), e)
		}
		if e := Check(around, lam(a, each.of), fn(a, each.a)); e != api.OK {
			t.Errorf("%s: %s, of %s: %v", what, told(lam(a, each.of)), told(fn(a, each.a)), e)
		}
		functions++
	}
	if functions < 500 {
		t.Errorf("%d functions", functions)
	}
}
