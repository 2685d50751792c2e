package whnf

import (
	"math"
	"strconv"
	"testing"

	"scholium/api"
	"scholium/sign"
	"scholium/subst"
	"scholium/term"
)

// bush is a term of n nodes that is not deep, its ends t, or eliminators of what is no family.
func bush(n int, t api.Term) api.Term {
	switch n {
	case 1:
		return t
	case 2:
		return term.Elim(zero, 0)
	}
	return app(bush((n-1)/2, t), bush(n-1-(n-1)/2, t))
}

// deep is a term of n levels, its ends t.
func deep(n int, t api.Term) api.Term {
	all := t
	for range n - 1 {
		all = app(t, all)
	}
	return all
}

// endless is a term that stands within its own Subs.
func endless() api.Term {
	t := term.Pi(set, set)
	t.Sub[0], t.Sub[1] = t, t
	return t
}

// unshaped are terms that are not shaped.
func unshaped() []api.Term {
	node := func(kind, n int, subs ...api.Term) api.Term { return api.Term{Kind: kind, N: n, Sub: subs} }
	return terms(api.Term{}, node(9, 0), node(-1, 0, set, set), node(math.MaxInt, 0), node(0, 1), v(-1), v(api.MaxFree+1), node(api.KVar, 0, set), term.Sort(api.MaxLevel+1), term.Sort(-1), k(math.MaxInt), k(-1), x(math.MinInt), x(api.MaxFree+1),
		node(api.KElim, 0), term.Elim(nat, -1), term.Elim(-1, 0), node(api.KElim, 0, x(0)), node(api.KPi, 0), node(api.KLam, 0, set), node(api.KLam, 1, set, set), node(api.KApp, 0, set, set, set), node(api.KApp, 1, k(one), set), fn(set, v(-1)), bush(api.MaxNodes+1, x(0)), deep(api.MaxDepth+1, x(0)), endless())
}

// wrong are terms that may not come: those that are not shaped, and those that name what there is not.
func wrong() []api.Term {
	all := append(unshaped(), k(end), k(end+1), k(api.MaxSig), k(api.MaxFree), elim(end, 0), elim(api.MaxFree, 7))
	for _, t := range append(unshaped(), k(end), elim(end, 0)) {
		all = append(all, app(x(1), t), app(t, x(1)), lam(set, t), lam(t, set), fn(t, set), k(suc, t), k(one, t), app(lam(set, x(1)), t), elim(nat, 0, t, x(2), x(3), k(zero)))
	}
	return all
}

// broken are signatures that are not formed.
func broken() [][]api.Entry {
	with := func(i int, change func(e *api.Entry)) []api.Entry {
		l := sign.Copy(world())
		change(&l[i])
		return l
	}
	return [][]api.Entry{
		{{}}, {{Kind: 9, Name: "x", Type: set}}, world()[:suc], world()[:fst], append(world(), def("one", set, set)), append(world(), def("x", set, k(end))), append(world(), def("x", set, api.Term{})),
		append(world(), make([]api.Entry, 5)...), make([]api.Entry, api.MaxSig+1),
		with(nat, func(e *api.Entry) { e.Cons = []int{zero} }),
		with(nat, func(e *api.Entry) { e.Body = api.Term{Kind: 9} }), // what a copy would mend
		with(nat, func(e *api.Entry) { e.Kind = 0 }),
		with(suc, func(e *api.Entry) { e.Place = 0 }),
		with(vec, func(e *api.Entry) { e.Inds = math.MaxInt }),
		with(fst, func(e *api.Entry) { e.Pars = 1 }),
		with(one, func(e *api.Entry) { e.Body = v(0) }),
		with(one, func(e *api.Entry) { e.Body = x(0) }),
		with(one, func(e *api.Entry) { e.Body = endless() }),
	}
}

// fuels are amounts of fuel that there may be, and that there may not.
var fuels = []int{0, 1, api.MaxFuel, -1, api.MaxFuel + 1, math.MinInt, math.MaxInt}

// TestNotFormed asks that of what is not formed there is no machine, whatever else comes.
func TestNotFormed(t *testing.T) { // P14.1, P14.2
	for i, l := range broken() {
		if m, e := New(l); m != nil || e != api.ErrShape {
			t.Errorf("%d: a machine, %v", i, e)
		}
		for _, from := range append(unshaped(), k(one), x(1)) {
			for _, n := range fuels {
				got, steps, e := Bring(l, from, n)
				errs(t, strconv.Itoa(i), got, e, api.ErrShape)
				if steps != 0 {
					t.Errorf("%d: %d steps", i, steps)
				}
			}
		}
	}
}

// TestWrongFuel asks for fuel that there may not be.
func TestWrongFuel(t *testing.T) { // P14.2
	for _, n := range fuels {
		want := api.OK
		if n < 0 || n > api.MaxFuel {
			want = api.ErrShape
		}
		for _, from := range terms(x(1), k(suc, v(3)), lam(set, k(one))) { // no step is asked
			got, steps, e := Bring(world(), from, n)
			if want == api.OK {
				same(t, strconv.Itoa(n), got, e, from)
			} else {
				errs(t, strconv.Itoa(n), got, e, want)
			}
			if steps != 0 {
				t.Errorf("%d: %d steps", n, steps)
			}
		}
		for _, from := range wrong() {
			got, steps, e := Bring(world(), from, n)
			errs(t, strconv.Itoa(n), got, e, api.ErrShape)
			if steps != 0 {
				t.Errorf("%d: %d steps", n, steps)
			}
		}
	}
}

// TestNilMachine asks a nil machine, and one of no entries.
func TestNilMachine(t *testing.T) { // P14.1, P14.2
	var none *Machine
	of, _ := New(nil)
	for _, from := range append(wrong(), x(1), app(lam(set, v(0)), x(1)), k(zero), k(one)) {
		f := fuel(5)
		got, e := none.Bring(from, f)
		errs(t, "Bring", got, e, api.ErrShape)
		got, e = none.Bring(from, nil)
		errs(t, "Bring, a nil meter", got, e, api.ErrShape)
		got, is, e := none.Once(from, f)
		errs(t, "Once", got, e, api.ErrShape)
		if is || f.Used() != 0 {
			t.Errorf("Once: %v, %d taken", is, f.Used())
		}
		for _, m := range []*Machine{none, of, {}} {
			if c, args, is := m.Con(from); is || c != 0 || args != nil {
				t.Errorf("Con: %d, %v", c, args)
			}
			if len(term.Entries(from)) > 0 {
				got, e := m.Bring(from, f)
				errs(t, "Bring of no entries", got, e, api.ErrShape)
			}
		}
	}
	for _, m := range []*Machine{none, of, {}} {
		if m.Len() != 0 || m.Entries() != nil {
			t.Errorf("%d entries", m.Len())
		}
		for _, n := range append([]int{0, 1, suc, fst}, outside...) {
			if m.Pars(n) != 0 || m.Family(n) != 0 {
				t.Errorf("%d: %d, %d", n, m.Pars(n), m.Family(n))
			}
		}
	}
	got, e := (&Machine{}).Bring(app(lam(set, v(0)), x(1)), fuel(1))
	same(t, "the zero machine", got, e, x(1))
}

// TestWrong asks for terms that may not come; no fuel is asked, and none is taken.
func TestWrong(t *testing.T) { // P14.1
	m := machine(t)
	for _, from := range wrong() {
		f := fuel(9)
		got, e := m.Bring(from, f)
		errs(t, "Bring", got, e, api.ErrShape)
		got, is, e := m.Once(from, f)
		errs(t, "Once", got, e, api.ErrShape)
		if is || f.Used() != 0 {
			t.Errorf("Once: %v, %d taken", is, f.Used())
		}
		got, e = m.Bring(from, nil)
		errs(t, "Bring, a nil meter", got, e, api.ErrShape)
		got, is, e = m.Once(from, nil)
		errs(t, "Once, a nil meter", got, e, api.ErrShape)
		if is {
			t.Error("Once: a step")
		}
	}
}

// TestConWrong asks for constructors with what is not shaped.
func TestConWrong(t *testing.T) { // P14.2
	m := machine(t)
	for _, part := range unshaped() {
		for _, from := range terms(part, k(suc, part), k(box, part), k(pair, x(1), x(2), part, x(4)), k(pair, part, x(2), x(3), x(4)), app(part, x(1)), k(zero, part)) {
			if c, args, is := m.Con(from); is || c != 0 || args != nil {
				t.Errorf("%d, %v", c, args)
			}
		}
	}
	for n, is := range map[int]bool{api.MaxNodes - 2: true, api.MaxNodes - 1: false} {
		if c, args, got := m.Con(k(suc, bush(n, x(0)))); got != is || is && (c != suc || !term.Same(args[0], bush(n, x(0)))) {
			t.Errorf("%d: %d, %v", n, c, got)
		}
	}
	for n, is := range map[int]bool{api.MaxDepth - 1: true, api.MaxDepth: false} {
		if _, _, got := m.Con(k(suc, deep(n, x(0)))); got != is {
			t.Errorf("%d levels: %v", n, got)
		}
	}
}

// The places of what stands behind world's entries, of great bodies.
const (
	great = end
	tall  = end + 1
)

// wide is a signature with great bodies.
func wide() []api.Entry {
	return append(world(), def("great", set, bush(8000, k(zero))), def("tall", set, deep(120, k(zero))))
}

// edge is a row of terms, each of which comes to a weak head form in so many steps, up to a last one; behind that the last step makes what is too great: ahead of the fuel, or behind it.
type edge struct {
	of          func(n int) api.Term
	last, steps int
	ahead       bool
}

// several are so many named variables.
func several(n int) []api.Term {
	l := terms()
	for i := range n {
		l = append(l, x(i))
	}
	return l
}

// edges are some of each kind of step.
func edges() map[string]edge {
	type row = func(n int) api.Term
	twice := app(v(0), v(0))
	under := func(n int) api.Term { // so many levels above it
		t := v(0)
		for range n {
			t = app(x(1), t)
		}
		return t
	}
	by := func(body, a api.Term) api.Term { return app(lam(set, body), a) }
	ofTree := func(f api.Term) api.Term { return elim(tree, 0, x(1), x(2), x(3), x(4), k(sup, x(5), x(6), x(7), f)) }
	return map[string]edge{
		"beta, nodes":           {func(n int) api.Term { return by(app(twice, term.Elim(zero, 0)), bush(n, x(0))) }, (api.MaxNodes - 4) / 2, 1, true},
		"beta, levels":          {func(n int) api.Term { return by(under(3), deep(n, x(0))) }, api.MaxDepth - 3, 1, true},
		"beta, a number":        {func(n int) api.Term { return by(lam(set, set, v(2)), v(n)) }, api.MaxFree - 2, 1, true},
		"beta, nodes, applied":  {func(n int) api.Term { return app(by(twice, bush(2000, x(0))), bush(n, x(0))) }, api.MaxNodes - 4002, 1, false},
		"beta, levels, applied": {func(n int) api.Term { return app(by(under(3), deep(n, x(0))), x(1), x(2)) }, api.MaxDepth - 5, 1, false},

		"delta, nodes":  {func(n int) api.Term { return k(great, bush(n, x(0))) }, api.MaxNodes - 8001, 1, false},
		"delta, levels": {func(n int) api.Term { return k(tall, several(n)...) }, api.MaxDepth - 120, 1, false},

		"field, nodes":  {func(n int) api.Term { return k(open, by(k(box, twice), bush(2000, x(0))), bush(n, x(0))) }, api.MaxNodes - 4002, 2, false},
		"field, levels": {func(n int) api.Term { return app(k(open, by(k(box, under(4)), deep(n, x(0)))), several(3)...) }, api.MaxDepth - 7, 2, false},

		"iota, nodes":               {func(n int) api.Term { return elim(nat, 0, x(1), x(2), x(3), k(suc, bush(n, x(0)))) }, (api.MaxNodes - 12) / 2, 1, true},
		"iota, levels":              {func(n int) api.Term { return ofTree(deep(n, x(0))) }, api.MaxDepth - 4, 1, true},
		"iota, a number":            {func(n int) api.Term { return ofTree(v(n)) }, api.MaxFree - 1, 1, true},
		"iota, nodes, behind steps": {func(n int) api.Term { return elim(nat, 0, x(1), x(2), x(3), k(id, k(nat), k(suc, bush(n, x(0))))) }, (api.MaxNodes - 12) / 2, 4, true},
		"iota, nodes, applied":      {func(n int) api.Term { return elim(nat, 0, x(1), x(2), x(3), k(suc, bush(2000, x(0))), bush(n, x(0))) }, api.MaxNodes - 4013, 1, false},
		"iota, levels, applied":     {func(n int) api.Term { return app(ofTree(deep(n, x(0))), several(3)...) }, api.MaxDepth - 7, 1, false},

		"within a field":       {func(n int) api.Term { return k(open, by(app(twice, term.Elim(zero, 0)), bush(n, x(0)))) }, (api.MaxNodes - 4) / 2, 1, true},
		"within an eliminator": {func(n int) api.Term { return elim(nat, 0, x(1), x(2), x(3), k(great, bush(n, x(0)))) }, api.MaxNodes - 8001, 1, false},
	}
}

// TestLong asks for what comes just shaped, and one node, level or number too great, with all fuel; and which error comes first.
func TestLong(t *testing.T) { // P14.1
	m, r := func() *Machine { m, _ := New(wide()); return m }(), reckonerOf(t, wide())
	for what, each := range edges() {
		for n := range each.steps + 3 {
			if got := r.holdAll(t, m, what, each.of(each.last), n); got.e != api.OK && n >= each.steps || got.e != api.ErrFuel && n < each.steps {
				t.Errorf("%s, %d: %v", what, n, got.e)
			}
			want, taken := api.ErrLong, each.steps
			if each.ahead {
				taken--
			}
			if n < taken {
				want, taken = api.ErrFuel, n
			}
			if got := r.holdAll(t, m, what+", too great", each.of(each.last+1), n); got.e != want || n-got.left != taken {
				t.Errorf("%s, too great, %d: %v, %d taken, not %v, %d", what, n, got.e, n-got.left, want, taken)
			}
			f := fuel(n)
			if got, e := m.Bring(each.of(each.last+1), f); e != want || f.Used() != taken || got.Sub != nil {
				t.Errorf("%s, too great, %d: %v, %d taken, not %v, %d", what, n, e, f.Used(), want, taken)
			}
			got, steps, e := Bring(wide(), each.of(each.last+1), n)
			errs(t, what, got, e, want)
			if steps != 0 {
				t.Errorf("%s: %d steps beside an error", what, steps)
			}
		}
	}
}

// TestNotOnTheWay asks that nothing is too great that is not on the way.
func TestNotOnTheWay(t *testing.T) { // P14.1
	m, _ := New(wide())
	for what, from := range map[string]api.Term{
		"in an argument":           k(suc, k(great, bush(192, x(0)))),
		"beneath a binder":         lam(set, k(great, bush(192, x(0)))),
		"behind the arguments":     app(x(1), k(great, bush(192, x(0)))),
		"with a target too little": elim(nat, 0, x(1), x(2), k(great, bush(192, x(0)))),
	} {
		got, e := m.Bring(from, nil)
		same(t, what, got, e, from)
	}
	// A target's weak head form is nowhere put in: what would be too great with it is no error.
	from := k(open, app(lam(set, app(v(0), v(0))), bush(4000, x(0))), bush(4000, x(0)))
	got, e := m.Bring(from, fuel(1))
	same(t, "a target", got, e, from)
}

// TestGreat puts one great term in each place of terms with steps of all kinds.
func TestGreat(t *testing.T) { // P14.1
	m, r := func() *Machine { m, _ := New(wide()); return m }(), reckonerOf(t, wide())
	here := x(9)
	counted := map[api.Errno]int{}
	for i, from := range terms(
		app(lam(set, app(x(1), v(0), v(0))), here, here),
		app(lam(set, lam(set, app(v(1), v(1)))), here, x(1), here),
		k(id, here, app(x(1), here), here),
		k(fst, here, here, app(lam(set, k(pair, v(0), x(1), app(v(0), v(0)), here)), here), here),
		elim(nat, 0, here, here, x(3), k(suc, here), here),
		elim(nat, 0, x(1), x(2), lam(set, set, app(v(0), v(1), v(0))), k(suc, here), here),
		elim(vec, 1, here, x(2), x(3), x(4), x(5), k(vcons, x(6), here, x(8), here), here),
		elim(tree, 0, here, x(2), x(3), x(4), k(sup, x(5), x(6), x(7), here)),
	) {
		for _, size := range []int{1000, 2000, 2040, 2048, 2700, 2725, 2730, 4000, 4080, 4090, 8000, 8170, 8180} {
			for _, part := range terms(bush(size, x(0)), bush(size+1, v(3)), deep(size%8+api.MaxDepth-16, v(1)), v(api.MaxFree-size%4)) {
				from, e := subst.Named(from, part, 9)
				if e != api.OK {
					continue
				}
				for n := range 6 {
					got := r.holdAll(t, m, strconv.Itoa(i)+", "+strconv.Itoa(size), from, n)
					counted[got.e]++
				}
			}
		}
	}
	if counted[api.OK] < 100 || counted[api.ErrLong] < 100 || counted[api.ErrFuel] < 100 {
		t.Error(counted)
	}
}

// TestForEver takes steps that do not end.
func TestForEver(t *testing.T) { // P14.1
	m, r := machine(t), reckonerOf(t, world())
	round := app(k(again), k(again))
	self := func(body api.Term) api.Term { return app(lam(set, body), lam(set, body)) }
	onward := app(v(0), v(0))
	for what, from := range map[string]api.Term{
		"again":                round,
		"a function":           self(onward),
		"applied":              app(round, x(1), round),
		"a target":             k(open, round),
		"an eliminator's":      elim(nat, 0, x(1), x(2), x(3), round, x(4)),
		"a target's target":    k(fst, x(1), x(2), k(open, elim(nat, 0, x(1), x(2), x(3), round))),
		"targets for ever":     self(k(open, onward)),
		"eliminators for ever": self(elim(nat, 0, v(0), v(0), v(0), onward)),
		"what grows":           self(app(v(0), v(0), v(0))),
		"what grows beneath":   self(lam(set, app(v(1), v(1)))),
		"sucs for ever":        self(k(suc, onward)),
		"an argument":          k(suc, round),
	} {
		for _, n := range []int{0, 1, 2, 3, 4, 7, 50, 123, 124, 125, 126, 127, 500, 3000} {
			r.holdAll(t, m, what, from, n)
		}
	}
	for _, n := range []int{0, 1, 50, 3000} {
		f := fuel(n)
		got, e := m.Bring(round, f)
		errs(t, "for ever", got, e, api.ErrFuel)
		if f.Left() != 0 || f.Used() != n {
			t.Errorf("for ever: %d left of %d", f.Left(), n)
		}
	}
}

// TestAllFuel takes as many steps as there may be, and has as much waiting.
func TestAllFuel(t *testing.T) { // P14.1
	m := machine(t)
	waits := lam(set, k(open, app(v(0), v(0))))
	for _, from := range terms(app(k(again), k(again)), app(waits, waits)) {
		f := fuel(api.MaxFuel)
		got, e := m.Bring(from, f)
		errs(t, told(from), got, e, api.ErrFuel)
		if f.Left() != 0 {
			t.Errorf("%s: %d left", told(from), f.Left())
		}
	}
}

// opens is a term with so many fields around it.
func opens(n int, t api.Term) api.Term {
	for range n {
		t = k(open, t)
	}
	return t
}

// boxes is a term with so many records around it.
func boxes(n int, t api.Term) api.Term {
	for range n {
		t = k(box, t)
	}
	return t
}

// TestWaiting asks for far more that waits than there is fuel.
func TestWaiting(t *testing.T) { // P14.1
	m, r := machine(t), reckonerOf(t, world())
	comes(t, "all boxes", opens(60, boxes(60, x(1))), x(1), 60)
	comes(t, "no box", opens(120, x(1)), opens(120, x(1)), 0)
	comes(t, "too few boxes", opens(70, boxes(50, x(1))), opens(70, boxes(50, x(1))), 50)
	long := elim(nat, 0, x(1), x(2), x(3), opens(3, boxes(3, k(suc, bush(4091, x(0))))))
	for what, from := range map[string]api.Term{
		"an eliminator that comes to too much": opens(50, long),
		"opens for ever":                       app(lam(set, opens(100, app(v(0), v(0)))), lam(set, opens(100, app(v(0), v(0))))),
		"boxes in between":                     opens(30, boxes(20, app(lam(set, opens(30, v(0))), boxes(20, k(one))))),
	} {
		for n := range 80 {
			r.holdAll(t, m, what, from, n)
		}
	}
	for n, want := range []api.Errno{api.ErrFuel, api.ErrFuel, api.ErrFuel, api.ErrLong, api.ErrLong} {
		f := fuel(n)
		got, e := m.Bring(opens(50, long), f)
		errs(t, "an eliminator that comes to too much", got, e, want)
		if f.Used() != min(n, 3) {
			t.Errorf("of %d steps %d taken", n, f.Used())
		}
	}
}

// TestReachable asks that as much waits as can go on, and not much more.
func TestReachable(t *testing.T) { // P14.1
	for many := range 40 {
		var waiting []redex
		for i := range many {
			waiting = append(waiting, redex{head: x(i)})
		}
		for left := range 50 {
			kept := reachable(waiting, left)
			if len(kept) < min(many, left+1) || len(kept) > 2*(left+1) {
				t.Errorf("%d of %d, with %d left", len(kept), many, left)
			}
			for i, r := range kept {
				if r.head.N != many-len(kept)+i {
					t.Errorf("%d of %d, with %d left: another one", len(kept), many, left)
				}
			}
		}
	}
}
