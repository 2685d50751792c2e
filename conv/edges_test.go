package conv

import (
	"math"
	"slices"
	"testing"

	"scholium/api"
	"scholium/sign"
	"scholium/term"
	"scholium/whnf"
)

// bush is a term of n nodes that is not deep, its ends t, or eliminators of what is no family.
func bush(n int, t api.Term) api.Term {
	switch n {
	case 1:
		return t
	case 2:
		return term.Elim(zero, 0)
	}
	return app(bush((n-1)/2, t), bush(n-1-(n-1)/2, t))
}

// deep is a term of n levels, its ends t.
func deep(n int, t api.Term) api.Term {
	all := t
	for range n - 1 {
		all = app(t, all)
	}
	return all
}

// endless is a term that stands within its own Subs.
func endless() api.Term {
	t := term.Pi(set, set)
	t.Sub[0], t.Sub[1] = t, t
	return t
}

// round is what goes on for ever.
func round() api.Term { return app(k(again), k(again)) }

// doubles is what is too great after one step, without fuel, too.
func doubles() api.Term { return app(lam(set, app(v(0), v(0))), bush(nodes+200, x(0))) }

// unshaped are terms that are not shaped.
func unshaped() []api.Term {
	node := func(kind, n int, subs ...api.Term) api.Term { return api.Term{Kind: kind, N: n, Sub: subs} }
	return terms(
		api.Term{}, node(9, 0), node(-1, 0, set, set), node(math.MaxInt, 0), node(math.MinInt, 0, set), node(0, 1), v(-1), v(api.MaxFree+1), node(api.KVar, 0, set),
		term.Sort(api.MaxLevel+1), term.Sort(-1), k(math.MaxInt), k(-1), x(math.MinInt), x(api.MaxFree+1), node(api.KElim, 0), term.Elim(nat, -1), term.Elim(-1, 0), node(api.KElim, 0, x(0)),
		node(api.KPi, 0), node(api.KLam, 0, set), node(api.KLam, 1, set, set), node(api.KApp, 0, set, set, set), node(api.KApp, 1, k(one), set), node(api.KApp, 0, k(suc)), node(api.KConst, zero, set), fn(set, v(-1)),
		bush(api.MaxNodes+1, x(0)), deep(api.MaxDepth+1, x(0)), endless(),
	)
}

// around are terms with another one in each place.
func around(t api.Term) []api.Term {
	return terms(app(x(1), t), app(t, x(1)), lam(set, t), lam(t, set), fn(t, set), fn(set, t), k(suc, t), k(more, set, t), k(pairing, set, t, k(zero), set), k(pairing, set, set, k(zero), t), k(one, t), app(lam(set, x(1)), t), elim(nat, 0, t, x(2), x(3), k(zero)))
}

// wrong are terms that may not come: those that are not shaped, and those that name what there is not.
func wrong() []api.Term {
	all := append(unshaped(), k(end), k(end+1), k(api.MaxSig), k(api.MaxFree), elim(end, 0), elim(api.MaxFree, 7))
	for _, t := range append(unshaped(), k(end), elim(end, 0)) {
		all = append(all, around(t)...)
	}
	return all
}

// broken are signatures that are not formed.
func broken() [][]api.Entry {
	with := func(i int, change func(e *api.Entry)) []api.Entry {
		l := sign.Copy(world())
		change(&l[i])
		return l
	}
	return [][]api.Entry{
		{{}}, {{Kind: 9, Name: "x", Type: set}}, world()[:suc], world()[:fst], append(world(), world()[one]), append(world(), make([]api.Entry, 5)...), make([]api.Entry, api.MaxSig+1),
		with(nat, func(e *api.Entry) { e.Cons = []int{zero} }),
		with(nat, func(e *api.Entry) { e.Kind = -1 }),
		with(suc, func(e *api.Entry) { e.Place = 0 }),
		with(vec, func(e *api.Entry) { e.Inds = math.MaxInt }),
		with(fst, func(e *api.Entry) { e.Pars = 1 }),
		with(sigma, func(e *api.Entry) { e.Fields = []int{fst} }),
		with(one, func(e *api.Entry) { e.Body = x(0) }),
		with(one, func(e *api.Entry) { e.Body = endless() }),
	}
}

// fuels are amounts of fuel that there may be, and that there may not.
var fuels = []int{0, 1, api.MaxFuel, -1, api.MaxFuel + 1, math.MinInt, math.MaxInt}

// TestNotFormed asks in signatures that are not formed, whatever else comes.
func TestNotFormed(t *testing.T) { // P16.1
	for i, l := range broken() {
		for _, a := range terms(x(1), k(one), api.Term{}, endless()) {
			for _, b := range terms(x(1), k(one), v(-1)) {
				for _, n := range fuels {
					answersOf(t, l, many(i), a, b, n, false, api.ErrShape, 0)
				}
			}
		}
	}
}

// TestWrongFuel asks for fuel that there may not be.
func TestWrongFuel(t *testing.T) { // P16.1
	m, l := machine(t), theWorld()
	for _, n := range fuels {
		for _, a := range terms(x(1), k(suc, v(3)), lam(set, k(zero))) { // no step is asked
			if n < 0 || n > api.MaxFuel {
				answersOf(t, l, many(n), a, a, n, false, api.ErrShape, 0)
				answersOf(t, l, many(n), a, set, n, false, api.ErrShape, 0)
			} else {
				holdsOf(t, l, m, many(n), a, a, n)
				holdsOf(t, l, m, many(n), a, set, n)
			}
		}
	}
}

// TestWrong asks terms that may not come, as the first and as the second one: whatever the other one is, and whatever fuel there is, no step is taken.
func TestWrong(t *testing.T) { // P16.1
	m, l := machine(t), theWorld()
	others := terms(x(1), set, lam(set, v(0)), k(one), round(), doubles(), k(end), api.Term{}, endless())
	for i, a := range wrong() {
		for j, b := range append(others, a) {
			what := many(i) + ", " + many(j)
			for _, ab := range [][2]api.Term{{a, b}, {b, a}} {
				answers(t, Same, m, what, ab[0], ab[1], 0, false, api.ErrShape, 0)
				answers(t, Most, m, what+", at most", ab[0], ab[1], 5, false, api.ErrShape, 0)
				if i%9 == 0 {
					answersOf(t, l, what, ab[0], ab[1], 5, false, api.ErrShape, 0)
				}
			}
		}
	}
}

// TestNoEntries asks nil machines, and machines and signatures of no entries.
func TestNoEntries(t *testing.T) { // P16.1
	of, _ := whnf.New(nil)
	self := app(lam(set, v(0)), x(1))
	for i, m := range []*whnf.Machine{nil, of, {}} {
		what := many(i)
		for _, a := range append(wrong(), k(zero), number(3), k(one), elim(nat, 0), self, x(1), lam(set, v(0))) {
			for _, b := range terms(self, a, k(zero), api.Term{}) {
				no := !term.Right(a, api.MaxFree+1, 0) || !term.Right(b, api.MaxFree+1, 0)
				switch {
				case m == nil || no:
					answers(t, Same, m, what, a, b, 0, false, api.ErrShape, 0)
					answers(t, Same, m, what+", the other way round", b, a, 5, false, api.ErrShape, 0)
					answers(t, Most, m, what+", at most", a, b, 5, false, api.ErrShape, 0)
				default:
					holds(t, nil, m, what, a, b, 5)
				}
			}
		}
	}
	for _, none := range [][]api.Entry{nil, {}} {
		holdsOf(t, none, of, "in none", lam(set, app(v(1), v(0))), app(lam(set, v(0)), v(0)), 5)
		holdsOf(t, none, of, "in none", fn(set, set), fn(set, term.Sort(1)), 0)
		answersOf(t, none, "in none", self, self, 2, true, api.OK, 2)
		answersOf(t, none, "in none", self, self, 1, false, api.ErrFuel, 0)
		answersOf(t, none, "in none", self, k(zero), 5, false, api.ErrShape, 0)
		answersOf(t, none, "in none", elim(nat, 0), self, 5, false, api.ErrShape, 0)
	}
}

// TestNilMeter asks with a nil meter, which has no step.
func TestNilMeter(t *testing.T) { // P16.1
	m := machine(t)
	for _, of := range []call{Same, Most} {
		answers(t, of, m, "no step", lam(set, k(suc, v(0))), k(suc), 0, true, api.OK, 0)
		answers(t, of, m, "no step, not one", x(1), x(2), 0, false, api.OK, 0)
		answers(t, of, m, "a step of the first", k(one), number(1), 0, false, api.ErrFuel, 0)
		answers(t, of, m, "a step of the second", number(1), k(one), 0, false, api.ErrFuel, 0)
		answers(t, of, m, "a step in a target", k(open, k(id, set, x(1))), x(2), 0, false, api.ErrFuel, 0)
		answers(t, of, m, "a step that is not asked", app(x(1), x(2), k(one)), app(x(1), x(3), k(one)), 0, false, api.OK, 0)
	}
}

// TestFirst asks which of several errors comes first, and whether any comes: with so much fuel, of which so much is taken.
func TestFirst(t *testing.T) { // P16.1
	m, l := machineOf(t, wide()), wide()
	p := func(a, b api.Term) api.Term { return k(pairing, x(1), x(2), a, b) }
	s := func(t api.Term) api.Term { return app(x(1), t) }
	for what, each := range map[string]struct {
		a, b  api.Term
		n     int
		e     api.Errno
		taken int
		is    bool
	}{
		"the first one for ever":                      {round(), doubles(), 9, api.ErrFuel, 9, false},
		"the first one too great":                     {doubles(), round(), 9, api.ErrLong, 0, false},
		"the second one for ever":                     {k(two), round(), 9, api.ErrFuel, 9, false},
		"the second one too great":                    {k(two), doubles(), 9, api.ErrLong, 1, false},
		"the first one, too little fuel":              {k(one), doubles(), 0, api.ErrFuel, 0, false},
		"the second one, though they are not one":     {k(zero), doubles(), 9, api.ErrLong, 0, false},
		"the first one, though they are not one":      {doubles(), set, 9, api.ErrLong, 0, false},
		"other heads":                                 {app(x(1), doubles()), app(x(2), round()), 9, api.OK, 0, false},
		"other kinds":                                 {s(doubles()), set, 9, api.OK, 0, false},
		"more arguments":                              {app(x(1), doubles()), app(x(1), doubles(), round()), 9, api.OK, 0, false},
		"one first argument that is not":              {app(x(1), k(one), doubles()), app(x(1), k(two), round()), 9, api.OK, 3, false},
		"a first argument that errs":                  {app(x(1), doubles(), set), app(x(1), k(one), x(1)), 9, api.ErrLong, 0, false},
		"a second argument that errs":                 {app(x(1), k(one), doubles()), app(x(1), k(one), set), 9, api.ErrLong, 2, false},
		"the first argument of both":                  {app(x(1), k(one), doubles()), app(x(1), round(), set), 9, api.ErrFuel, 9, false},
		"all of the first one ahead":                  {app(x(1), s(s(k(two))), doubles()), app(x(1), s(s(number(2))), round()), 9, api.ErrLong, 2, false},
		"within the first one":                        {app(x(1), s(s(doubles())), round()), app(x(1), s(s(k(one))), round()), 9, api.ErrLong, 0, false},
		"a type's first":                              {fn(doubles(), round()), fn(round(), doubles()), 9, api.ErrLong, 0, false},
		"a type's first that is not":                  {fn(set, round()), fn(x(1), doubles()), 9, api.OK, 0, false},
		"a type's second":                             {fn(k(one), round()), fn(k(one), doubles()), 9, api.ErrFuel, 9, false},
		"an applied type's first":                     {app(fn(doubles(), round()), round()), app(fn(set, set), set), 9, api.ErrLong, 0, false},
		"an applied type's second":                    {app(fn(k(one), doubles()), round()), app(fn(number(1), set), set), 9, api.ErrLong, 1, false},
		"an applied type's argument":                  {app(fn(k(one), k(two)), doubles()), app(fn(number(1), number(2)), set), 9, api.ErrLong, 1 + 2, false},
		"a function's body, its type not":             {lam(round(), doubles()), lam(doubles(), k(one)), 9, api.ErrLong, 0, false},
		"a function's body alone":                     {lam(round(), k(one)), lam(doubles(), number(1)), 9, api.OK, 1, true},
		"a body against a body":                       {lam(set, k(one)), lam(set, doubles()), 9, api.ErrLong, 1, false},
		"the first field":                             {p(k(one), round()), p(doubles(), round()), 9, api.ErrLong, 1, false},
		"the first field that is not":                 {p(k(one), round()), p(k(two), doubles()), 9, api.OK, 3, false},
		"the second field":                            {p(k(one), doubles()), p(k(one), round()), 9, api.ErrLong, 2, false},
		"a pair's parameters":                         {k(pairing, round(), doubles(), x(1), k(one)), k(pairing, doubles(), round(), x(1), number(1)), 9, api.OK, 1, true},
		"a pair's argument ahead of the field":        {p(doubles(), x(2)), k(open, k(id, set, x(3))), 9, api.ErrLong, 3, false},
		"a pair's argument ahead of the field, again": {k(open, k(id, set, x(3))), p(doubles(), x(2)), 9, api.ErrLong, 3, false},
		"other records":                               {p(round(), doubles()), k(both, x(1), x(2), doubles(), round()), 9, api.OK, 0, false},
		"what is made ahead of what is asked":         {lam(set, round()), app(x(1), bush(api.MaxNodes-3, x(2))), 9, api.ErrLong, 0, false},
		"a field that is made ahead likewise":         {k(box, round()), app(x(1), bush(api.MaxNodes-3, x(2))), 9, api.ErrLong, 0, false},
		"what is too great behind steps":              {lam(set, round()), app(x(1), bush(nodes+200, x(2)), k(great)), 9, api.ErrFuel, 9, false},
		"steps that make a great one":                 {k(great), k(tall), 9, api.OK, 2, false},
	} {
		for _, of := range []call{Same, Most} {
			answers(t, of, m, what, each.a, each.b, each.n, each.is, each.e, each.taken)
		}
		holdsOf(t, l, m, what, each.a, each.b, each.n)
	}
}

// edge is a row of pairs, up to a last one that is answered so; behind that what is put together on the way is none.
type edge struct {
	a, b func(n int) api.Term
	last int
	is   bool
}

// edges have what becomes great, deep, or a variable beyond all, where a term is lifted and applied, or a field is.
func edges() map[string]edge {
	by := func(n int) api.Term { return bush(n, x(0)) }
	of := func(t api.Term) func(n int) api.Term { return func(int) api.Term { return t } }
	nothing := of(lam(set, x(7)))
	const most, deepest = api.MaxNodes, api.MaxDepth
	return map[string]edge{
		"great":                  {nothing, func(n int) api.Term { return app(x(1), by(n)) }, most - 2 - 2, false},
		"great, beneath another": {of(lam(set, lam(set, x(7)))), func(n int) api.Term { return app(x(1), by(n)) }, most - 2 - 2 - 2, false},
		"great, and one":         {func(n int) api.Term { return lam(set, app(x(1), k(great), by(n), v(0))) }, func(n int) api.Term { return app(x(1), bush(nodes, k(zero)), by(n)) }, most - 2 - nodes - 3, true},
		"great, behind steps":    {nothing, func(n int) api.Term { return app(lam(set, app(x(1), v(0), v(0))), by(n)) }, (most - 2 - 3) / 2, false},
		"great, a type":          {nothing, func(n int) api.Term { return fn(by(n), set) }, most - 2 - 2, false},
		"deep":                   {nothing, func(n int) api.Term { return deep(n, x(0)) }, deepest - 1, false},
		"deep, and one":          {func(n int) api.Term { return lam(set, app(nested(n, k(tall)), v(0))) }, func(n int) api.Term { return nested(n, deep(levels, k(zero))) }, deepest - levels - 1, true},
		"deep, by arguments":     {nothing, func(n int) api.Term { return app(x(1), slices.Repeat(terms(x(2)), n)...) }, deepest - 1 - 1, false},
		"a variable":             {func(n int) api.Term { return lam(set, app(v(n+1), v(0))) }, v, api.MaxFree - 1, true},
		"a variable, other":      {nothing, v, api.MaxFree - 1, false},
		"a variable beneath":     {func(n int) api.Term { return lam(set, app(x(1), lam(set, v(n+1)), v(0))) }, func(n int) api.Term { return app(x(1), lam(set, v(n))) }, api.MaxFree - 1, true},
		"a variable, in a type":  {nothing, func(n int) api.Term { return fn(set, fn(set, v(n))) }, api.MaxFree - 1, false},

		"a great field":          {of(k(box, x(7))), func(n int) api.Term { return app(x(1), by(n)) }, most - 2 - 2, false},
		"a great field, and one": {func(n int) api.Term { return k(box, k(open, app(x(1), k(great), by(n)))) }, func(n int) api.Term { return app(x(1), bush(nodes, k(zero)), by(n)) }, most - 2 - nodes - 3, true},
		"a great field's type":   {func(n int) api.Term { return k(pairing, by(n), x(2), x(3), x(4)) }, of(x(7)), most - 8, false},
		"a great field's both":   {func(n int) api.Term { return k(pairing, by(nodes), by(n), x(3), x(4)) }, of(app(x(7), by(92))), most - nodes - 4 - 94, false},
		"a field of much":        {func(n int) api.Term { return k(pairing, by(nodes), x(2), x(3), x(4)) }, func(n int) api.Term { return app(x(7), by(n)) }, most - nodes - 5 - 2, false},
		"a deep field":           {of(k(box, x(7))), func(n int) api.Term { return deep(n, x(0)) }, deepest - 1, false},
		"a deep field's type":    {func(n int) api.Term { return k(pairing, deep(n, x(0)), x(2), x(3), x(4)) }, of(x(7)), deepest - 4, false},
		"a deep field, and one":  {func(n int) api.Term { return k(box, k(open, nested(n, k(tall)))) }, func(n int) api.Term { return nested(n, deep(levels, k(zero))) }, deepest - levels - 1, true},
		"the last field, too": {func(n int) api.Term {
			return k(pairing, x(1), x(2), k(fst, x(1), x(2), app(x(7), k(great), by(n))), x(4))
		}, func(n int) api.Term { return app(x(7), bush(nodes, k(zero)), by(n)) }, most - 6 - nodes - 3, false},
	}
}

// nested is a term as a named variable's argument, so many times.
func nested(n int, t api.Term) api.Term {
	for range n {
		t = app(x(1), t)
	}
	return t
}

// TestLong asks for what is put together on the way just shaped, and one node, one level, or one number, too great.
func TestLong(t *testing.T) { // P16.1
	l := wide()
	m := machineOf(t, l)
	for what, each := range edges() {
		for i := range 3 {
			a, b := each.a(each.last+i-1), each.b(each.last+i-1)
			if !term.Shaped(a) || !term.Shaped(b) {
				if i < 2 {
					t.Errorf("%s, %d: not shaped", what, i)
				}
				continue
			}
			want, is := api.OK, each.is
			if i == 2 {
				want, is = api.ErrLong, false
			}
			for _, ab := range [][2]api.Term{{a, b}, {b, a}} {
				one, most := holds(t, l, m, what+", "+many(i), ab[0], ab[1], 100)
				if one.e != want || one.is != is || most != one {
					t.Errorf("%s, %d: %v, %v, not %v, %v", what, i, one.is, one.e, is, want)
				}
				holdsOf(t, l, m, what+", "+many(i), ab[0], ab[1], 1)
			}
		}
	}
}

// forEver are terms that go on for ever, each in a way of its own.
func forEver() map[string]api.Term {
	self := func(body api.Term) api.Term { return app(lam(set, body), lam(set, body)) }
	onward := app(v(0), v(0))
	beneath := app(v(1), v(1))
	stuck := k(open, app(lam(set, v(0)), x(1)))
	return map[string]api.Term{
		"at the head":                       round(),
		"in an argument":                    k(suc, round()),
		"beneath a binder":                  lam(set, round()),
		"in a type":                         fn(set, round(), set),
		"sucs":                              self(k(suc, onward)),
		"functions":                         self(lam(set, beneath)),
		"types":                             self(fn(set, beneath)),
		"types' firsts":                     self(fn(onward, set)),
		"pairs":                             self(k(pairing, x(1), x(2), x(3), onward)),
		"pairs' firsts":                     self(k(pairing, x(1), x(2), onward, k(one))),
		"first arguments":                   self(app(x(1), onward, x(2))),
		"with what waits":                   self(app(x(1), onward, app(x(2), lam(set, x(3))))),
		"with much that waits":              self(app(x(1), onward, x(2), x(3), lam(set, v(0)), fn(set, set), number(3))),
		"with what waits, and takes a step": self(app(x(1), onward, k(one))),
		"with what waits, and takes some":   self(app(x(1), onward, x(2), k(plus, number(1), number(1)), x(3), app(x(4), k(two)))),
		"with what waits, and is stuck":     self(app(x(1), onward, stuck, k(one))),
		"with what waits, and is too much":  self(app(x(1), onward, app(lam(set, app(v(0), v(0), v(0), v(0), v(0))), bush(1700, x(2))))),
		"with what waits for ever":          self(app(x(1), onward, onward)),
		"behind others":                     self(app(x(1), k(one), lam(set, x(2)), onward)),
		"targets":                           self(k(open, onward)),
		"targets of stuck ones":             self(app(x(1), k(open, app(lam(set, v(0)), x(2))), onward)),
		"what grows":                        self(app(x(1), app(v(0), v(0)), v(0), v(0))),
		"sucs by two":                       self(k(suc, k(suc, onward))),
	}
}

// TestForEver takes steps that do not end: of a term against itself, against what is only like it at first, against something, on either side.
func TestForEver(t *testing.T) { // P16.1
	m, l := machine(t), theWorld()
	for what, a := range forEver() {
		for i, b := range terms(a, app(lam(set, v(0)), a), k(suc, k(suc, k(suc, x(9)))), x(5), lam(set, v(0)), fn(set, set), k(pairing, x(1), x(2), x(3), x(4)), app(x(1), app(x(1), x(2), x(3)), x(3))) {
			for _, n := range []int{0, 1, 2, 3, 7, 64, 150} {
				for _, ab := range [][2]api.Term{{a, b}, {b, a}} {
					one, most := holds(t, l, m, what+", "+many(i), ab[0], ab[1], n)
					if i < 2 && (one.e != api.ErrFuel || one.left != 0 || most != one) {
						t.Errorf("%s, %d, %d: %v, %d left", what, i, n, one.e, one.left)
					}
				}
			}
		}
	}
}

// TestAllFuel takes as many steps as there may be.
func TestAllFuel(t *testing.T) { // P16.1
	m, l := machine(t), forEver()
	for _, what := range []string{"at the head", "sucs", "functions", "with what waits", "with what waits, and takes a step"} {
		t.Run(what, func(t *testing.T) {
			t.Parallel()
			f := fuel(api.MaxFuel)
			if is, e := Same(m, l[what], l[what], f); is || e != api.ErrFuel || f.Left() != 0 {
				t.Errorf("%v, %v, %d left", is, e, f.Left())
			}
		})
	}
}

// towers is a signature of definitions, each of which is made of the one ahead of it by what is handed in; of the first one, of zero.
func towers(t *testing.T, n int, of func(t api.Term) api.Term) (*whnf.Machine, []api.Entry) {
	t.Helper()
	l := world()
	for i := range n {
		body := k(zero)
		if i > 0 {
			body = k(end + i - 1)
		}
		l = append(l, api.Entry{Kind: api.EDef, Name: "d" + many(i), Type: set, Body: of(body)})
	}
	return machineOf(t, l), l
}

// towersOf are what towers are made of, in ways of their own.
func towersOf() map[string]func(t api.Term) api.Term {
	stuck := k(open, app(lam(set, v(0)), k(nat)))
	tooMuch := app(lam(set, bush(31, v(0))), bush(540, k(zero)))
	tuple := func(t api.Term, l ...api.Term) api.Term { return k(vcons, append(terms(t), l...)...) }
	return map[string]func(t api.Term) api.Term{
		"sucs":             func(t api.Term) api.Term { return k(suc, t) },
		"what waits":       func(t api.Term) api.Term { return tuple(t, lam(set, app(v(0), k(nat))), set) },
		"with steps":       func(t api.Term) api.Term { return tuple(t, k(one), set, k(suc, k(two))) },
		"with stuck ones":  func(t api.Term) api.Term { return tuple(t, set, k(nat), stuck) },
		"with too much":    func(t api.Term) api.Term { return tuple(t, set, tooMuch, k(one)) },
		"functions":        func(t api.Term) api.Term { return lam(t, tuple(t, k(one), v(0))) },
		"pairs":            func(t api.Term) api.Term { return k(pairing, set, set, t, k(one)) },
		"at the last ones": func(t api.Term) api.Term { return tuple(k(one), set, t) },
	}
}

// TestWaiting asks terms of which far more waits than may always, and that end; and what stands behind all of it.
func TestWaiting(t *testing.T) { // P16.1
	const high = 220
	for what, of := range towersOf() {
		m, l := towers(t, high, of)
		for _, i := range []int{0, 63, 64, high - 1} {
			for j, last := range [][2]api.Term{{x(1), x(1)}, {k(one), number(1)}, {x(1), x(2)}, {k(zero), k(one)}, {doubles(), x(1)}, {round(), round()}} {
				a, b := app(x(3), k(end+i), last[0]), app(x(3), k(end+i), last[1])
				n := 20000
				taken := n - reckoned(l, m, a, b, false, n).left
				for _, n := range []int{taken / 2, taken - 1, taken} {
					if n >= 0 {
						holds(t, l, m, what+", "+many(i)+", "+many(j), a, b, n)
					}
				}
			}
		}
	}
}

// TestOwing asks what is kept of what waits: what takes steps, as much as may be reached, and the first that ends the asking, but nothing behind it.
func TestOwing(t *testing.T) { // P16.1
	m := machine(t)
	holding, taking := same(x(1), x(1)), same(k(one), number(1))
	like := func(p, o pair) bool { return term.Same(p.a, o.a) && term.Same(p.b, o.b) }
	for _, end := range []pair{holding, same(x(1), x(2)), same(x(1), doubles())} {
		for n := range 10 {
			for place := range n + 1 {
				for left := range 12 {
					waiting := slices.Concat(slices.Repeat([]pair{holding, taking}, place), []pair{end}, slices.Repeat([]pair{taking, holding}, n-place))
					want := slices.Concat(slices.Repeat([]pair{taking}, place), []pair{end})
					if like(end, holding) {
						want = slices.Repeat([]pair{taking}, n)
					}
					want = want[:min(len(want), left+1)]
					if left == 0 {
						want = waiting
					}
					f := fuel(left)
					slices.Reverse(waiting)
					kept := asker{m, f}.owing(slices.Clone(waiting))
					if left > 0 {
						slices.Reverse(kept)
					}
					if !slices.EqualFunc(kept, want, like) || f.Left() != left {
						t.Errorf("%d, %d, of %d: %d kept, not %d", n, place, left, len(kept), len(want))
					}
				}
			}
		}
	}
}
