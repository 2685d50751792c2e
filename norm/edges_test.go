package norm

import (
	"math"
	"strconv"
	"testing"

	"scholium/api"
	"scholium/sign"
	"scholium/term"
	"scholium/whnf"
)

// bush is a term of n nodes that is not deep, its ends t, or eliminators of what is no family.
func bush(n int, t api.Term) api.Term {
	switch n {
	case 1:
		return t
	case 2:
		return term.Elim(zero, 0)
	}
	return app(bush((n-1)/2, t), bush(n-1-(n-1)/2, t))
}

// deep is a term of n levels, its ends t.
func deep(n int, t api.Term) api.Term {
	all := t
	for range n - 1 {
		all = app(t, all)
	}
	return all
}

// endless is a term that stands within its own Subs.
func endless() api.Term {
	t := term.Pi(set, set)
	t.Sub[0], t.Sub[1] = t, t
	return t
}

// unshaped are terms that are not shaped.
func unshaped() []api.Term {
	node := func(kind, n int, subs ...api.Term) api.Term { return api.Term{Kind: kind, N: n, Sub: subs} }
	return terms(
		api.Term{}, node(9, 0), node(-1, 0, set, set), node(math.MaxInt, 0), node(math.MinInt, 0, set), node(0, 1), v(-1), v(api.MaxFree+1), node(api.KVar, 0, set),
		term.Sort(api.MaxLevel+1), term.Sort(-1), k(math.MaxInt), k(-1), x(math.MinInt), x(api.MaxFree+1), node(api.KElim, 0), term.Elim(nat, -1), term.Elim(-1, 0), node(api.KElim, 0, x(0)),
		node(api.KPi, 0), node(api.KLam, 0, set), node(api.KLam, 1, set, set), node(api.KApp, 0, set, set, set), node(api.KApp, 1, k(one), set), node(api.KApp, 0, k(suc)), node(api.KConst, zero, set), fn(set, v(-1)),
		bush(api.MaxNodes+1, x(0)), deep(api.MaxDepth+1, x(0)), endless(),
	)
}

// around are terms with another one in each place.
func around(t api.Term) []api.Term {
	return terms(app(x(1), t), app(t, x(1)), lam(set, t), lam(t, set), fn(t, set), fn(set, t), k(suc, t), k(more, set, t), k(more, t, k(bare, set)), k(pair, set, set, k(zero), t), k(one, t), app(lam(set, x(1)), t), elim(nat, 0, t, x(2), x(3), k(zero)))
}

// wrong are terms that may not come: those that are not shaped, and those that name what there is not.
func wrong() []api.Term {
	all := append(unshaped(), k(end), k(end+1), k(api.MaxSig), k(api.MaxFree), elim(end, 0), elim(api.MaxFree, 7))
	for _, t := range append(unshaped(), k(end), elim(end, 0)) {
		all = append(all, around(t)...)
	}
	return all
}

// broken are signatures that are not formed.
func broken() [][]api.Entry {
	with := func(i int, change func(e *api.Entry)) []api.Entry {
		l := sign.Copy(world())
		change(&l[i])
		return l
	}
	return [][]api.Entry{
		{{}}, {{Kind: 9, Name: "x", Type: set}}, world()[:suc], world()[:fst], append(world(), world()[one]), append(world(), make([]api.Entry, 5)...), make([]api.Entry, api.MaxSig+1),
		with(nat, func(e *api.Entry) { e.Cons = []int{zero} }),
		with(nat, func(e *api.Entry) { e.Kind = -1 }),
		with(suc, func(e *api.Entry) { e.Place = 0 }),
		with(vec, func(e *api.Entry) { e.Inds = math.MaxInt }),
		with(fst, func(e *api.Entry) { e.Pars = 1 }),
		with(one, func(e *api.Entry) { e.Body = x(0) }),
		with(one, func(e *api.Entry) { e.Body = endless() }),
	}
}

// fuels are amounts of fuel that there may be, and that there may not.
var fuels = []int{0, 1, api.MaxFuel, -1, api.MaxFuel + 1, math.MinInt, math.MaxInt}

// refused asks that the call in a signature answers an error, and nothing beside it.
func refused(t *testing.T, what string, l []api.Entry, from api.Term, n int, want api.Errno) {
	t.Helper()
	got, steps, e := Of(l, from, n)
	errs(t, what, got, e, want)
	if steps != 0 {
		t.Errorf("%s: %d steps beside an error", what, steps)
	}
}

// TestNotFormed asks in signatures that are not formed, whatever else comes.
func TestNotFormed(t *testing.T) { // P15.1
	for i, l := range broken() {
		for _, from := range append(unshaped(), k(one), x(1)) {
			for _, n := range fuels {
				refused(t, strconv.Itoa(i), l, from, n, api.ErrShape)
			}
		}
	}
}

// TestWrongFuel asks for fuel that there may not be.
func TestWrongFuel(t *testing.T) { // P15.1
	for _, n := range fuels {
		for _, from := range terms(x(1), k(suc, v(3)), lam(set, k(zero))) { // no step is asked
			if n < 0 || n > api.MaxFuel {
				refused(t, strconv.Itoa(n), world(), from, n, api.ErrShape)
			} else {
				holdsOf(t, world(), strconv.Itoa(n), from, n, answer{from, api.OK, n})
			}
		}
		for _, from := range wrong() {
			refused(t, strconv.Itoa(n), world(), from, n, api.ErrShape)
		}
	}
}

// TestNoEntries asks in a signature of none.
func TestNoEntries(t *testing.T) { // P15.1
	for _, none := range [][]api.Entry{nil, {}} {
		holdsOf(t, none, "of no entries", lam(set, app(lam(set, v(0)), x(1))), 5, answer{lam(set, x(1)), api.OK, 4})
		for _, from := range append(wrong(), k(zero), app(x(1), k(one)), elim(nat, 0)) {
			refused(t, "of no entries", none, from, 5, api.ErrShape)
		}
	}
}

// TestNilMachine asks a nil machine, and machines of no entries.
func TestNilMachine(t *testing.T) { // P15.1, P15.2
	of, _ := whnf.New(nil)
	for i, m := range []*whnf.Machine{nil, of, {}} {
		for _, from := range append(wrong(), x(1), lam(set, app(lam(set, v(0)), x(1))), k(zero), number(3), k(one)) {
			if Value(m, from) {
				t.Errorf("%d: %s is a value", i, told(from))
			}
			if n, is := Number(m, from); is || n != 0 {
				t.Errorf("%d: %s is %d, %v", i, told(from), n, is)
			}
			if m != nil && len(term.Entries(from)) == 0 && term.Shaped(from) {
				holds(t, m, "of no entries", from, 5)
				continue
			}
			f := fuel(5)
			got, e := Norm(m, from, f)
			errs(t, strconv.Itoa(i), got, e, api.ErrShape)
			got, e = Norm(m, from, nil)
			errs(t, strconv.Itoa(i)+", a nil meter", got, e, api.ErrShape)
			if f.Used() != 0 || Normal(m, from) {
				t.Errorf("%d, %s: normal, or %d steps", i, told(from), f.Used())
			}
		}
	}
}

// TestWrong asks for terms that may not come; no fuel is asked, and none is taken.
func TestWrong(t *testing.T) { // P15.1, P15.2
	m := machine(t)
	for _, from := range wrong() {
		f := fuel(9)
		got, e := Norm(m, from, f)
		errs(t, "Norm", got, e, api.ErrShape)
		got, e = Norm(m, from, nil)
		errs(t, "Norm, a nil meter", got, e, api.ErrShape)
		if f.Used() != 0 || Normal(m, from) {
			t.Errorf("%s: normal, or %d steps", told(from), f.Used())
		}
	}
}

// TestNotShaped asks whether what is not shaped is a value, or a number.
func TestNotShaped(t *testing.T) { // P15.2
	m := machine(t)
	for _, part := range unshaped() {
		for _, from := range append(around(part), part, k(suc, k(suc, part)), k(bare, part), k(vnil, part)) {
			if n, is := Number(m, from); is || n != 0 || Value(m, from) {
				t.Errorf("%s is a value, or a number: %d", told(from), n)
			}
		}
	}
	for n, is := range map[int]bool{api.MaxDepth - 1: true, api.MaxDepth: false} { // as many levels, and one more
		got, isNumber := Number(m, number(n))
		if Value(m, number(n)) != is || isNumber != is || is && got != n {
			t.Errorf("%d: %d, %v", n, got, isNumber)
		}
	}
	for n, is := range map[int]bool{api.MaxNodes - 2: true, api.MaxNodes - 1: false} { // as many nodes, and one more
		got, isNumber := Number(m, k(bare, bush(n, x(0))))
		if Value(m, k(bare, bush(n, x(0)))) != is || isNumber != is || got != 0 {
			t.Errorf("%d nodes: %d, %v", n, got, isNumber)
		}
	}
}

// doubles is what comes to more than there may be, ahead of all fuel; behind steps at its head it takes these first.
func doubles() api.Term { return app(lam(set, app(v(0), v(0))), bush(4096, x(0))) }

// round goes on for ever.
func round() api.Term { return app(k(again), k(again)) }

// TestFirst asks which error comes first, and what the meter has left behind it.
func TestFirst(t *testing.T) { // P15.1
	m := machine(t)
	for what, each := range map[string]struct {
		t     api.Term
		n     int // fuel
		e     api.Errno
		taken int
	}{
		"the head ahead of an argument":           {app(round(), doubles()), 9, api.ErrFuel, 9},
		"the head ahead of a body":                {k(id, set, lam(doubles(), set)), 2, api.ErrFuel, 2},
		"the head behind its steps":               {k(id, set, lam(doubles(), set)), 3, api.ErrLong, 3},
		"a head that comes to too much":           {app(doubles(), round()), 9, api.ErrLong, 0},
		"the first argument":                      {app(x(1), round(), doubles()), 9, api.ErrFuel, 9},
		"the first argument, too great":           {app(x(1), doubles(), round()), 9, api.ErrLong, 0},
		"the second argument":                     {app(x(1), k(one), round(), doubles()), 9, api.ErrFuel, 9},
		"the second argument, too great":          {app(x(1), k(one), doubles(), round()), 9, api.ErrLong, 1},
		"the second argument, too great, no fuel": {app(x(1), k(one), doubles(), round()), 0, api.ErrFuel, 0},
		"a function's type":                       {lam(round(), doubles()), 9, api.ErrFuel, 9},
		"a function's type, too great":            {lam(doubles(), round()), 9, api.ErrLong, 0},
		"a function's body":                       {lam(k(one), doubles()), 9, api.ErrLong, 1},
		"a type's first":                          {fn(round(), doubles()), 9, api.ErrFuel, 9},
		"a type's first, too great":               {fn(doubles(), round()), 9, api.ErrLong, 0},
		"a type's second":                         {fn(k(one), round()), 9, api.ErrFuel, 9},
		"all of the first ahead of the second":    {app(x(1), k(suc, k(suc, lam(k(one), round()))), doubles()), 9, api.ErrFuel, 9},
		"the left within the first":               {app(x(1), app(x(2), k(one), doubles()), round()), 9, api.ErrLong, 1},
		"a target, as a head, ahead of all":       {elim(nat, 0, round(), x(2), x(3), doubles()), 9, api.ErrLong, 0},
		"a target, for ever":                      {elim(nat, 0, doubles(), x(2), x(3), round()), 9, api.ErrFuel, 9},
		"what may not come ahead of all":          {app(round(), doubles(), k(end)), 9, api.ErrShape, 0},
		"a normal form that is too great":         {app(x(1), k(great), k(great), k(great)), 9, api.ErrLong, 3},
		"too little fuel ahead of that":           {app(x(1), k(great), k(great), k(great)), 2, api.ErrFuel, 2},
		"too great, and for ever":                 {app(x(1), k(great), k(great), k(great), round()), 9, api.ErrFuel, 9},
		"too great, and another one behind it":    {app(x(1), k(great), k(great), k(great), k(one), doubles(), round()), 9, api.ErrLong, 4},
		"too deep, and for ever":                  {app(x(1), lam(set, set, set, app(x(1), deep(30, k(tall)))), round()), 99, api.ErrFuel, 99},
		"too great within the first":              {app(x(1), k(suc, app(x(1), k(great), k(great), k(great))), k(suc, app(x(1), k(one), k(one), k(two)))), 99, api.ErrLong, 3 + 4},
	} {
		if got := holds(t, m, what, each.t, each.n); each.e != api.ErrShape && (got.e != each.e || each.n-got.left != each.taken) {
			t.Errorf("%s: %v, %d taken, not %v, %d", what, got.e, each.n-got.left, each.e, each.taken)
		}
		f := fuel(each.n)
		got, e := Norm(m, each.t, f)
		errs(t, what, got, e, each.e)
		if f.Used() != each.taken || f.Left() != each.n-each.taken {
			t.Errorf("%s: %d taken, not %d", what, f.Used(), each.taken)
		}
		refused(t, what, world(), each.t, each.n, each.e)
	}
}

// edge is a row of terms, each of which comes to a normal form in so many steps, up to a last one; behind that what is put together is too great, or too deep.
type edge struct {
	of          func(n int) api.Term
	last, steps int
}

// edges have what becomes great, or deep, in each place of what is put together.
func edges() map[string]edge {
	by := func(n int) api.Term { return bush(n, x(0)) }
	const spare, above = api.MaxNodes - nodes, api.MaxDepth - levels
	return map[string]edge{
		"an argument":             {func(n int) api.Term { return app(by(n), k(great)) }, spare - 1, 1},
		"the first argument":      {func(n int) api.Term { return app(x(1), k(great), by(n)) }, spare - 3, 1},
		"the last argument":       {func(n int) api.Term { return app(x(1), by(n), k(great)) }, spare - 3, 1},
		"two arguments":           {func(n int) api.Term { return app(x(1), k(great), by(n), k(great)) }, spare - nodes - 4, 2},
		"an argument's argument":  {func(n int) api.Term { return k(suc, k(suc, app(by(n), k(great)))) }, spare - 5, 1},
		"a function's type":       {func(n int) api.Term { return lam(k(great), by(n)) }, spare - 1, 1},
		"a function's body":       {func(n int) api.Term { return lam(by(n), k(great)) }, spare - 1, 1},
		"a type's first":          {func(n int) api.Term { return fn(k(great), by(n)) }, spare - 1, 1},
		"a type's second":         {func(n int) api.Term { return fn(by(n), k(great)) }, spare - 1, 1},
		"both":                    {func(n int) api.Term { return fn(k(great), lam(k(great), by(n))) }, spare - nodes - 2, 2},
		"beside a great head":     {func(n int) api.Term { return app(fn(by(n), set), k(great)) }, spare - 3, 1},
		"behind the head's steps": {func(n int) api.Term { return k(id, set, app(x(1), k(great), by(n))) }, spare - 3, 4},
		"what a step makes":       {func(n int) api.Term { return app(x(1), app(lam(set, app(v(0), v(0))), by(n))) }, (api.MaxNodes - 3) / 2, 1},
		"a small step":            {func(n int) api.Term { return app(x(1), by(n), k(one)) }, api.MaxNodes - 3 - 3, 1},

		"the last argument, levels": {func(n int) api.Term { return nested(n, func(t api.Term) api.Term { return app(x(1), t) }, k(tall)) }, above, 1},
		"the first argument, levels": {func(n int) api.Term {
			return nested(n/2, func(t api.Term) api.Term { return app(x(1), t, x(2)) }, k(tall))
		}, above + 1, 1},
		"a function's type, levels": {func(n int) api.Term { return nested(n, func(t api.Term) api.Term { return lam(t, set) }, k(tall)) }, above, 1},
		"a function's body, levels": {func(n int) api.Term { return nested(n, func(t api.Term) api.Term { return lam(set, t) }, k(tall)) }, above, 1},
		"a type's first, levels":    {func(n int) api.Term { return nested(n, func(t api.Term) api.Term { return fn(t, set) }, k(tall)) }, above, 1},
		"a type's second, levels":   {func(n int) api.Term { return nested(n, func(t api.Term) api.Term { return fn(set, t) }, k(tall)) }, above, 1},
		"many arguments, levels":    {func(n int) api.Term { return app(app(x(1), k(tall)), several(n)...) }, above - 1, 1},
		"steps ahead, levels":       {func(n int) api.Term { return k(id, set, app(app(x(1), k(one), k(tall)), several(n)...)) }, above - 1, 5},
	}
}

// nested is a term with so many others around it.
func nested(n int, around func(t api.Term) api.Term, t api.Term) api.Term {
	for range n {
		t = around(t)
	}
	return t
}

// several are so many named variables.
func several(n int) []api.Term {
	l := terms()
	for i := range n {
		l = append(l, x(i))
	}
	return l
}

// TestLong asks for what is put together just shaped, and one node, or one level, too great; that is asked behind all steps.
func TestLong(t *testing.T) { // P15.1
	m := machine(t)
	for what, each := range edges() {
		if last := holds(t, m, what, each.of(each.last), each.steps).t; term.Size(last) < api.MaxNodes-1 && term.Depth(last) < api.MaxDepth {
			t.Errorf("%s: the last one has %d nodes, %d levels", what, term.Size(last), term.Depth(last))
		}
		for n := range each.steps + 3 {
			right, wrong, taken := api.OK, api.ErrLong, each.steps
			if n < each.steps {
				right, wrong, taken = api.ErrFuel, api.ErrFuel, n
			}
			for i, want := range []api.Errno{right, wrong} {
				from := each.of(each.last + i)
				got := holds(t, m, what, from, n)
				if got.e != want || n-got.left != taken {
					t.Errorf("%s, %d: %v, %d taken, not %v, %d", what, n, got.e, n-got.left, want, taken)
				}
				holdsOf(t, world(), what, from, n, got)
			}
		}
	}
}

// forEver are terms that go on for ever, each in a way of its own.
func forEver() map[string]api.Term {
	self := func(body api.Term) api.Term { return app(lam(set, body), lam(set, body)) }
	onward := app(v(0), v(0))
	beneath := app(v(1), v(1))
	stuck := k(open, app(lam(set, v(0)), x(1)))
	return map[string]api.Term{
		"at the head":                       round(),
		"in an argument":                    k(suc, round()),
		"beneath a binder":                  lam(set, round()),
		"in a type":                         fn(set, round(), set),
		"sucs":                              self(k(suc, onward)),
		"functions":                         self(lam(set, beneath)),
		"functions' types":                  self(lam(onward, set)),
		"types":                             self(fn(set, beneath)),
		"types' firsts":                     self(fn(onward, set)),
		"first arguments":                   self(app(x(1), onward, x(2))),
		"with what waits":                   self(app(x(1), onward, app(x(2), lam(set, x(3))))),
		"with much that waits":              self(app(x(1), onward, x(2), x(3), lam(set, v(0)), fn(set, set), number(3))),
		"with what waits, and takes a step": self(app(x(1), onward, k(one))),
		"with what waits, and takes some":   self(app(x(1), onward, x(2), k(plus, number(1), number(1)), x(3), app(x(4), k(two)))),
		"with what waits, and is stuck":     self(app(x(1), onward, stuck, k(one))),
		"with what waits, and is too much":  self(app(x(1), onward, app(lam(set, app(v(0), v(0), v(0), v(0), v(0))), bush(1700, x(2))))),
		"with what waits for ever":          self(app(x(1), onward, onward)),
		"behind others":                     self(app(x(1), k(one), lam(set, x(2)), onward)),
		"targets":                           self(k(open, onward)),
		"targets of stuck ones":             self(app(x(1), k(open, app(lam(set, v(0)), x(2))), onward)),
		"what grows":                        self(app(x(1), app(v(0), v(0)), v(0), v(0))),
		"sucs by two":                       self(k(suc, k(suc, onward))),
		"in great parts":                    self(app(x(1), bush(1500, x(2)), onward)),
		"in deep parts":                     self(app(x(1), onward, deep(60, x(2)))),
	}
}

// TestForEver takes steps that do not end.
func TestForEver(t *testing.T) { // P15.1
	m := machine(t)
	for what, from := range forEver() {
		for _, n := range []int{0, 1, 2, 3, 4, 7, 63, 64, 126, 127, 128, 129, 257, 600} {
			if got := holds(t, m, what, from, n); got.e != api.ErrFuel || got.left != 0 {
				t.Errorf("%s, %d: %v, %d left", what, n, got.e, got.left)
			}
		}
	}
}

// TestAllFuel takes as many steps as there may be.
func TestAllFuel(t *testing.T) { // P15.1
	m, l := machine(t), forEver()
	for _, what := range []string{"at the head", "sucs", "with what waits, and takes a step"} {
		f := fuel(api.MaxFuel)
		got, e := Norm(m, l[what], f)
		errs(t, what, got, e, api.ErrFuel)
		if f.Left() != 0 {
			t.Errorf("%s: %d left", what, f.Left())
		}
	}
}

// towers is a signature of definitions, each of which is made of the one ahead of it by what is handed in; of the first one, of zero.
func towers(t *testing.T, many int, of func(t api.Term) api.Term) (*whnf.Machine, []api.Entry) {
	t.Helper()
	l := world()
	for i := range many {
		body := k(zero)
		if i > 0 {
			body = k(end + i - 1)
		}
		l = append(l, api.Entry{Kind: api.EDef, Name: "d" + strconv.Itoa(i), Type: set, Body: of(body)})
	}
	m, e := whnf.New(l)
	if e != api.OK {
		t.Fatal(e)
	}
	return m, l
}

// TestDoubled asks for a normal form of far more nodes than there may be, and than could be kept: all steps are taken.
func TestDoubled(t *testing.T) { // P15.1
	m, l := towers(t, 21, func(t api.Term) api.Term { return k(sigma, t, t) })
	for i := range 21 {
		steps := 1<<(i+1) - 1
		if i < 16 {
			for _, n := range []int{steps - 1, steps, steps + 1} {
				holdsOf(t, l, strconv.Itoa(i), k(end+i), n, holds(t, m, strconv.Itoa(i), k(end+i), n))
			}
			continue
		}
		f := fuel(api.MaxFuel)
		got, e := Norm(m, k(end+i), f)
		want := api.ErrLong
		if steps > api.MaxFuel {
			want = api.ErrFuel
		}
		errs(t, strconv.Itoa(i), got, e, want)
		if f.Used() != min(steps, api.MaxFuel) {
			t.Errorf("%d: %d steps, not %d", i, f.Used(), steps)
		}
	}
}

// TestWaiting asks for terms of which far more waits than there may be levels, and that end.
func TestWaiting(t *testing.T) { // P15.1
	const many = 220
	stuck := k(open, app(lam(set, v(0)), k(nat)))
	tooMuch := app(lam(set, bush(31, v(0))), bush(540, k(zero)))
	for what, of := range map[string]func(t api.Term) api.Term{
		"sucs":             func(t api.Term) api.Term { return k(suc, t) },
		"what waits":       func(t api.Term) api.Term { return k(pair, t, lam(set, app(v(0), k(nat))), set) },
		"with steps":       func(t api.Term) api.Term { return k(pair, t, k(one), set, k(suc, k(two))) },
		"with stuck ones":  func(t api.Term) api.Term { return k(pair, t, set, k(nat), stuck) },
		"with few steps":   func(t api.Term) api.Term { return k(pair, t, elim(nat, 0, set, set, set, t), set) },
		"with too much":    func(t api.Term) api.Term { return k(pair, t, set, tooMuch, k(one)) },
		"functions":        func(t api.Term) api.Term { return lam(t, k(one), v(1)) },
		"at the last ones": func(t api.Term) api.Term { return k(pair, k(one), set, t) },
	} {
		m, l := towers(t, many, of)
		for _, i := range []int{0, 1, 5, 42, 62, 63, 64, 126, 127, 128, 129, many - 1} {
			if what == "with few steps" && i > 16 {
				continue // as many steps again, each time
			}
			steps := api.MaxFuel - holds(t, m, what, k(end+i), api.MaxFuel).left
			for _, n := range []int{0, steps / 2, steps - 2, steps - 1, steps} {
				if n >= 0 {
					holdsOf(t, l, what, k(end+i), n, holds(t, m, what, k(end+i), n))
				}
			}
		}
	}
}

// TestOwing asks that what waits is kept if a step is to be done in it, and if it could be reached.
func TestOwing(t *testing.T) { // P15.1
	m := machine(t)
	for many := range 30 {
		for left := range 35 {
			var waiting, due []api.Term
			for i := range many {
				waiting = append(waiting, app(x(i), k(one)), app(x(i), lam(set, v(0))))
				due = append(due, app(x(i), k(one)))
			}
			b := &builder{machine: m, fuel: fuel(left)}
			kept := b.owing(waiting)
			if want := min(many, left+1); len(kept) != want {
				t.Fatalf("%d of %d, with %d left", len(kept), many, left)
			}
			for i, got := range kept {
				if !term.Same(got, due[many-len(kept)+i]) {
					t.Errorf("%d of %d, with %d left: %s", i, many, left, told(got))
				}
			}
			if b.fuel.Left() != left {
				t.Errorf("%d left of %d", b.fuel.Left(), left)
			}
		}
	}
}

// TestKept asks that no more is counted than a normal form has, and that what is too great is told as soon as that is clear.
func TestKept(t *testing.T) { // P15.1
	m := machine(t)
	for i, from := range terms(x(1), number(5), k(plus, number(2), number(3)), lam(k(one), fn(v(0), k(two))), bush(api.MaxNodes, x(0)), app(x(1), k(great), k(great)), app(fn(k(one), k(one)), k(one))) {
		b := &builder{machine: m, fuel: fuel(100)}
		got, e := b.build(from, 1)
		if e != api.OK || b.long || b.nodes != term.Size(got) {
			t.Errorf("%d: %v, %d nodes of %d, %v", i, e, b.nodes, term.Size(got), b.long)
		}
	}
	for i, from := range terms(app(x(1), k(great), k(great), k(great)), app(x(1), k(great), k(great), k(great), k(great), k(great), k(great), k(great)), app(x(1), k(great), app(x(2), k(great), bush(192, x(0))), lam(k(great), k(great)))) {
		b := &builder{machine: m, fuel: fuel(100)}
		if _, e := b.build(from, 1); e != api.OK || !b.long || b.nodes > api.MaxNodes+nodes {
			t.Errorf("%d: %v, %d nodes, %v", i, e, b.nodes, b.long)
		}
	}
}
