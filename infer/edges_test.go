package infer

import (
	"math"
	"slices"
	"testing"

	"scholium/api"
	"scholium/sign"
	"scholium/term"
	"scholium/whnf"
)

// bush is a term of n nodes that is not deep, its ends t, or eliminators of what is no family.
func bush(n int, t api.Term) api.Term {
	switch n {
	case 1:
		return t
	case 2:
		return term.Elim(zero, 0)
	}
	return app(bush((n-1)/2, t), bush(n-1-(n-1)/2, t))
}

// deep is a term of n levels, its ends t.
func deep(n int, t api.Term) api.Term {
	all := t
	for range n - 1 {
		all = app(t, all)
	}
	return all
}

// hedge is a type of n nodes, of an odd number, that is not deep.
func hedge(n int) api.Term {
	if n == 1 {
		return k(nat)
	}
	half := (n - 1) / 2
	half -= 1 - half%2
	return fn(hedge(half), hedge(n-1-half))
}

// endless is a term that stands within its own Subs.
func endless() api.Term {
	t := term.Pi(set, set)
	t.Sub[0], t.Sub[1] = t, t
	return t
}

// round is what goes on for ever.
func round() api.Term { return app(k(again), k(again)) }

// doubles is what is too great after one step, without fuel, too.
func doubles() api.Term { return app(lam(set, app(v(0), v(0))), bush(4200, x(0))) }

// unshaped are terms that are not shaped.
func unshaped() []api.Term {
	node := func(kind, n int, subs ...api.Term) api.Term { return api.Term{Kind: kind, N: n, Sub: subs} }
	return terms(
		api.Term{}, node(9, 0), node(-1, 0, set, set), node(math.MaxInt, 0), node(math.MinInt, 0, set), node(0, 1), v(-1), v(api.MaxFree+1), v(math.MinInt), node(api.KVar, 0, set),
		s(api.MaxLevel+1), s(-1), k(math.MaxInt), k(-1), x(math.MinInt), x(api.MaxFree+1), node(api.KElim, 0), term.Elim(nat, -1), term.Elim(nat, api.MaxLevel+1), term.Elim(-1, 0), node(api.KElim, 0, x(0)),
		node(api.KPi, 0), node(api.KLam, 0, set), node(api.KLam, 1, set, set), node(api.KApp, 0, set, set, set), node(api.KApp, 1, k(suc), k(zero)), node(api.KApp, 0, k(suc)), node(api.KConst, zero, set), fn(set, v(-1)),
		bush(api.MaxNodes+1, x(0)), deep(api.MaxDepth+1, x(0)), endless(),
	)
}

// around are terms with another one in each place, some of which err ahead of it.
func around(t api.Term) []api.Term {
	return terms(app(x(count), t), app(t, x(count)), app(k(zero), t), lam(k(nat), t), lam(t, set), lam(k(zero), t), fn(t, set), fn(set, t), fn(v(99), t), k(suc, t), elim(nat, 0, t, x(2), x(3), k(zero)))
}

// wrong are terms that may not come: those that are not shaped, and those that name what there is not.
func wrong() []api.Term {
	all := append(unshaped(), k(end), k(end+1), k(api.MaxSig), k(api.MaxFree), term.Elim(end, 0), term.Elim(api.MaxFree, 7))
	for _, t := range terms(api.Term{}, v(-1), s(8), k(end), term.Elim(end, 0), endless()) {
		all = append(all, around(t)...)
	}
	return all
}

// broken are signatures that are not formed.
func broken() [][]api.Entry {
	with := func(i int, change func(e *api.Entry)) []api.Entry {
		l := sign.Copy(world())
		change(&l[i])
		return l
	}
	return [][]api.Entry{
		{{}}, {{Kind: 9, Name: "x", Type: set}}, world()[:suc], world()[:fst], append(world(), world()[one]), append(world(), make([]api.Entry, 5)...), make([]api.Entry, api.MaxSig+1),
		with(nat, func(e *api.Entry) { e.Cons = []int{zero} }),
		with(nat, func(e *api.Entry) { e.Kind = -1 }),
		with(suc, func(e *api.Entry) { e.Place = 0 }),
		with(vec, func(e *api.Entry) { e.Inds = math.MaxInt }),
		with(fst, func(e *api.Entry) { e.Pars = 1 }),
		with(sigma, func(e *api.Entry) { e.Fields = []int{fst} }),
		with(one, func(e *api.Entry) { e.Body = x(0) }),
		with(one, func(e *api.Entry) { e.Body = endless() }),
	}
}

// fuels are amounts of fuel that there may be, and that there may not.
var fuels = []int{0, 1, api.MaxFuel, -1, api.MaxFuel + 1, math.MinInt, math.MaxInt}

// refused asks all calls but some for ErrShape, without a step.
func refused(t *testing.T, w World, what string, of, a api.Term, l []api.Term, but ...string) {
	t.Helper()
	for name := range calls(nil) {
		if !slices.Contains(but, name) {
			answers(t, name, w, what, of, a, l, 0, answer{e: api.ErrShape})
			answers(t, name, w, what, of, a, l, 5, answer{e: api.ErrShape})
		}
	}
}

// TestNotFormed asks in signatures that are not formed, whatever else comes.
func TestNotFormed(t *testing.T) { // P17.2
	for i, l := range broken() {
		for _, of := range terms(set, k(zero), v(0), s(7), k(suc, k(zero)), api.Term{}, endless()) {
			for _, n := range fuels {
				if got, e := Of(l, of, n); e != api.ErrShape || !(answer{t: got}).like(answer{}) {
					t.Errorf("%d, %s, of %d: %s, %v", i, told(of), n, told(got), e)
				}
			}
		}
	}
}

// TestWrongFuel asks for fuel that there may not be.
func TestWrongFuel(t *testing.T) { // P17.2
	for _, of := range terms(set, v(0), x(0), s(7), k(suc, k(zero)), k(zero, k(zero)), lam(k(zero), k(zero)), term.Elim(zero, 0), k(end), api.Term{}) {
		for _, n := range fuels {
			if n >= 0 && n <= api.MaxFuel && term.Right(of, 1, end) {
				holdsOf(t, theWorld(), told(of), of, n)
			} else if got, e := Of(theWorld(), of, n); e != api.ErrShape || !(answer{t: got}).like(answer{}) {
				t.Errorf("%s, of %d: %s, %v", told(of), n, told(got), e)
			}
		}
	}
}

// TestWrong asks for what may not come, in each place of a world and of what is asked: whatever the others are, no step is taken.
func TestWrong(t *testing.T) { // P17.1, P17.2
	w := placed(t)
	none := api.Term{}
	for i, bad := range wrong() {
		what := many(i)
		for _, other := range terms(k(zero), k(nat), lam(k(nat), v(0)), k(suc, k(one)), v(9), s(7), k(zero, k(zero)), none) {
			refused(t, w, what, bad, other, terms(bad), "Context")
			refused(t, w, what+", the type", other, bad, terms(other, bad), "Context", "Infer", "Universe")
			refused(t, w, what+", the first of two", bad, bad, terms(bad, other), "Context")
			for place := range 3 {
				changed := w
				changed.Context = slices.Insert(slices.Clone(w.Context), 2*place, bad)
				refused(t, changed, what+", in the context, "+many(place), other, other, terms(other), "Context")
				refused(t, changed, what+", in the context, "+many(place), other, other, nil, "Context", "Infer", "Check", "Universe")
				changed = w
				changed.Types = slices.Insert(slices.Clone(w.Types), 4*place, bad)
				changed.Names = slices.Insert(slices.Clone(w.Names), 4*place, i-5)
				refused(t, changed, what+", of a name, "+many(place), other, other, terms(other))
				refused(t, changed, what+", of a name, "+many(place), other, other, nil, "Infer", "Check", "Universe")
			}
		}
		if got, e := Of(theWorld(), bad, 5); e != api.ErrShape || !(answer{t: got}).like(answer{}) {
			t.Errorf("%d, in a signature: %s, %v", i, told(got), e)
		}
	}
}

// TestWrongContext asks contexts of which a type may not come: it is asked in its turn.
func TestWrongContext(t *testing.T) { // P17.2
	w, n := placed(t), k(nat)
	vector := k(vec, n, k(zero))
	for i, bad := range wrong() {
		for _, each := range []struct {
			l     []api.Term
			n     int
			e     api.Errno
			taken int
		}{
			{terms(bad), 9, api.ErrShape, 0},
			{terms(bad, bad), 9, api.ErrShape, 0},
			{terms(bad, v(9)), 9, api.ErrShape, 0},
			{terms(n, set, bad), 9, api.ErrShape, 0},
			{terms(vector, bad, k(zero)), 9, api.ErrShape, 2},
			{terms(vector, bad), 2, api.ErrShape, 2},
			{terms(vector, bad), 1, api.ErrFuel, 1},
			{terms(k(zero), bad), 9, api.ErrType, 0},
			{terms(n, v(1), bad), 9, api.ErrScope, 0},
			{terms(s(7), bad), 9, api.ErrLevel, 0},
			{terms(term.Elim(one, 0), n, bad), 9, api.ErrNone, 0},
		} {
			w.Context = each.l
			answers(t, "Context", w, many(i), api.Term{}, api.Term{}, nil, each.n, answer{e: each.e, used: each.taken})
		}
	}
}

// TestNoMachine asks without a machine.
func TestNoMachine(t *testing.T) { // P17.1, P17.2
	w := placed(t)
	w.M = nil
	for _, of := range append(wrong(), set, v(0), v(9), k(zero), k(suc, k(zero)), lam(set, v(0)), s(7)) {
		refused(t, w, "nil", of, of, terms(of))
		refused(t, World{}, "nothing at all", of, set, terms(set, of))
	}
	refused(t, World{}, "nothing at all", set, set, nil)
	w.Context = nil
	refused(t, w, "nil, no context", set, set, nil)
}

// TestNotAsMany asks with names and types that are not as many.
func TestNotAsMany(t *testing.T) { // P17.1, P17.2
	for _, w := range []World{
		{Names: []int{0}}, {Names: []int{0, 1}, Types: terms(set)}, {Names: []int{0}, Types: terms(set, set)}, {Types: terms(set)}, {Names: []int{-1}, Types: terms()}, {Names: make([]int, 7), Types: placed(t).Types},
	} {
		for _, context := range [][]api.Term{nil, terms(set), terms(v(9), k(zero)), terms(api.Term{})} {
			w.M, w.Context = machine(t), context
			for _, of := range terms(set, x(0), v(9), k(zero, k(zero)), s(7), api.Term{}) {
				refused(t, w, "not as many", of, set, terms(of))
				refused(t, w, "not as many, an empty list", of, set, nil)
			}
		}
	}
	w := World{M: machine(t), Names: []int{}, Types: nil}
	has(t, w, "none and none", set, s(1), 0)
}

// TestNoEntries asks machines and signatures of no entries.
func TestNoEntries(t *testing.T) { // P17.1, P17.2
	of, e := whnf.New(nil)
	if e != api.OK {
		t.Fatal(e)
	}
	for i, m := range []*whnf.Machine{of, {}} {
		w := World{M: m, Context: terms(set, v(0)), Names: []int{3}, Types: terms(fn(set, set))}
		for _, each := range terms(set, v(0), v(1), v(2), x(3), x(2), fn(v(1), v(2)), lam(v(1), v(0)), app(x(3), v(1)), app(x(3), v(0)), app(v(0), v(0)), s(7)) {
			for _, a := range append(w.Context, each, s(1), x(3)) {
				for n := range 3 {
					holds(t, nil, w, many(i), each, a, terms(set, each, a), n)
				}
			}
		}
		for _, each := range terms(k(0), term.Elim(0, 0), fn(set, k(0)), app(v(9), k(0))) {
			refused(t, w, "an entry", each, each, terms(each), "Context")
		}
	}
	for _, none := range [][]api.Entry{nil, {}} {
		holdsOf(t, none, "a universe", set, 0)
		holdsOf(t, none, "a function", lam(set, v(0), v(0)), 0)
		holdsOf(t, none, "an application", app(lam(s(1), v(0)), set), 1)
		holdsOf(t, none, "too little", app(lam(s(1), v(0)), set), 0)
		if _, e := Of(none, k(0), 1); e != api.ErrShape {
			t.Error(e)
		}
	}
}

// TestNilMeter asks with a nil meter, which has no step.
func TestNilMeter(t *testing.T) { // P17.1, P17.2
	w, n := placed(t), k(nat)
	for what, each := range map[string]struct {
		of   api.Term
		want answer
	}{
		"no step":                {lam(n, v(0)), answer{t: fn(n, n)}},
		"an error":               {v(5), answer{e: api.ErrScope}},
		"an application":         {k(suc, k(zero)), answer{e: api.ErrFuel}},
		"of what errs":           {app(v(5), v(5)), answer{e: api.ErrFuel}},
		"a universe by steps":    {fn(x(to), n), answer{e: api.ErrFuel}},
		"behind an error":        {fn(v(5), k(suc, k(zero))), answer{e: api.ErrScope}},
		"within a function":      {lam(n, k(suc, v(0))), answer{e: api.ErrFuel}},
		"within a type's second": {fn(n, k(vec, n, v(0))), answer{e: api.ErrFuel}},
	} {
		answers(t, "Infer", w, what, each.of, api.Term{}, nil, 0, each.want)
	}
	answers(t, "Check", w, "no step", k(zero), n, nil, 0, answer{})
	answers(t, "Check", w, "a step of the type's", k(zero), app(lam(set, v(0)), n), nil, 0, answer{e: api.ErrFuel})
	answers(t, "Check", w, "a function, a step of the type's", lam(n, v(0)), k(onward), nil, 0, answer{e: api.ErrFuel})
	answers(t, "Check", w, "a function", lam(n, v(0)), fn(n, n), nil, 0, answer{})
	answers(t, "Tele", w, "no step", k(zero), n, terms(set, v(0)), 0, answer{n: 1})
	answers(t, "Tele", w, "a step", k(zero), n, terms(set, x(to)), 0, answer{e: api.ErrFuel})
}

// TestFirst asks which of several errors comes first: with so much fuel, of which so much is taken.
func TestFirst(t *testing.T) { // P17.1
	w, n := placed(t), k(nat)
	w.Names = append(w.Names, 20, 21, 22)
	w.Types = append(w.Types, round(), doubles(), fn(round(), doubles()))
	none, level, beyond, kind := term.Elim(zero, 0), s(7), v(9), k(zero, k(zero))
	for what, each := range map[string]struct {
		of    api.Term
		n     int
		e     api.Errno
		taken int
	}{
		"a type's first":                        {fn(none, level), 9, api.ErrNone, 0},
		"a type's first, no type":               {fn(k(zero), level), 9, api.ErrType, 0},
		"a type's first, its steps":             {fn(x(20), level), 9, api.ErrFuel, 9},
		"a type's first, too great":             {fn(x(21), level), 9, api.ErrLong, 0},
		"a type's second":                       {fn(n, level), 9, api.ErrLevel, 0},
		"a type's second, its steps":            {fn(n, x(20)), 9, api.ErrFuel, 9},
		"a function's first":                    {lam(level, none), 9, api.ErrLevel, 0},
		"a function's first, no type":           {lam(k(zero), none), 9, api.ErrType, 0},
		"a function's first, its steps":         {lam(x(20), none), 9, api.ErrFuel, 9},
		"a function's second":                   {lam(n, none), 9, api.ErrNone, 0},
		"a function's second, whatever it has":  {lam(n, x(20)), 9, api.OK, 0},
		"fuel ahead of what is applied":         {app(level, none), 0, api.ErrFuel, 0},
		"what is applied":                       {app(level, none), 9, api.ErrLevel, 1},
		"what is applied, no function":          {app(k(zero), none), 9, api.ErrType, 1},
		"what is applied, its type's steps":     {app(x(20), none), 9, api.ErrFuel, 9},
		"what is applied, its type too great":   {app(x(21), none), 9, api.ErrLong, 1},
		"what is applied, within":               {app(kind, none), 9, api.ErrType, 2},
		"what is applied, within, without fuel": {app(kind, none), 1, api.ErrFuel, 1},
		"the argument":                          {k(suc, level), 9, api.ErrLevel, 1},
		"the argument's own type ahead":         {app(x(22), beyond), 9, api.ErrScope, 1},
		"the argument's type":                   {app(x(22), k(zero)), 9, api.ErrFuel, 9},
		"the argument's type, of a function":    {app(x(22), lam(n, beyond)), 9, api.ErrFuel, 9},
		"the argument, ahead of what comes":     {app(lam(n, none), level), 9, api.ErrNone, 1},
		"an earlier argument":                   {k(plus, level, none), 9, api.ErrLevel, 2},
		"a later argument":                      {k(plus, k(zero), none), 9, api.ErrNone, 2},
		"an argument's function ahead":          {k(suc, app(beyond, none)), 9, api.ErrScope, 2},
		"an argument of another type":           {k(plus, n, beyond), 9, api.ErrType, 2},
		"what is applied to too much":           {k(suc, beyond, none), 9, api.ErrScope, 2},
	} {
		want := answer{e: each.e, used: each.taken}
		if each.e == api.OK {
			want.t = fn(n, round())
		}
		answers(t, "Infer", w, what, each.of, api.Term{}, nil, each.n, want)
		for _, a := range terms(n, fn(n, n), round(), doubles(), set) {
			for m := range each.n + 1 {
				holds(t, theWorld(), w, what, each.of, a, terms(set, each.of, none), m)
			}
		}
	}
}

// TestFirstChecked asks which of several errors comes first where a function is checked.
func TestFirstChecked(t *testing.T) { // P17.1
	w, n := placed(t), k(nat)
	none, level, beyond := term.Elim(zero, 0), s(7), v(9)
	for what, each := range map[string]struct {
		of, a api.Term
		n     int
		e     api.Errno
		taken int
	}{
		"the type's steps ahead":               {lam(level, none), round(), 9, api.ErrFuel, 9},
		"the type that is too great":           {lam(level, none), doubles(), 9, api.ErrLong, 0},
		"its own type ahead of the type":       {level, doubles(), 9, api.ErrLevel, 0},
		"its own type ahead of its steps":      {none, round(), 9, api.ErrNone, 0},
		"the type's steps behind":              {k(zero), round(), 9, api.ErrFuel, 9},
		"the type that is too great, behind":   {k(zero), doubles(), 9, api.ErrLong, 0},
		"its first ahead of the type's":        {lam(level, none), fn(doubles(), n), 9, api.ErrLevel, 0},
		"its first's steps ahead of its types": {lam(app(lam(set, v(0)), n), none), fn(doubles(), n), 9, api.ErrLong, 1 + 1},
		"its first's kind":                     {lam(k(zero), none), fn(doubles(), n), 9, api.ErrType, 0},
		"the type's first":                     {lam(n, none), fn(round(), n), 9, api.ErrFuel, 9},
		"the type's first, another one":        {lam(n, none), fn(set, doubles()), 9, api.ErrType, 0},
		"the body":                             {lam(n, none), fn(n, doubles()), 9, api.ErrNone, 0},
		"the type's second":                    {lam(n, v(0)), fn(n, doubles()), 9, api.ErrLong, 0},
		"the type's second, of a function":     {lam(n, n, beyond), fn(n, doubles()), 9, api.ErrLong, 0},
		"no type of functions, its own error":  {lam(n, level), n, 9, api.ErrLevel, 0},
		"what goes on, and is no function":     {lam(n, v(0)), k(suc, round()), 9, api.ErrType, 0},
	} {
		answers(t, "Check", w, what, each.of, each.a, nil, each.n, answer{e: each.e, used: each.taken})
		for m := range each.n + 1 {
			holds(t, theWorld(), w, what, each.of, each.a, terms(set, each.of, none), m)
		}
	}
}

// edge is a row of terms, each in a world of its own, up to a last one that has a type; that of the next one is too great.
type edge struct {
	context, types func(n int) []api.Term
	of             func(n int) api.Term
	last, by       int // the next one is the last one and so many more
}

// edges have what becomes great, deep, or a variable beyond all.
func edges() map[string]edge {
	some := func(l ...api.Term) func(n int) []api.Term { return func(int) []api.Term { return l } }
	one := func(of func(n int) api.Term) func(n int) []api.Term {
		return func(n int) []api.Term { return terms(of(n)) }
	}
	of := func(t api.Term) func(n int) api.Term { return func(int) api.Term { return t } }
	by := func(n int) api.Term { return bush(n, x(0)) }
	n := k(nat)
	const most, deepest = api.MaxNodes, api.MaxDepth
	return map[string]edge{
		"a function, great":                   {nil, one(by), of(lam(n, x(0))), most - 2, 1},
		"a function, great by its first":      {nil, some(bush(8000, x(0))), func(n int) api.Term { return lam(hedge(n), x(0)) }, most - 8000 - 1, 2},
		"functions, great":                    {nil, one(by), of(lam(n, n, n, x(0))), most - 6, 1},
		"functions, great by both":            {nil, some(bush(5000, x(0))), func(n int) api.Term { return lam(hedge(101), hedge(n), x(0)) }, most - 5000 - 103, 2},
		"a function, deep":                    {nil, one(func(n int) api.Term { return deep(n, x(0)) }), of(lam(n, x(0))), deepest - 1, 1},
		"functions, deep":                     {nil, one(func(n int) api.Term { return deep(n, x(0)) }), of(lam(n, n, n, x(0))), deepest - 3, 1},
		"a variable":                          {func(n int) []api.Term { return terms(v(n)) }, nil, of(v(0)), api.MaxFree - 1, 1},
		"a variable within":                   {func(n int) []api.Term { return terms(k(suc, fn(set, v(n+1))), set, set) }, nil, of(v(2)), api.MaxFree - 4, 1},
		"a variable of a named one":           {some(set, set), one(v), of(x(0)), api.MaxFree - 2, 1},
		"a variable of a function's":          {nil, one(v), of(lam(n, n, x(0))), api.MaxFree - 2, 1},
		"what is applied, great":              {nil, func(n int) []api.Term { return terms(fn(set, app(v(0), bush(n, x(0))))) }, of(app(x(0), hedge(101))), most - 102, 1},
		"what is applied, great by twice":     {nil, func(n int) []api.Term { return terms(fn(set, app(v(0), v(0), bush(n, x(0))))) }, of(app(x(0), hedge(101))), most - 204, 1},
		"what is applied, great by its arg":   {nil, some(fn(set, app(v(0), bush(7000, x(0))))), func(n int) api.Term { return app(x(0), hedge(n)) }, most - 7000 - 1, 2},
		"what is applied, deep":               {nil, func(n int) []api.Term { return terms(fn(set, nested(n, v(0)))) }, of(app(x(0), ladder(3))), deepest - 3, 1},
		"what is applied, deep by its arg":    {nil, some(fn(set, nested(100, v(0)))), func(n int) api.Term { return app(x(0), ladder(n)) }, deepest - 100, 1},
		"a function, deep by what is applied": {nil, func(n int) []api.Term { return terms(fn(set, nested(n, v(0)))) }, of(lam(n, app(x(0), ladder(3)))), deepest - 4, 1},
	}
}

// nested is a term as a named variable's argument, so many times.
func nested(n int, t api.Term) api.Term {
	for range n {
		t = app(x(1), t)
	}
	return t
}

// ladder is a type of n levels.
func ladder(n int) api.Term {
	t := k(nat)
	for range n - 1 {
		t = fn(k(nat), t)
	}
	return t
}

// TestLong asks for what is just shaped, and what is one node, one level, or one number, too great.
func TestLong(t *testing.T) { // P17.1
	for what, each := range edges() {
		for i, n := range []int{each.last - each.by, each.last, each.last + each.by} {
			w, want := closed(t), api.OK
			if each.context != nil {
				w.Context = each.context(n)
			}
			if each.types != nil {
				w.Types = each.types(n)
				w.Names = make([]int, len(w.Types))
			}
			if i == 2 {
				want = api.ErrLong
			}
			of := each.of(n)
			if !term.Shaped(of) {
				t.Errorf("%s, %d: not shaped", what, n)
			}
			got := held(t, theWorld(), "Infer", w, what+", "+many(i), of, api.Term{}, nil, 9)
			if got.e != want {
				t.Errorf("%s, %d: %v, not %v", what, n, got.e, want)
			}
			a := got.t
			if want != api.OK {
				a = set
			}
			held(t, theWorld(), "Check", w, what+", "+many(i), of, a, nil, 9)
			held(t, theWorld(), "Universe", w, what+", "+many(i), of, api.Term{}, nil, 9)
			held(t, theWorld(), "Check", w, what+", an argument, "+many(i), app(lam(set, v(0)), of), set, nil, 9)
		}
	}
}

// TestLongEliminators asks for eliminators with as many arguments as there may be, and with more.
func TestLongEliminators(t *testing.T) { // P17.1
	for n, want := range map[int]api.Errno{6: api.OK, 7: api.ErrLong} {
		l := []api.Entry{{Kind: api.EData, Name: "D", Type: laid(term.Pi, slices.Repeat(terms(set), n+1))}}
		l[0].Pars = n
		family := k(0)
		for i := range n {
			family = app(family, v(n-1-i))
		}
		for c := range api.MaxCons {
			l[0].Cons = append(l[0].Cons, c+1)
			l = append(l, api.Entry{Kind: api.ECon, Name: "c" + many(c), Type: laid(term.Pi, append(slices.Repeat(terms(set), n), family)), Place: c, Pars: n})
		}
		w := World{M: machineOf(t, l)}
		for level := range api.MaxLevel + 1 {
			got := holds(t, l, w, many(n), term.Elim(0, level), s(3), terms(set, term.Elim(0, level)), 3)
			if got["Infer"].e != want {
				t.Errorf("%d: %s", n, got["Infer"].written())
			}
		}
	}
}

// TestGreatContext asks variables near the greatest one, in contexts that have them.
func TestGreatContext(t *testing.T) { // P17.1
	w := closed(t)
	w.Context = slices.Repeat(terms(set), api.MaxFree+1)
	w.Context[0], w.Context[1] = k(nat), fn(k(nat), s(3))
	w.Names, w.Types = []int{0, 1, 2, 3}, terms(k(nat), v(0), fn(k(nat), fn(k(nat), v(1))), fn(k(nat), fn(k(nat), v(2))))
	asked := func(of, want api.Term, no api.Errno, steps int) {
		t.Helper()
		answers(t, "Infer", w, told(of), of, api.Term{}, nil, 9, answer{t: want, e: no, used: steps})
	}
	again := app(x(2), v(api.MaxFree))
	asked(v(api.MaxFree), k(nat), api.OK, 0)
	asked(v(api.MaxFree-1), fn(k(nat), s(3)), api.OK, 0)
	asked(app(v(api.MaxFree-1), v(api.MaxFree)), s(3), api.OK, 1)
	asked(app(v(api.MaxFree-1), v(api.MaxFree-2)), api.Term{}, api.ErrType, 1)
	asked(lam(v(api.MaxFree-2), v(0)), fn(v(api.MaxFree-2), v(api.MaxFree-1)), api.OK, 0)
	asked(lam(v(api.MaxFree-2), lam(set, v(1))), fn(v(api.MaxFree-2), fn(set, v(api.MaxFree))), api.OK, 0)
	asked(lam(v(api.MaxFree-2), lam(set, lam(set, v(2)))), api.Term{}, api.ErrLong, 0)
	asked(x(0), k(nat), api.OK, 0)
	asked(x(1), api.Term{}, api.ErrLong, 0)
	asked(x(2), w.Types[2], api.OK, 0)
	asked(again, api.Term{}, api.ErrLong, 1) // its type names its argument beneath a binder
	asked(x(3), api.Term{}, api.ErrLong, 0)
	w.Context = append(w.Context, set, set)
	asked(v(api.MaxFree), set, api.OK, 0)
	asked(x(0), k(nat), api.OK, 0)
	asked(x(1), api.Term{}, api.ErrLong, 0)
	asked(x(2), w.Types[2], api.OK, 0)
	w.Context = append(w.Context[2:api.MaxFree], v(0))
	asked(v(0), v(1), api.OK, 0)
	asked(x(1), v(api.MaxFree-1), api.OK, 0)
	asked(lam(set, x(1)), fn(set, v(api.MaxFree)), api.OK, 0)
	asked(lam(set, lam(set, x(1))), api.Term{}, api.ErrLong, 0)
	asked(v(api.MaxFree-1), api.Term{}, api.ErrScope, 0)
	w.Context[0] = v(0)
	asked(v(api.MaxFree-2), v(api.MaxFree-1), api.OK, 0)
	w.Context = append(terms(v(0)), w.Context...)
	asked(v(api.MaxFree-1), v(api.MaxFree), api.OK, 0)
	w.Context = append(terms(v(0)), w.Context...)
	asked(v(api.MaxFree), api.Term{}, api.ErrLong, 0)
	asked(fn(v(0), v(api.MaxFree)), api.Term{}, api.ErrType, 0)
}

// TestBroad asks terms of many binders in a great context.
func TestBroad(t *testing.T) { // P17.1
	w := closed(t)
	w.Context = slices.Repeat(terms(set), api.MaxFree)
	broad := hedge(api.MaxNodes - 1)
	answers(t, "Infer", w, "broad", broad, api.Term{}, nil, 0, answer{t: set})
	answers(t, "Check", w, "broad", broad, set, nil, 0, answer{})
	answers(t, "Universe", w, "broad", broad, set, nil, 0, answer{})
	answers(t, "Tele", w, "broad", broad, set, slices.Repeat(terms(hedge(101)), 99), 0, answer{})
	w.Names, w.Types = []int{0, 1}, terms(fn(fn(k(nat), k(nat)), k(nat)), fn(k(nat), k(nat), k(nat)))
	functions := app(x(0), lam(k(nat), v(0)))
	for range 9 {
		functions = app(x(1), functions, functions)
	}
	answers(t, "Infer", w, "many functions", functions, api.Term{}, nil, 2000, answer{t: k(nat), used: 3*512 - 2})
}

// TestGreatest asks the greatest and the deepest terms that may come.
func TestGreatest(t *testing.T) { // P17.1
	w, n := placed(t), k(nat)
	has(t, w, "the deepest type", ladder(api.MaxDepth), set, 0)
	has(t, w, "the greatest type", hedge(api.MaxNodes-1), set, 0)
	among(t, w, "the greatest type", hedge(api.MaxNodes-1), 0, 0)
	depth := k(zero)
	for range api.MaxDepth - 1 {
		depth = k(suc, depth)
	}
	has(t, w, "the deepest number", depth, n, api.MaxDepth-1)
	functions, types := v(0), n
	for range api.MaxDepth - 1 {
		functions, types = lam(n, functions), fn(n, types)
	}
	has(t, w, "the deepest function", functions, types, 0)
	sums := k(zero)
	for range 10 {
		sums = k(plus, sums, sums)
	}
	answers(t, "Infer", w, "many sums", sums, api.Term{}, nil, 2*1023, answer{t: n, used: 2 * 1023})
	answers(t, "Infer", w, "many sums", sums, api.Term{}, nil, 2*1023-1, answer{e: api.ErrFuel, used: 2*1023 - 1})
	answers(t, "Check", w, "many sums", sums, n, nil, 2*1023, answer{used: 2 * 1023})
	checked(t, w, "the deepest function, another", functions, fn(n, types.Sub[1].Sub[1]), api.ErrType, 0)
}

// TestForEver asks types that go on for ever.
func TestForEver(t *testing.T) { // P17.1
	w, n := placed(t), k(nat)
	self := func(body api.Term) api.Term { return app(lam(set, body), lam(set, body)) }
	w.Names = []int{0, 1, 2, 3, 4}
	w.Types = terms(round(), fn(n, round()), fn(round(), n), self(fn(n, app(v(1), v(1)))), self(k(suc, app(v(0), v(0)))))
	for what, of := range map[string]api.Term{
		"a variable":              x(0),
		"what is applied":         app(x(0), k(zero)),
		"a type":                  fn(x(0), n),
		"a second type":           fn(n, x(0)),
		"a function's":            lam(x(0), n),
		"a function to it":        lam(n, x(0)),
		"what comes":              app(x(1), k(zero)),
		"what comes, applied":     app(x(1), k(zero), k(zero)),
		"an argument's":           app(x(2), k(zero)),
		"an argument's, likewise": app(x(2), x(0)),
		"a function argument's":   app(x(2), lam(n, v(0))),
		"an argument":             k(suc, x(0)),
		"one after the other":     app(x(3), k(zero), k(zero), k(zero)),
		"within":                  k(suc, x(4)),
	} {
		for _, a := range terms(n, fn(n, n), round(), self(fn(n, app(v(1), v(1)))), self(k(suc, app(v(0), v(0)))), set) {
			for _, n := range []int{0, 1, 2, 3, 5, 60} {
				holds(t, theWorld(), w, what, of, a, terms(set, of), n)
			}
		}
	}
}

// TestAllFuel takes as many steps as there may be.
func TestAllFuel(t *testing.T) { // P17.1
	w := closed(t)
	w.Names, w.Types = []int{0}, terms(round())
	for name, of := range map[string]api.Term{"Infer": app(x(0), x(0)), "Check": lam(set, v(0)), "Universe": x(0), "Tele": x(0), "Context": x(0)} {
		w.Context = terms(of)
		answers(t, name, w, "for ever", of, round(), terms(of), api.MaxFuel, answer{e: api.ErrFuel, used: api.MaxFuel})
	}
}
