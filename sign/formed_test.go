package sign

import (
	"math"
	"reflect"
	"slices"
	"strings"
	"testing"

	"scholium/api"
	"scholium/name"
	"scholium/term"
)

// bush is a term of n nodes that is not deep, its ends x, or eliminators.
func bush(n int, x api.Term) api.Term {
	switch n {
	case 1:
		return x
	case 2:
		return term.Elim(0, 0)
	}
	return term.App(bush((n-1)/2, x), bush(n-1-(n-1)/2, x))
}

// endless is a term that stands within its own Subs.
func endless() api.Term {
	x := term.Pi(set, set)
	x.Sub[0], x.Sub[1] = x, x
	return x
}

// unshaped are terms that are not shaped.
func unshaped() []api.Term {
	node := func(kind, n int, subs ...api.Term) api.Term { return api.Term{Kind: kind, N: n, Sub: subs} }
	return terms(node(9, 0), node(-1, 0, set, set), node(0, 1), node(0, 0, set), v(-1), v(api.MaxFree+1), node(api.KVar, 0, set), term.Sort(api.MaxLevel+1), term.Sort(-1), term.Const(math.MaxInt), term.Const(-1), term.Free(math.MinInt),
		node(api.KElim, 0), term.Elim(0, -1), node(api.KPi, 0), node(api.KPi, 0, set), node(api.KPi, 1, set, set), node(api.KApp, 0, set, set, set), fn(set, v(-1)), fn(v(-1), set), bush(api.MaxNodes+1, set), pis(api.MaxDepth, set), endless())
}

// stripped takes so many types of functions off a shaped term; false, if there are not so many.
func stripped(x api.Term, n int) ([]api.Term, api.Term, bool) {
	var types []api.Term
	for range n {
		if x.Kind != api.KPi {
			return nil, x, false
		}
		types, x = append(types, x.Sub[0]), x.Sub[1]
	}
	return types, x, true
}

// outermost tells how many types of functions stand around what is none.
func outermost(x api.Term) int {
	n := 0
	for ; x.Kind == api.KPi; x = x.Sub[1] {
		n++
	}
	return n
}

// clean tells whether a term is shaped, closed, and names but entries below n.
func clean(x api.Term, n int) bool {
	entries := term.Entries(x)
	return term.Shaped(x) && term.Loose(x) == 0 && len(term.Frees(x)) == 0 && (len(entries) == 0 || slices.Max(entries) < n)
}

// downFrom are so many variables, from n - 1 on.
func downFrom(n, many int) []api.Term {
	var l []api.Term
	for i := range many {
		l = append(l, v(n-1-i))
	}
	return l
}

// from are so many numbers, from n on.
func from(n, many int) []int {
	var l []int
	for i := range many {
		l = append(l, n+i)
	}
	return l
}

// wanted reckons whether a list is a formed signature: each entry is made anew of what may differ, and must come out as it is; and families and what is theirs must name each other.
func wanted(l []api.Entry) bool {
	if len(l) > api.MaxSig {
		return false
	}
	for i, e := range l {
		for _, other := range l[:i] {
			if other.Name == e.Name {
				return false
			}
		}
		anew, right := made(l, i)
		if !right || !name.Right(e.Name) || !clean(e.Type, i) || !alike(anew, e) {
			return false
		}
	}
	return linked(l)
}

// alike tells whether two entries are the same, an empty list being nil's like.
func alike(a, b api.Entry) bool {
	for _, e := range []*api.Entry{&a, &b} {
		if len(e.Cons) == 0 {
			e.Cons = nil
		}
		if len(e.Fields) == 0 {
			e.Fields = nil
		}
		if len(e.Body.Sub) == 0 {
			e.Body.Sub = nil
		}
	}
	return term.Same(a.Type, b.Type) && (term.Same(a.Body, b.Body) || reflect.DeepEqual(a.Body, b.Body)) && reflect.DeepEqual(untyped(a), untyped(b))
}

// untyped is an entry without its terms.
func untyped(e api.Entry) api.Entry {
	e.Type, e.Body = api.Term{}, api.Term{}
	return e
}

// made makes entry i anew, of what may differ in its kind.
func made(l []api.Entry, i int) (api.Entry, bool) {
	e := l[i]
	if !term.Shaped(e.Type) {
		return e, false
	}
	switch e.Kind {
	case api.EData:
		if min(e.Pars, e.Inds) < 0 || max(e.Pars, e.Inds) > api.MaxTele || e.Pars+e.Inds > api.MaxTele || len(e.Cons) > api.MaxCons {
			return e, false
		}
		types, _, right := stripped(e.Type, e.Pars+e.Inds)
		return api.Entry{Kind: api.EData, Name: e.Name, Type: fn(append(types, term.Sort(e.Level))...), Pars: e.Pars, Inds: e.Inds, Level: e.Level, Cons: from(i+1, len(e.Cons)), Fields: from(i+2, len(e.Fields))}, right
	case api.ECon:
		n := outermost(e.Type)
		types, result, _ := stripped(e.Type, n)
		_, args := term.Spine(result)
		if e.Of < 0 || e.Of >= i || l[e.Of].Kind != api.EData || n > api.MaxTele || n < l[e.Of].Pars || len(args) != l[e.Of].Pars+l[e.Of].Inds {
			return e, false
		}
		pars := l[e.Of].Pars
		return con(e.Name, e.Of, e.Place, pars, fn(append(types, k(e.Of, append(downFrom(n, pars), args[pars:]...)...))...)), true
	case api.EProj:
		if e.Of < 0 || e.Of >= i || l[e.Of].Kind != api.EData || l[e.Of].Pars >= api.MaxTele {
			return e, false
		}
		pars := l[e.Of].Pars
		types, rest, right := stripped(e.Type, pars+1)
		if !right {
			return e, false
		}
		return field(e.Name, e.Of, e.Place, pars, fn(append(types[:pars], k(e.Of, downFrom(pars, pars)...), rest)...)), true
	case api.EDef:
		return def(e.Name, e.Type, e.Body), clean(e.Body, i)
	}
	return e, false
}

// linked tells whether families, constructors and fields, each rightly made, name each other.
func linked(l []api.Entry) bool {
	for i, e := range l {
		for j, n := range e.Cons {
			if n >= len(l) || l[n].Kind != api.ECon || l[n].Of != i || l[n].Place != j {
				return false
			}
		}
		if len(e.Fields) > 0 && (e.Inds > 0 || len(e.Cons) != 1 || e.Pars+len(e.Fields) != outermost(l[i+1].Type)) {
			return false
		}
		for j, n := range e.Fields {
			if n >= len(l) || l[n].Kind != api.EProj || l[n].Of != i || l[n].Place != j {
				return false
			}
		}
		var owned []int
		switch e.Kind {
		case api.ECon:
			owned = l[e.Of].Cons
		case api.EProj:
			owned = l[e.Of].Fields
		default:
			continue
		}
		if e.Place < 0 || e.Place >= len(owned) || owned[e.Place] != i {
			return false
		}
	}
	return true
}

// otherInts are numbers that might stand where n does.
func otherInts(n int) []int {
	return []int{-1, 0, 1, 2, 3, 4, 8, n - 1, n + 1, api.MaxTele, api.MaxTele + 1, api.MaxSig, math.MaxInt, math.MinInt, math.MaxInt - 1}
}

// otherLists are lists that might stand where given does, in entry i.
func otherLists(i int, given []int) [][]int {
	l := [][]int{nil, {}, {0}, {-1}, {i}, {i + 1}, {i + 2}, {i + 1, i + 2}, {i + 1, i + 1}, {i + 2, i + 3}, {i + 1, i + 3}, {i + 2, i + 1}, {math.MaxInt}, {math.MinInt}, from(i+1, 3), from(i+1, api.MaxCons), from(i+1, api.MaxCons+1), from(i+2, 40), append(slices.Clone(given), i+1+len(given)), append(slices.Clone(given), 0)}
	if len(given) > 0 {
		l = append(l, given[1:], given[:len(given)-1])
	}
	return l
}

// otherTerms are terms that might stand where one does, in entry i.
func otherTerms(l []api.Entry, i int, x api.Term) []api.Term {
	own := term.Const(i)
	all := append(unshaped(), api.Term{}, api.Term{Sub: terms()}, set, term.Sort(1), term.Sort(7), v(0), term.Free(0), own, term.Const(i+1), term.Elim(i, 0), term.Elim(i+1, 0), term.Const(0), fn(own, set), fn(set, own), fn(set, v(0), own), fn(set, v(0), term.Sort(1)))
	for _, e := range l {
		all = append(all, e.Type)
	}
	// What it is, but for a little.
	return append(all, fn(set, x), fn(x, x), inner(x, set), inner(x, v(40)), inner(x, term.Free(3)), inner(x, own), result(x, func(r api.Term) api.Term { return term.App(r, set) }), result(x, func(r api.Term) api.Term { return fn(set, r) }), result(x, func(r api.Term) api.Term {
		if r.Kind == api.KApp {
			return r.Sub[0]
		}
		return set
	}), result(x, func(r api.Term) api.Term { return swapped(r) }), result(x, func(r api.Term) api.Term { return replaced(r, v(0)) }))
}

// inner puts a term in the place of the first type of functions' own type.
func inner(x, by api.Term) api.Term {
	if x.Kind == api.KPi && len(x.Sub) == 2 {
		return term.Pi(by, x.Sub[1])
	}
	return by
}

// result makes something of what stands beneath all types of functions.
func result(x api.Term, of func(api.Term) api.Term) api.Term {
	if x.Kind == api.KPi && len(x.Sub) == 2 {
		return term.Pi(x.Sub[0], result(x.Sub[1], of))
	}
	return of(x)
}

// swapped has the last two arguments in each other's places.
func swapped(x api.Term) api.Term {
	head, args := term.Spine(x)
	if n := len(args); n > 1 {
		args[n-2], args[n-1] = args[n-1], args[n-2]
	}
	return term.Apply(head, args...)
}

// replaced has another first argument.
func replaced(x, by api.Term) api.Term {
	head, args := term.Spine(x)
	if len(args) > 0 {
		args[0] = by
	}
	return term.Apply(head, args...)
}

// otherEntries are entries that might stand where entry i does.
func otherEntries(l []api.Entry, i int) []api.Entry {
	var all []api.Entry
	with := func(change func(e *api.Entry)) {
		e := l[i]
		change(&e)
		all = append(all, e)
	}
	for _, s := range []string{"", "Set", "data", "a b", "1a", "a1", "_", "_a", "é", "\xff", strings.Repeat("a", api.MaxName), strings.Repeat("a", api.MaxName+1), l[0].Name, l[len(l)-1].Name} {
		with(func(e *api.Entry) { e.Name = s })
	}
	for _, n := range []int{-1, 0, 1, 2, 3, 4, 5, 6, math.MaxInt, math.MinInt} {
		with(func(e *api.Entry) { e.Kind = n })
	}
	for _, at := range []func(e *api.Entry) *int{func(e *api.Entry) *int { return &e.Of }, func(e *api.Entry) *int { return &e.Place }, func(e *api.Entry) *int { return &e.Pars }, func(e *api.Entry) *int { return &e.Inds }, func(e *api.Entry) *int { return &e.Level }} {
		for _, n := range otherInts(*at(&l[i])) {
			with(func(e *api.Entry) { *at(e) = n })
		}
	}
	for _, at := range []func(e *api.Entry) *[]int{func(e *api.Entry) *[]int { return &e.Cons }, func(e *api.Entry) *[]int { return &e.Fields }} {
		for _, n := range otherLists(i, *at(&l[i])) {
			with(func(e *api.Entry) { *at(e) = n })
		}
	}
	for _, at := range []func(e *api.Entry) *api.Term{func(e *api.Entry) *api.Term { return &e.Type }, func(e *api.Entry) *api.Term { return &e.Body }} {
		for _, x := range otherTerms(l, i, *at(&l[i])) {
			with(func(e *api.Entry) { *at(e) = x })
		}
	}
	if e := l[i]; e.Kind == api.EData { // parameters and indices in another way
		for pars := range 4 {
			with(func(e *api.Entry) { e.Pars, e.Inds = pars, e.Pars+e.Inds-pars })
		}
	}
	return append(all, l...)
}

// TestFormedOthers asks each signature with one entry of it otherwise, and with entries left out, doubled and moved.
func TestFormedOthers(t *testing.T) { // P12.1
	var counted [2]int
	ask := func(l []api.Entry) {
		want := wanted(l)
		if got := Formed(l); got != want {
			t.Fatalf("%v, not %v: %s", got, want, toldAll(l))
		}
		if want {
			counted[1]++
		} else {
			counted[0]++
		}
	}
	for _, l := range [][]api.Entry{world(), numbers(), world()[:8], world()[:12], {world()[none]}, around(2)} {
		ask(l)
		for i := range l {
			for _, e := range otherEntries(l, i) {
				ask(slices.Concat(l[:i], []api.Entry{e}, l[i+1:]))
			}
			ask(l[:i])
			ask(l[i:])
			ask(slices.Delete(slices.Clone(l), i, i+1))
			ask(slices.Insert(slices.Clone(l), i, l[i]))
			ask(slices.Insert(slices.Clone(l), i, def("new", set, set)))
			for j := range l {
				moved := slices.Clone(l)
				moved[i], moved[j] = moved[j], moved[i]
				ask(moved)
			}
		}
	}
	if counted[0] < 1000 || counted[1] < 100 {
		t.Errorf("formed %d, not formed %d", counted[1], counted[0])
	}
}

// familyOf is a family with so many parameters and indices.
func familyOf(pars, inds, types int) api.Entry { return data("D", pars, inds, pis(types, set)) }

// simple is a family with so many constructors.
func simple(n int) []api.Entry {
	l := []api.Entry{data("D", 0, 0, set, from(1, n)...)}
	for i := range n {
		l = append(l, con("c"+string(rune('a'+i)), 0, i, 0, k(0)))
	}
	return l
}

// lone is a family of so many parameters with one constructor of so many types in all.
func lone(pars, types int) []api.Entry {
	return []api.Entry{data("D", pars, 0, pis(pars, set), 1), con("c", 0, 0, pars, pis(types, k(0, downFrom(types, pars)...)))}
}

// recordOf is a record of so many parameters and fields.
func recordOf(pars, fields int) []api.Entry {
	l := lone(pars, pars+fields)
	l[0].Fields = from(2, fields)
	for i := range fields {
		l = append(l, field("f"+string(rune('a'+i)), 0, i, pars, pis(pars, fn(k(0, downFrom(pars, pars)...), set))))
	}
	return l
}

// TestFormedEdges asks the limits, each with what is just within, and with one more.
func TestFormedEdges(t *testing.T) { // P12.1
	most := api.MaxTele
	for i, each := range []struct {
		l    []api.Entry
		want bool
	}{
		{defs(api.MaxSig), true},
		{defs(api.MaxSig + 1), false},
		{defs(api.MaxSig + 2), false},
		{slices.Repeat(defs(1), 5000), false},
		{[]api.Entry{familyOf(most, 0, most)}, true},
		{[]api.Entry{familyOf(0, most, most)}, true},
		{[]api.Entry{familyOf(10, most-10, most)}, true},
		{[]api.Entry{familyOf(most+1, 0, most+1)}, false},
		{[]api.Entry{familyOf(0, most+1, most+1)}, false},
		{[]api.Entry{familyOf(most, 1, most+1)}, false},
		{[]api.Entry{familyOf(1, most, most+1)}, false},
		{[]api.Entry{familyOf(10, most-9, most+1)}, false},
		{[]api.Entry{familyOf(-1, 3, 2)}, false},
		{[]api.Entry{familyOf(3, -1, 2)}, false},
		{[]api.Entry{familyOf(-1, 1, 0)}, false},
		{[]api.Entry{familyOf(1, -1, 0)}, false},
		{[]api.Entry{familyOf(math.MaxInt, math.MinInt+1, 0)}, false},
		{[]api.Entry{familyOf(math.MinInt, math.MinInt, 0)}, false},
		{[]api.Entry{familyOf(math.MaxInt, math.MaxInt, 0)}, false},
		{[]api.Entry{familyOf(1, 1, 1)}, false},
		{[]api.Entry{familyOf(1, 1, 3)}, false},
		{[]api.Entry{familyOf(0, 0, 1)}, false},
		{simple(0), true},
		{simple(api.MaxCons), true},
		{simple(api.MaxCons + 1), false},
		{simple(api.MaxCons + 9), false},
		{lone(0, most), true},
		{lone(0, most+1), false},
		{lone(5, most), true},
		{lone(5, most+1), false},
		{lone(most, most), true},
		{lone(most, most+1), false},
		{lone(5, 5), true},
		{lone(5, 4), false},
		{lone(1, 0), false},
		{recordOf(0, most), true},
		{recordOf(0, most+1), false},
		{recordOf(most-1, 1), true},
		{recordOf(most, 1), false},
		{recordOf(7, most-7), true},
		{recordOf(2, 0), true},
	} {
		if got := Formed(each.l); got != each.want || wanted(each.l) != each.want {
			t.Errorf("%d: %v", i, got)
		}
	}
}

// with gives world with an entry changed.
func with(i int, change func(e *api.Entry)) []api.Entry {
	l := Copy(world())
	change(&l[i])
	return l
}

// TestFormedNot asks one wrong thing after the other, of the entry of each kind.
func TestFormedNot(t *testing.T) { // P12.1
	typed := func(i int, x api.Term) []api.Entry { return with(i, func(e *api.Entry) { e.Type = x }) }
	family := fn(v(0), set)
	cases := map[string][]api.Entry{
		"a name that is none":                  with(one, func(e *api.Entry) { e.Name = "1" }),
		"a keyword":                            with(nat, func(e *api.Entry) { e.Name = "record" }),
		"a name too long":                      with(1, func(e *api.Entry) { e.Name = strings.Repeat("a", api.MaxName+1) }),
		"a name twice":                         with(10, func(e *api.Entry) { e.Name = "zero" }),
		"no kind":                              with(one, func(e *api.Entry) { e.Kind = 0 }),
		"another kind":                         with(one, func(e *api.Entry) { e.Kind = 5 }),
		"a family that names itself":           typed(vec, fn(set, k(vec), set)),
		"a family that names a later one":      typed(vec, fn(set, k(tree), set)),
		"a family's named variable":            typed(vec, fn(set, term.Free(1), set)),
		"a family's loose variable":            typed(vec, fn(set, v(1), set)),
		"a family in another universe":         typed(vec, fn(set, k(nat), term.Sort(1))),
		"a family around no universe":          typed(vec, fn(set, k(nat), k(nat))),
		"a level":                              with(vec, func(e *api.Entry) { e.Level = 1 }),
		"a constructor that names itself":      typed(2, fn(k(2), k(nat))),
		"a constructor that names a later":     typed(1, fn(k(2), k(nat))),
		"a constructor's named variable":       typed(2, fn(term.Free(0), k(nat))),
		"a constructor's loose variable":       typed(2, fn(v(0), k(nat))),
		"a result of another family":           typed(5, fn(set, k(nat), v(1), k(nat))),
		"a result that is a variable":          typed(7, fn(set, family, v(1), v(2))),
		"a result whose parameter is none":     typed(5, fn(set, k(nat), v(1), k(vec, k(nat), v(1)))),
		"a result with another variable":       typed(5, fn(set, set, v(1), k(vec, v(1), k(1)))),
		"parameters in another order":          typed(7, fn(set, set, k(tree, v(0), v(1)))),
		"an index too few":                     typed(4, fn(set, k(vec, v(0)))),
		"an index too many":                    typed(4, fn(set, k(vec, v(0), k(1), k(1)))),
		"a constructor of no family":           with(2, func(e *api.Entry) { e.Of = one }),
		"a constructor of another":             with(2, func(e *api.Entry) { e.Of = vec }),
		"a constructor of itself":              with(2, func(e *api.Entry) { e.Of = 2 }),
		"a constructor that is not among":      with(nat, func(e *api.Entry) { e.Cons = []int{1} }),
		"other parameters":                     with(4, func(e *api.Entry) { e.Pars = 0 }),
		"another place":                        with(2, func(e *api.Entry) { e.Place = 0 }),
		"constructors turned about":            with(nat, func(e *api.Entry) { e.Cons = []int{2, 1} }),
		"constructors that are further":        with(nat, func(e *api.Entry) { e.Cons = []int{2, 3} }),
		"constructors that are none":           with(none, func(e *api.Entry) { e.Cons = []int{22} }),
		"fields turned about":                  with(sigma, func(e *api.Entry) { e.Fields = []int{11, 10} }),
		"a field too few":                      with(sigma, func(e *api.Entry) { e.Fields = []int{10} }),
		"no fields, and two that are":          with(sigma, func(e *api.Entry) { e.Fields = nil }),
		"a field too many":                     with(sigma, func(e *api.Entry) { e.Fields = []int{10, 11, 12} }),
		"a field that is a constructor":        with(nat, func(e *api.Entry) { e.Cons, e.Fields = []int{1}, []int{2} }),
		"a field's place":                      with(11, func(e *api.Entry) { e.Place = 0 }),
		"a field of no record":                 with(11, func(e *api.Entry) { e.Of = tree }),
		"a field of a constructor":             with(11, func(e *api.Entry) { e.Of = 9 }),
		"a field of itself":                    with(11, func(e *api.Entry) { e.Of = 11 }),
		"a field's parameters":                 with(11, func(e *api.Entry) { e.Pars = 1 }),
		"a field of another family":            typed(10, fn(set, family, k(tree, v(1), v(0)), v(2))),
		"a field whose parameters differ":      typed(10, fn(set, family, k(sigma, v(1), v(1)), v(2))),
		"a field with types too few":           typed(10, fn(set, family, k(sigma, v(1), v(0)))),
		"a field that names a later one":       typed(10, fn(set, family, k(sigma, v(1), v(0)), k(11))),
		"a definition that names itself":       with(one, func(e *api.Entry) { e.Body = k(one) }),
		"a definition whose type names it":     typed(one, k(one)),
		"a definition that names a later one":  with(one, func(e *api.Entry) { e.Body = k(same) }),
		"a definition's named variable":        with(one, func(e *api.Entry) { e.Body = term.Free(0) }),
		"a definition's loose variable":        with(one, func(e *api.Entry) { e.Body = v(0) }),
		"a definition without a body":          with(one, func(e *api.Entry) { e.Body = api.Term{} }),
		"a definition without a type":          typed(one, api.Term{}),
		"a body that is not shaped":            with(one, func(e *api.Entry) { e.Body = endless() }),
		"a type that is not shaped":            typed(nat, v(-1)),
		"constructors of a definition":         with(one, func(e *api.Entry) { e.Cons = []int{0} }),
		"a family's body":                      with(nat, func(e *api.Entry) { e.Body = set }),
		"a family's body that is not shaped":   with(nat, func(e *api.Entry) { e.Body = api.Term{N: 1} }),
		"a family's Of":                        with(vec, func(e *api.Entry) { e.Of = 1 }),
		"a family's Place":                     with(vec, func(e *api.Entry) { e.Place = 1 }),
		"a constructor's Inds":                 with(4, func(e *api.Entry) { e.Inds = 1 }),
		"a constructor's Level":                with(25, func(e *api.Entry) { e.Level = 3 }),
		"a constructor's Cons":                 with(4, func(e *api.Entry) { e.Cons = []int{5} }),
		"a constructor's Fields":               with(9, func(e *api.Entry) { e.Fields = []int{10, 11} }),
		"a constructor's Body":                 with(4, func(e *api.Entry) { e.Body = set }),
		"a field's Inds":                       with(10, func(e *api.Entry) { e.Inds = 1 }),
		"a field's Level":                      with(10, func(e *api.Entry) { e.Level = 1 }),
		"a field's Cons":                       with(10, func(e *api.Entry) { e.Cons = []int{9} }),
		"a field's Fields":                     with(10, func(e *api.Entry) { e.Fields = []int{11} }),
		"a field's Body":                       with(10, func(e *api.Entry) { e.Body = set }),
		"a definition's Of":                    with(one, func(e *api.Entry) { e.Of = 1 }),
		"a definition's Place":                 with(one, func(e *api.Entry) { e.Place = -1 }),
		"a definition's Pars":                  with(same, func(e *api.Entry) { e.Pars = 1 }),
		"a definition's Inds":                  with(same, func(e *api.Entry) { e.Inds = 1 }),
		"a definition's Level":                 with(same, func(e *api.Entry) { e.Level = 1 }),
		"a definition's Fields":                with(same, func(e *api.Entry) { e.Fields = []int{0} }),
		"a field without its record":           {field("f", 0, 0, 0, fn(k(0), set))},
		"a field without its record, behind":   append(numbers(), field("f", 0, 0, 0, fn(k(0), set))),
		"a constructor without its family":     {con("c", 0, 0, 0, k(0))},
		"a constructor behind another's":       append(numbers(), con("c", 0, 2, 0, k(0))),
		"Fields beside indices":                {{Kind: api.EData, Name: "D", Type: fn(set, set), Inds: 1, Cons: []int{1}, Fields: []int{2}}, con("c", 0, 0, 0, fn(set, k(0, v(0)))), field("f", 0, 0, 0, fn(k(0, set), set))},
		"Fields without a constructor":         {{Kind: api.EData, Name: "D", Type: set, Fields: []int{1}}, field("f", 0, 0, 0, fn(k(0), set))},
		"Fields beside two constructors":       {{Kind: api.EData, Name: "D", Type: set, Cons: []int{1, 2}, Fields: []int{3}}, con("c", 0, 0, 0, fn(set, k(0))), con("d", 0, 1, 0, fn(set, k(0))), field("f", 0, 0, 0, fn(k(0), set))},
		"constructors and places turned about": {data("D", 0, 0, set, 2, 1), con("c", 0, 1, 0, k(0)), con("d", 0, 0, 0, k(0))},
		"constructors behind a definition":     {data("D", 0, 0, set, 2), def("x", set, set), con("c", 0, 0, 0, k(0))},
		"fields and places turned about":       {record("D", 0, set, 1, 3, 2), con("c", 0, 0, 0, fn(set, set, k(0))), field("f", 0, 1, 0, fn(k(0), set)), field("g", 0, 0, 0, fn(k(0), set))},
		"fields behind a definition":           {record("D", 0, set, 1, 3), con("c", 0, 0, 0, fn(set, k(0))), def("x", set, set), field("f", 0, 0, 0, fn(k(0), set))},
		"a constructor that is a family":       {data("D", 0, 0, set, 1), data("E", 0, 0, set)},
		"a constructor that is a definition":   {data("D", 0, 0, set, 1), def("x", set, set)},
		"a constructor that is a field":        {record("D", 0, set, 1, 1), field("f", 0, 0, 0, fn(k(0), set))},
		"a field that is a definition":         {record("D", 0, set, 1, 2), con("c", 0, 0, 0, fn(set, k(0))), def("x", set, set)},
		"a constructor without its types":      {data("D", api.MaxTele, 0, pis(api.MaxTele, set), 1), con("c", 0, 0, api.MaxTele, k(0, slices.Repeat(terms(set), api.MaxTele)...))},
		"a field without its types":            {record("D", 1, fn(set, set), 1, 2), con("c", 0, 0, 1, fn(set, set, k(0, v(1)))), field("f", 0, 0, 1, k(0, set))},
		"a constructor of a later family":      {con("c", 1, 0, 0, set), data("D", 0, 0, set, 0)},
		"one of a later family without shape":  {con("c", 1, 0, -1, set), {Kind: api.EData, Name: "D", Type: set, Pars: -1, Cons: []int{0}}},
		"a field of a later record":            {field("f", 1, 0, -1, fn(set, set)), {Kind: api.EData, Name: "D", Type: set, Pars: -1, Fields: []int{0}}},
	}
	for what, l := range cases {
		if wanted(l) {
			t.Errorf("wanted: %s", what)
		}
		if Formed(l) {
			t.Errorf("%s", what)
		}
	}
}

// TestFormedYet asks what might be taken for wrong and is not.
func TestFormedYet(t *testing.T) { // P12.1
	for what, l := range map[string][]api.Entry{
		"lists without elements":                with(one, func(e *api.Entry) { e.Cons, e.Fields = []int{}, []int{} }),
		"a body's list without elements":        with(nat, func(e *api.Entry) { e.Body.Sub = terms() }),
		"a type that is none of its universe":   with(one, func(e *api.Entry) { e.Type = term.Sort(5) }),
		"a body of another type":                with(one, func(e *api.Entry) { e.Body = set }),
		"a constructor that names an earlier":   with(2, func(e *api.Entry) { e.Type = fn(k(1), k(nat)) }),
		"an index that names the family":        with(4, func(e *api.Entry) { e.Type = fn(set, k(vec, v(0), k(vec))) }),
		"a field of more types than the record": with(worst+2, func(e *api.Entry) { e.Type = fn(k(worst), pis(60, set)) }),
		"a family to the left":                  with(2, func(e *api.Entry) { e.Type = fn(fn(k(nat), set), k(nat)) }),
		"an eliminator of the family itself":    with(2, func(e *api.Entry) { e.Type = fn(term.Elim(nat, 0), k(nat)) }),
		"a name of MaxName bytes":               with(2, func(e *api.Entry) { e.Name = strings.Repeat("é", api.MaxName/2) }),
		"a body that is great":                  with(one, func(e *api.Entry) { e.Body = bush(api.MaxNodes, set) }),
	} {
		if !Formed(l) {
			t.Errorf("%s", what)
		}
	}
}
