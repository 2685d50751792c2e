package iota

import (
	"math"
	"slices"
	"strconv"
	"testing"

	"scholium/api"
	"scholium/sign"
	"scholium/term"
)

// bush is a term of n nodes that is not deep, its ends t, or eliminators.
func bush(n int, t api.Term) api.Term {
	switch n {
	case 1:
		return t
	case 2:
		return term.Elim(0, 0)
	}
	return term.App(bush((n-1)/2, t), bush(n-1-(n-1)/2, t))
}

// endless is a term that stands within its own Subs.
func endless() api.Term {
	t := term.Pi(set, set)
	t.Sub[0], t.Sub[1] = t, t
	return t
}

// unshaped are terms that are not shaped.
func unshaped() []api.Term {
	node := func(kind, n int, subs ...api.Term) api.Term { return api.Term{Kind: kind, N: n, Sub: subs} }
	return terms(api.Term{}, node(9, 0), node(-1, 0, set, set), node(0, 1), v(-1), v(api.MaxFree+1), node(api.KVar, 0, set), term.Sort(api.MaxLevel+1), term.Sort(-1), term.Const(math.MaxInt), term.Free(math.MinInt),
		node(api.KElim, 0), node(api.KPi, 0), node(api.KApp, 0, set, set, set), fn(set, v(-1)), bush(api.MaxNodes+1, set), pis(api.MaxDepth, set), endless())
}

// broken are signatures that are not formed.
func broken() [][]api.Entry {
	with := func(i int, change func(e *api.Entry)) []api.Entry {
		l := sign.Copy(world())
		change(&l[i])
		return l
	}
	return [][]api.Entry{
		{{}}, {{Kind: 9, Name: "x", Type: set}}, world()[:suc], world()[:fst], append(world(), def("one", set, set)), append(world(), def("x", set, api.Term{})),
		append(world(), make([]api.Entry, 5)...), make([]api.Entry, api.MaxSig+1),
		with(nat, func(e *api.Entry) { e.Cons = []int{zero} }),
		with(nat, func(e *api.Entry) { e.Body = api.Term{Kind: 9} }), // what a copy would mend
		with(nat, func(e *api.Entry) { e.Kind = 0 }),
		with(suc, func(e *api.Entry) { e.Place = 0 }),
		with(suc, func(e *api.Entry) { e.Kind = 5 }),
		with(vec, func(e *api.Entry) { e.Pars = -1 }),
		with(vec, func(e *api.Entry) { e.Inds = math.MaxInt }),
		with(vcons, func(e *api.Entry) { e.Type = k(vec) }),
		with(fst, func(e *api.Entry) { e.Place = 1 }),
		with(many, func(e *api.Entry) { e.Name = "data" }),
		with(most, func(e *api.Entry) { e.Type = endless() }),
	}
}

// calls asks each call with the same things.
func calls(l []api.Entry, d, level, c int, args, own []api.Term, motive api.Term) map[string]api.Errno {
	told := map[string]api.Errno{}
	_, told["New"] = New(l)
	_, told["Args"] = Args(l, d)
	_, told["Step"] = Step(l, d, level, c, args, own)
	_, told["Field"] = Field(l, c, own)
	_, told["Motive"] = Motive(l, d, level, args)
	_, told["Method"] = Method(l, c, args, motive)
	_, told["Type"] = Type(l, d, level)
	return told
}

// TestNotFormed asks that what is not formed is ErrShape, whatever else comes.
func TestNotFormed(t *testing.T) { // P13.1, P13.2
	for i, l := range broken() {
		for _, d := range append(outside(l), nat, vec, one) {
			for _, level := range []int{0, -1, api.MaxLevel + 1} {
				for _, c := range []int{-1, suc, vcons, fst, len(l)} {
					for _, args := range [][]api.Term{nil, terms(set), terms(x(1), x(2), x(3)), terms(endless())} {
						for call, e := range calls(l, d, level, c, args, args, set) {
							if e != api.ErrShape {
								t.Fatalf("%d: %s, %v", i, call, e)
							}
						}
					}
				}
			}
		}
		if r, e := New(l); r != nil || e != api.ErrShape {
			t.Errorf("%d: rules, %v", i, e)
		}
		got, e := Type(l, nat, 0)
		errs(t, "Type", got, e, api.ErrShape)
		got, e = Step(l, nat, 0, zero, terms(x(1), x(2), x(3)), nil)
		errs(t, "Step", got, e, api.ErrShape)
		got, e = Method(l, zero, nil, x(1))
		errs(t, "Method", got, e, api.ErrShape)
		got, e = Motive(l, nat, 0, nil)
		errs(t, "Motive", got, e, api.ErrShape)
		got, e = Field(l, fst, terms(x(1), x(2)))
		errs(t, "Field", got, e, api.ErrShape)
		if n, e := Args(l, nat); n != 0 || e != api.ErrShape {
			t.Errorf("Args: %d, %v", n, e)
		}
	}
}

// TestNone asks for entries that are not of the kind, ahead of lists that are not as they must be.
func TestNone(t *testing.T) { // P13.1, P13.2
	l := world()
	r, _ := New(l)
	for _, list := range [][]api.Term{nil, terms(x(0)), terms(x(0), x(1)), terms(x(0), x(1), x(2)), terms(x(0), x(1), x(2), x(3)), unshaped()} {
		for _, n := range append(outside(l), from(end)...) {
			kind := 0
			if n >= 0 && n < end {
				kind = l[n].Kind
			}
			if kind != api.EData {
				got, e := Motive(l, n, 0, list)
				errs(t, "Motive", got, e, api.ErrNone)
				got, e = Type(l, n, 0)
				errs(t, "Type", got, e, api.ErrNone)
				got, e = Step(l, n, 0, zero, list, list)
				errs(t, "Step", got, e, api.ErrNone)
				got, e = r.Step(n, 0, zero, list, list)
				errs(t, "rules' Step", got, e, api.ErrNone)
				if n, e := Args(l, n); n != 0 || e != api.ErrNone {
					t.Errorf("Args: %d, %v", n, e)
				}
			}
			if kind != api.ECon {
				got, e := Method(l, n, list, v(-1))
				errs(t, "Method", got, e, api.ErrNone)
			}
			if kind != api.EProj {
				got, e := Field(l, n, list)
				errs(t, "Field", got, e, api.ErrNone)
				got, e = r.Field(n, list)
				errs(t, "rules' Field", got, e, api.ErrNone)
			}
		}
	}
}

// TestOfAnother asks each family's eliminator at each entry.
func TestOfAnother(t *testing.T) { // P13.1
	l := world()
	r, _ := New(l)
	for d := range l {
		for _, c := range append(outside(l), from(end)...) {
			want := api.ErrNone
			if slices.Contains(l[d].Cons, c) {
				want = api.ErrShape
			}
			for _, list := range [][]api.Term{nil, unshaped()} {
				got, e := Step(l, d, 0, c, list, list)
				errs(t, l[d].Name, got, e, want)
				got, e = r.Step(d, 0, c, list, list)
				errs(t, l[d].Name, got, e, want)
			}
		}
	}
}

// from are the numbers below n.
func from(n int) []int {
	var l []int
	for i := range n {
		l = append(l, i)
	}
	return l
}

// TestLevel asks for universes that there are, and that there are not.
func TestLevel(t *testing.T) { // P13.1, P13.2
	l := world()
	r, _ := New(l)
	args := terms(x(0), x(1), x(2), x(3))
	for _, level := range []int{math.MinInt, math.MinInt32, -2, -1, 0, 1, 2, 6, 7, 8, 9, api.MaxFree, math.MaxInt32, math.MaxInt} {
		want := api.ErrNone
		if level >= 0 && level <= api.MaxLevel {
			want = api.OK
		}
		told := map[string]api.Errno{}
		_, told["Type"] = Type(l, vec, level)
		_, told["Motive"] = Motive(l, vec, level, terms(x(0)))
		_, told["Step"] = Step(l, vec, level, vnil, args, nil)
		_, told["rules' Step"] = r.Step(vec, level, vnil, args, nil)
		for call, e := range told {
			if e != want {
				t.Errorf("%s, %d: %v", call, level, e)
			}
		}
		if want == api.ErrNone { // ahead of lists that are not as they must be
			got, e := Step(l, vec, level, vnil, nil, unshaped())
			errs(t, "Step", got, e, api.ErrNone)
			got, e = Motive(l, vec, level, nil)
			errs(t, "Motive", got, e, api.ErrNone)
		}
	}
}

// frees are so many named variables.
func frees(n int) []api.Term {
	l := terms()
	for i := range n {
		l = append(l, x(i))
	}
	return l
}

// TestHowMany asks each entry with lists of all lengths.
func TestHowMany(t *testing.T) { // P13.1, P13.2
	l := world()
	r, _ := New(l)
	wrong := func(right bool) api.Errno {
		if right {
			return api.OK
		}
		return api.ErrShape
	}
	for n, entry := range l {
		for i := range 9 {
			switch entry.Kind {
			case api.EData:
				if _, e := Motive(l, n, 0, frees(i)); e != wrong(i == entry.Pars) {
					t.Errorf("Motive, %s, %d: %v", entry.Name, i, e)
				}
			case api.EProj:
				_, e := Field(l, n, frees(i))
				_, by := r.Field(n, frees(i))
				if e != wrong(i == 2) || by != e {
					t.Errorf("Field, %s, %d: %v, %v", entry.Name, i, e, by)
				}
			case api.ECon:
				if _, e := Method(l, n, frees(i), set); e != wrong(i == entry.Pars) {
					t.Errorf("Method, %s, %d: %v", entry.Name, i, e)
				}
				for j := range 9 {
					want := wrong(i == entry.Pars+1+len(l[entry.Of].Cons) && j == outermost(entry.Type)-entry.Pars)
					_, e := Step(l, entry.Of, 0, n, frees(i), frees(j))
					_, by := r.Step(entry.Of, 0, n, frees(i), frees(j))
					if e != want || by != e {
						t.Errorf("Step, %s, %d, %d: %v, %v", entry.Name, i, j, e, by)
					}
				}
			}
		}
	}
}

// TestUnshaped puts terms that are not shaped in each place.
func TestUnshaped(t *testing.T) { // P13.1, P13.2
	l := world()
	r, _ := New(l)
	for _, wrong := range unshaped() {
		for i := range 4 {
			args := frees(4)
			args[i] = wrong
			got, e := Step(l, tree, 0, sup, args, frees(2))
			errs(t, "Step", got, e, api.ErrShape)
			got, e = r.Step(tree, 0, sup, args, frees(2))
			errs(t, "rules' Step", got, e, api.ErrShape)
			got, e = Step(l, vec, 0, vnil, args, nil) // where it comes to none of them, too
			errs(t, "Step of vnil", got, e, api.ErrShape)
		}
		for i := range 2 {
			two := frees(2)
			two[i] = wrong
			got, e := Step(l, tree, 0, sup, frees(4), two)
			errs(t, "Step", got, e, api.ErrShape)
			got, e = Step(l, sigma, 0, pair, frees(4), two)
			errs(t, "Step of pair", got, e, api.ErrShape)
			for _, p := range []int{fst, snd} {
				got, e = Field(l, p, two)
				errs(t, "Field", got, e, api.ErrShape)
				got, e = r.Field(p, two)
				errs(t, "rules' Field", got, e, api.ErrShape)
			}
			got, e = Motive(l, tree, 0, two)
			errs(t, "Motive", got, e, api.ErrShape)
			got, e = Method(l, sup, two, set)
			errs(t, "Method", got, e, api.ErrShape)
		}
		got, e := Method(l, sup, frees(2), wrong)
		errs(t, "Method", got, e, api.ErrShape)
		got, e = Method(l, zero, nil, wrong)
		errs(t, "Method of zero", got, e, api.ErrShape)
	}
}

// TestNilRules asks nil rules, and those of no entries.
func TestNilRules(t *testing.T) { // P13.1
	var r *Rules
	zeroRules, none := &Rules{}, func() *Rules { r, _ := New(nil); return r }()
	for _, n := range []int{math.MinInt, -1, 0, 1, math.MaxInt} {
		for _, level := range []int{-1, 0, 8} {
			for _, list := range [][]api.Term{nil, terms(x(0), x(1), x(2)), unshaped()} {
				got, e := r.Step(n, level, n+1, list, list)
				errs(t, "nil Step", got, e, api.ErrShape)
				got, e = r.Field(n, list)
				errs(t, "nil Field", got, e, api.ErrShape)
				for _, r := range []*Rules{zeroRules, none} {
					got, e := r.Step(n, level, n+1, list, list)
					errs(t, "Step of no entries", got, e, api.ErrNone)
					got, e = r.Field(n, list)
					errs(t, "Field of no entries", got, e, api.ErrNone)
				}
				for call, e := range calls(nil, n, level, n+1, list, list, set) {
					if call == "New" && e != api.OK || call != "New" && e != api.ErrNone {
						t.Errorf("%s of nothing: %v", call, e)
					}
				}
			}
		}
	}
}

// indexed is a family with so many parameters, constructors without arguments, and indices.
func indexed(pars, cons, inds int) []api.Entry {
	l := []api.Entry{data("D", pars, inds, pis(pars+inds, set))}
	args := terms()
	for i := range pars {
		args = append(args, v(pars-1-i))
	}
	for i := range cons {
		l[0].Cons = append(l[0].Cons, i+1)
		l = append(l, con("c"+strconv.Itoa(i), 0, i, pars, pis(pars, k(0, append(slices.Clone(args), slices.Repeat(terms(set), inds)...)...))))
	}
	return l
}

// several is a family with one constructor of so many arguments, of which so many are recursive.
func several(plain, recs int) []api.Entry {
	types := terms()
	for i := range plain + recs {
		if i%2 == 0 && recs > 0 || plain == 0 {
			types, recs = append(types, k(0)), recs-1
		} else {
			types, plain = append(types, set), plain-1
		}
	}
	return []api.Entry{data("D", 0, 0, set, 1), con("c", 0, 0, 0, fn(append(types, k(0))...))}
}

// TestMaxTele asks for as many types as there may be, and for one more.
func TestMaxTele(t *testing.T) { // P13.2
	told := func(e api.Errno, types int) string { return e.Error() + ", " + strconv.Itoa(types) }
	check := func(what string, got api.Term, e api.Errno, types int) {
		t.Helper()
		if types > api.MaxTele {
			errs(t, what+": "+told(e, types), got, e, api.ErrLong)
		} else if e != api.OK || outermost(got) != types {
			t.Errorf("%s: %s", what, told(e, types))
		}
	}
	for _, pars := range []int{0, 1, 7} {
		for inds := range api.MaxTele - pars + 1 {
			for _, cons := range []int{0, 1, 5, api.MaxCons} {
				l := indexed(pars, cons, inds)
				got, e := Motive(l, 0, 1, frees(pars))
				check("Motive", got, e, inds+1)
				got, e = Type(l, 0, 1)
				check("Type", got, e, pars+1+cons+inds+1)
			}
		}
	}
	for plain := range api.MaxTele + 1 {
		for recs := range api.MaxTele - plain + 1 {
			l := several(plain, recs)
			got, e := Method(l, 1, nil, x(0))
			check("Method", got, e, plain+2*recs)
			got, e = Type(l, 0, 0) // the method's types are within
			if long := plain+2*recs > api.MaxTele; long != (e == api.ErrLong) || !long && outermost(got) != 3 {
				t.Errorf("Type, %d and %d: %v", plain, recs, e)
			}
			own := frees(plain + recs)
			got, e = Step(l, 0, 0, 1, terms(x(50), x(51)), own) // no types at all
			want, _ := wantStep(l, 0, 0, 1, terms(x(50), x(51)), own)
			same(t, "Step", got, e, want)
		}
	}
}

// deep is a term of so many levels.
func deep(n int, t api.Term) api.Term {
	for range n - 1 {
		t = term.Lam(set, t)
	}
	return t
}

// tally counts what comes, and what does not.
type tally struct{ long, right int }

// hold asks that a call answers what is wanted.
func (c *tally) hold(t *testing.T, what string, got api.Term, e api.Errno, want api.Term, no api.Errno) {
	t.Helper()
	if no == api.OK {
		c.right++
		same(t, what, got, e, want)
	} else {
		c.long++
		errs(t, what, got, e, no)
	}
}

// sized are terms of about as many nodes, or levels, or with about as great a variable, as there may be in what comes.
func sized() [][]api.Term {
	var all [][]api.Term
	add := func(low, high int, made func(n int) api.Term) {
		l := terms()
		for n := low; n <= high; n++ {
			l = append(l, made(n))
		}
		all = append(all, l)
	}
	for _, part := range []int{1, 2, 3, 4} { // as often as it may stand there
		add((api.MaxNodes-36)/part, api.MaxNodes/part, func(n int) api.Term { return bush(n, set) })
	}
	add(api.MaxDepth-16, api.MaxDepth, func(n int) api.Term { return deep(n, set) })
	add(api.MaxFree-9, api.MaxFree, v)
	return all
}

// TestGreat puts one great term in each place, all others small.
func TestGreat(t *testing.T) { // P13.1, P13.2
	l := append(world(), def("x", set, set))
	r, _ := New(l)
	for _, row := range sized() {
		var step, motive, method tally
		for _, great := range row {
			for _, c := range []int{suc, vcons, pair, acc1, both, most} {
				d, pars := l[c].Of, l[c].Pars
				for i := range pars + 2 + len(l[d].Cons) + len(r.cons[c].Args) {
					all := frees(pars + 1 + len(l[d].Cons) + len(r.cons[c].Args))
					if i < len(all) {
						all[i] = great
					}
					args, own := all[:pars+1+len(l[d].Cons)], all[pars+1+len(l[d].Cons):]
					want, no := wantStep(l, d, 3, c, args, own)
					got, e := r.Step(d, 3, c, args, own)
					step.hold(t, l[c].Name, got, e, want, no)
					if i > pars {
						continue
					}
					want, no = wantMethod(l, c, args[:pars], args[pars])
					got, e = Method(l, c, args[:pars], args[pars])
					method.hold(t, l[c].Name, got, e, want, no)
					want, no = wantMotive(l, d, 3, args[:pars])
					got, e = Motive(l, d, 3, args[:pars])
					motive.hold(t, l[d].Name, got, e, want, no)
				}
			}
		}
		if step.right == 0 || step.long == 0 || method.right == 0 || motive.right == 0 {
			t.Errorf("%v, %v, %v", step, method, motive)
		}
	}
}

// TestEdge asks for what comes just shaped, and one node, level or number too great.
func TestEdge(t *testing.T) { // P13.1, P13.2
	l := world()
	few := frees(4)
	for what, each := range map[string]struct {
		of   func(n int) (api.Term, api.Errno)
		edge int // the greatest n
	}{
		"Step of zero": {func(n int) (api.Term, api.Errno) { return Step(l, nat, 0, zero, terms(x(0), bush(n, set), x(1)), nil) }, api.MaxNodes},
		"Step of suc": {func(n int) (api.Term, api.Errno) {
			return Step(l, nat, 0, suc, terms(bush(n, set), x(0), x(1)), few[:1])
		}, api.MaxNodes - 13},
		"suc's method": {func(n int) (api.Term, api.Errno) {
			return Step(l, nat, 0, suc, terms(x(0), x(1), bush(n, set)), few[:1])
		}, (api.MaxNodes - 12) / 2},
		"Field":  {func(n int) (api.Term, api.Errno) { return Field(l, snd, terms(x(0), bush(n, set))) }, api.MaxNodes},
		"Motive": {func(n int) (api.Term, api.Errno) { return Motive(l, vec, 0, terms(bush(n, set))) }, api.MaxNodes - 8},
		"Method": {func(n int) (api.Term, api.Errno) { return Method(l, zero, nil, bush(n, set)) }, api.MaxNodes - 2},
		"Step, deep": {func(n int) (api.Term, api.Errno) {
			return Step(l, nat, 0, suc, terms(deep(n, set), x(0), x(1)), few[:1])
		}, api.MaxDepth - 5},
		"Motive, deep": {func(n int) (api.Term, api.Errno) { return Motive(l, vec, 0, terms(deep(n, set))) }, api.MaxDepth - 4},
		"Method, deep": {func(n int) (api.Term, api.Errno) { return Method(l, zero, nil, deep(n, set)) }, api.MaxDepth - 1},
		"Step, lifted": {func(n int) (api.Term, api.Errno) {
			return Step(l, acc, 0, acc1, terms(x(0), x(1), x(2), v(n)), few[:2])
		}, api.MaxFree - 2},
		"Motive, lifted": {func(n int) (api.Term, api.Errno) { return Motive(l, vec, 0, terms(v(n))) }, api.MaxFree - 1},
		"Method, lifted": {func(n int) (api.Term, api.Errno) { return Method(l, suc, nil, v(n)) }, api.MaxFree - 2},
	} {
		if got, e := each.of(each.edge); e != api.OK || !term.Shaped(got) {
			t.Errorf("%s: %v", what, e)
		}
		want := api.ErrLong
		if what == "Step of zero" || what == "Field" { // it is no term itself
			want = api.ErrShape
		}
		got, e := each.of(each.edge + 1)
		errs(t, what, got, e, want)
	}
}

// TestNowhere asks that nothing is too great that what comes does not bear.
func TestNowhere(t *testing.T) { // P13.1, P13.2
	// A parameter beneath ten indices would be too deep, were the result's type told anew.
	l := append(indexed(1, 1, 10), def("x", set, set))
	for n := api.MaxDepth - 14; n <= api.MaxDepth; n++ {
		want, no := wantMethod(l, 1, terms(deep(n, set)), x(1))
		got, e := Method(l, 1, terms(deep(n, set)), x(1))
		(&tally{}).hold(t, strconv.Itoa(n), got, e, want, no)
		if (no == api.OK) != (n <= api.MaxDepth-2) {
			t.Errorf("%d: %v", n, no)
		}
	}
	// An argument ahead stands beneath binders only where it is named.
	l = append(numbers(), data("D", 0, 0, set, 4), con("c", 3, 0, 0, fn(k(nat), set, fn(k(nat), v(1), k(3)), k(3))))
	for n := api.MaxFree - 3; n <= api.MaxFree; n++ {
		got, e := Step(l, 3, 0, 4, terms(x(0), x(1)), terms(v(n), set, x(2)))
		same(t, "not named", got, e, app(x(1), v(n), set, x(2), lam(k(nat), set, elim(3, 0, x(0), x(1), app(x(2), v(1), v(0))))))
		want, no := wantStep(l, 3, 0, 4, terms(x(0), x(1)), terms(set, v(n), x(2)))
		got, e = Step(l, 3, 0, 4, terms(x(0), x(1)), terms(set, v(n), x(2)))
		(&tally{}).hold(t, "named", got, e, want, no)
		if (no == api.OK) != (n < api.MaxFree) {
			t.Errorf("%d: %v", n, no)
		}
	}
}

// greatTypes are signatures whose family, entry 3, has a constructor, or a type, with a great part.
func greatTypes(great api.Term) map[string][]api.Entry {
	flat, by := data("D", 0, 0, set, 4), data("D", 0, 1, fn(set, set), 4)
	two := data("D", 0, 0, set, 4, 5)
	made := func(place int, l ...api.Term) api.Entry {
		return con("c"+strconv.Itoa(place), 3, place, 0, fn(l...))
	}
	all := map[string][]api.Entry{
		"an argument":      {flat, made(0, great, k(3))},
		"a recursive one":  {flat, made(0, fn(great, k(3)), k(3))},
		"its index":        {by, made(0, k(3, great), k(3, set))},
		"an index":         {by, made(0, k(3, great))},
		"an index's type":  {data("D", 0, 1, fn(great, set))},
		"a parameter":      {data("D", 1, 0, fn(great, set))},
		"of both":          {two, made(0, great, k(3)), made(1, great, k(3))},
		"of the first one": {two, made(0, great, k(3)), made(1, k(3))},
		"of the other one": {two, made(0, k(3)), made(1, fn(great, k(3)), k(3))},
	}
	for what, l := range all {
		all[what] = append(numbers(), l...)
	}
	return all
}

// TestGreatTypes asks for eliminators whose types come just shaped, and too great.
func TestGreatTypes(t *testing.T) { // P13.2
	counted := map[string]*tally{}
	for _, great := range slices.Concat(sized()...) {
		for what, l := range greatTypes(great) {
			if !sign.Formed(l) { // of its own it is too great, or has a variable
				continue
			}
			if counted[what] == nil {
				counted[what] = &tally{}
			}
			want, no := wantType(l, 3, 1)
			got, e := Type(l, 3, 1)
			counted[what].hold(t, what, got, e, want, no)
			for _, c := range l[3].Cons {
				want, no := wantMethod(l, c, nil, x(0))
				got, e := Method(l, c, nil, x(0))
				counted[what].hold(t, what, got, e, want, no)
			}
		}
	}
	for what, c := range counted {
		if c.long < 5 || c.right < 5 {
			t.Errorf("%s: %v", what, c)
		}
	}
}

// TestFirst has several errors at once: what is asked first holds.
func TestFirst(t *testing.T) { // P13.1, P13.2
	l, bad := world(), append(world(), api.Entry{})
	great, wrong := bush(api.MaxNodes-1, set), v(-1)
	for i, each := range []struct {
		l           []api.Entry
		d, level, c int
		args, own   []api.Term
		want        api.Errno
	}{
		{bad, -1, -1, -1, terms(wrong), terms(wrong), api.ErrShape},
		{l, -1, 0, suc, terms(wrong), terms(wrong), api.ErrNone},
		{l, nat, 8, suc, terms(wrong), terms(wrong), api.ErrNone},
		{l, nat, 0, vcons, terms(wrong), terms(wrong), api.ErrNone},
		{l, nat, 0, suc, terms(great, great), terms(great), api.ErrShape},
		{l, nat, 0, suc, terms(great, great, great), nil, api.ErrShape},
		{l, nat, 0, suc, terms(great, great, great), terms(wrong), api.ErrShape},
		{l, nat, 0, suc, terms(great, wrong, great), terms(great), api.ErrShape},
		{l, nat, 0, suc, terms(great, great, great), terms(great), api.ErrLong},
	} {
		got, e := Step(each.l, each.d, each.level, each.c, each.args, each.own)
		errs(t, strconv.Itoa(i), got, e, each.want)
	}
	long := append(indexed(1, 0, api.MaxTele-1), indexed(0, 0, 0)...)[:1]
	long[0].Inds, long[0].Pars = api.MaxTele, 0
	got, e := Motive(long, 0, 8, nil)
	errs(t, "no universe", got, e, api.ErrNone)
	got, e = Motive(long, 0, 0, terms(set))
	errs(t, "too many", got, e, api.ErrShape)
	got, e = Motive(long, 0, 0, nil)
	errs(t, "too long", got, e, api.ErrLong)
	wide := append(numbers(), data("D", 1, 1, fn(set, bush(api.MaxNodes-5, set), set)))
	got, e = Motive(wide, 3, 0, terms(wrong))
	errs(t, "no parameter", got, e, api.ErrShape)
	got, e = Motive(wide, 3, 0, terms(set))
	errs(t, "too great", got, e, api.ErrLong)
	got, e = Type(long, 0, 8)
	errs(t, "no universe", got, e, api.ErrNone)
	got, e = Method(several(0, 20), 0, nil, wrong)
	errs(t, "no constructor", got, e, api.ErrNone)
	got, e = Method(several(0, 20), 1, nil, wrong)
	errs(t, "no motive", got, e, api.ErrShape)
	got, e = Method(several(0, 20), 1, terms(set), set)
	errs(t, "too many", got, e, api.ErrShape)
	got, e = Method(several(0, 20), 1, nil, set)
	errs(t, "too long", got, e, api.ErrLong)
}
