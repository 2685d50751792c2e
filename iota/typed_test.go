package iota

import (
	"testing"

	"scholium/api"
	"scholium/term"
)

// typing tells types of terms whose named variables have some, by beta alone.
type typing struct {
	*reckoner
	t     *testing.T
	types map[int]api.Term
}

// named gives a new variable of a type.
func (c *typing) named(t api.Term) api.Term {
	b := c.fresh(t)
	c.types[b.name] = t
	return x(b.name)
}

// known has so many named variables of a type's types, and what is beneath them.
func (c *typing) known(t api.Term, n int) ([]api.Term, api.Term) {
	l, t := c.beneath(t, n)
	for _, b := range l {
		c.types[b.name] = b.t
	}
	return names(l), t
}

// normal brings a term to what beta makes of it.
func normal(t api.Term) api.Term {
	subs := terms()
	for _, s := range t.Sub {
		subs = append(subs, normal(s))
	}
	t.Sub = subs
	if t.Kind == api.KApp && t.Sub[0].Kind == api.KLam {
		return normal(opened(t.Sub[0].Sub[1], t.Sub[1]))
	}
	return t
}

// of tells a term's type.
func (c *typing) of(t api.Term) api.Term {
	switch t.Kind {
	case api.KFree:
		return c.types[t.N]
	case api.KSort:
		return term.Sort(t.N + 1)
	case api.KConst:
		return c.l[t.N].Type
	case api.KElim:
		got, e := Type(c.l, t.N, t.Sub[0].N)
		if e != api.OK {
			c.t.Fatal(e)
		}
		return got
	case api.KPi:
		one := c.universe(t.Sub[0])
		return term.Sort(max(one, c.universe(opened(t.Sub[1], c.named(t.Sub[0])))))
	case api.KLam:
		c.universe(t.Sub[0])
		arg := c.named(t.Sub[0])
		return laidBy(api.KPi, []bound{{arg.N, t.Sub[0]}}, c.of(opened(t.Sub[1], arg)))
	case api.KApp:
		function := normal(c.of(t.Sub[0]))
		if function.Kind != api.KPi {
			c.t.Fatalf("%s is applied", told(t.Sub[0]))
		}
		c.check(t.Sub[1], function.Sub[0])
		return opened(function.Sub[1], t.Sub[1])
	}
	c.t.Fatalf("%s has no type", told(t))
	return t
}

// universe tells a type's universe.
func (c *typing) universe(t api.Term) int {
	u := normal(c.of(t))
	if u.Kind != api.KSort {
		c.t.Fatalf("%s is no type", told(t))
	}
	return u.N
}

// check asks that a term has a type.
func (c *typing) check(t, want api.Term) {
	if got := normal(c.of(t)); !atMost(got, normal(want)) {
		c.t.Fatalf("%s is of type %s, not %s", told(t), told(got), told(want))
	}
}

// atMost tells whether a type is another one, or ends in a lower universe.
func atMost(a, b api.Term) bool {
	switch {
	case a.Kind == api.KSort && b.Kind == api.KSort:
		return a.N <= b.N
	case a.Kind == api.KPi && b.Kind == api.KPi:
		return same2(a.Sub[0], b.Sub[0]) && atMost(a.Sub[1], b.Sub[1])
	}
	return same2(a, b)
}

// same2 tells whether all is the same in two terms, whether they are shaped or not.
func same2(a, b api.Term) bool {
	if a.Kind != b.Kind || a.N != b.N || len(a.Sub) != len(b.Sub) {
		return false
	}
	for i := range a.Sub {
		if !same2(a.Sub[i], b.Sub[i]) {
			return false
		}
	}
	return true
}

// TestTyped asks that each eliminator's type is a type, and that what it comes to has the type that the eliminator has there.
func TestTyped(t *testing.T) { // P13.1, P13.2
	l := world()
	for d, family := range l {
		if family.Kind != api.EData {
			continue
		}
		for _, level := range []int{0, 3} {
			c := &typing{reckonerOf(l), t, map[int]api.Term{}}
			whole, e := Type(l, d, level)
			if e != api.OK {
				t.Fatal(family.Name, e)
			}
			c.universe(whole)
			args, _ := c.known(whole, family.Pars+1+len(family.Cons))
			pars, motive := args[:family.Pars], args[family.Pars]
			for _, n := range family.Cons {
				own, result := c.known(c.with(n, pars), outermost(l[n].Type)-family.Pars)
				_, all := headed(result)
				target := app(k(n, pars...), own...)
				want := app(app(motive, all[family.Pars:]...), target)
				got, e := Step(l, d, level, n, args, own)
				if e != api.OK {
					t.Fatal(l[n].Name, e)
				}
				for _, one := range []api.Term{got, app(elim(d, level, append(args[:len(args):len(args)], all[family.Pars:]...)...), target)} {
					if is := normal(c.of(one)); !same2(is, want) {
						t.Errorf("%s: %s is of type %s, not %s", l[n].Name, told(one), told(is), told(want))
					}
				}
			}
		}
	}
}

// TestTypedFields asks that a field has, at its record's constructor, the type that it has.
func TestTypedFields(t *testing.T) { // P13.1
	l := world()
	c := &typing{reckonerOf(l), t, map[int]api.Term{}}
	pars, rest := c.known(l[pair].Type, 2)
	own, _ := c.known(rest, 2)
	first, e := Field(l, fst, own)
	if e != api.OK || !same2(c.of(first), pars[0]) {
		t.Errorf("%v, %s", e, told(first))
	}
	second, e := Field(l, snd, own)
	if e != api.OK || !same2(c.of(second), app(pars[1], first)) {
		t.Errorf("%v, %s", e, told(second))
	}
}
