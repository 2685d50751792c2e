package iota

import (
	"slices"

	"scholium/api"
	"scholium/term"
)

// What the calls should answer is reckoned here by names, without any limit: each binder that is gone beneath gets a named variable that nothing else has, and is bound again at last.

// bound is a named variable, and its type.
type bound struct {
	name int
	t    api.Term
}

// reckoner hands out names.
type reckoner struct {
	l    []api.Entry
	next int
}

// reckonerOf is one of a signature.
func reckonerOf(l []api.Entry) *reckoner { return &reckoner{l, 900000} }

// changed is a term, with each variable that none of its binders binds changed.
func changed(t api.Term, binders int, becomes func(t api.Term, binders int) api.Term) api.Term {
	t, _ = other(t, binders, becomes)
	return t
}

// other is a changed term, and whether it has such a variable: else it is the term itself.
func other(t api.Term, binders int, becomes func(t api.Term, binders int) api.Term) (api.Term, bool) {
	if t.Kind == api.KFree || t.Kind == api.KVar && t.N >= binders {
		return becomes(t, binders), true
	}
	has, subs := false, t.Sub
	for i, s := range t.Sub {
		beneath := binders
		if i == 1 && (t.Kind == api.KPi || t.Kind == api.KLam) {
			beneath++
		}
		if s, is := other(s, beneath, becomes); is {
			if !has {
				has, subs = true, slices.Clone(t.Sub)
			}
			subs[i] = s
		}
	}
	t.Sub = subs
	return t, has
}

// raised is a term with n more of each loose variable.
func raised(t api.Term, n int) api.Term {
	return changed(t, 0, func(t api.Term, _ int) api.Term {
		if t.Kind == api.KVar {
			t.N += n
		}
		return t
	})
}

// opened is a term with another one in the place of loose variable 0.
func opened(t, by api.Term) api.Term {
	return changed(t, 0, func(t api.Term, binders int) api.Term {
		switch {
		case t.Kind == api.KVar && t.N == binders:
			return raised(by, binders)
		case t.Kind == api.KVar:
			t.N--
		}
		return t
	})
}

// laidBy lays binders of a kind around a term.
func laidBy(kind int, l []bound, t api.Term) api.Term {
	for _, b := range slices.Backward(l) {
		t = changed(t, 0, func(t api.Term, binders int) api.Term {
			switch {
			case t.Kind == api.KVar:
				t.N++
			case t.N == b.name:
				return v(binders)
			}
			return t
		})
		t = api.Term{Kind: kind, Sub: terms(b.t, t)}
	}
	return t
}

// fresh is a new name for a type.
func (r *reckoner) fresh(t api.Term) bound {
	r.next++
	return bound{r.next, t}
}

// beneath goes beneath so many types of functions.
func (r *reckoner) beneath(t api.Term, n int) ([]bound, api.Term) {
	var l []bound
	for range n {
		l = append(l, r.fresh(t.Sub[0]))
		t = opened(t.Sub[1], x(r.next))
	}
	return l, t
}

// names are the variables of bound ones.
func names(l []bound) []api.Term {
	all := terms()
	for _, b := range l {
		all = append(all, x(b.name))
	}
	return all
}

// headed are a term's head and arguments.
func headed(t api.Term) (api.Term, []api.Term) {
	args := terms()
	for t.Kind == api.KApp {
		t, args = t.Sub[0], append(args, t.Sub[1])
	}
	slices.Reverse(args)
	return t, args
}

// outermost tells how many types of functions stand around what is none.
func outermost(t api.Term) int {
	n := 0
	for ; t.Kind == api.KPi; t = t.Sub[1] {
		n++
	}
	return n
}

// with is a constructor's or a family's type with parameters.
func (r *reckoner) with(n int, pars []api.Term) api.Term {
	t := r.l[n].Type
	for _, p := range pars {
		t = opened(t.Sub[1], p)
	}
	return t
}

// recursive tells of each argument of a constructor how many types stand around the family, or -1.
func (r *reckoner) recursive(c int) []int {
	pars, t := r.beneath(r.l[c].Type, r.l[c].Pars)
	var all []int
	for t.Kind == api.KPi {
		around := outermost(t.Sub[0])
		_, result := r.beneath(t.Sub[0], around)
		head, args := headed(result)
		if head.Kind != api.KConst || head.N != r.l[c].Of || around > api.MaxTele || len(args) != len(pars)+r.l[r.l[c].Of].Inds || !slices.EqualFunc(args[:len(pars)], names(pars), term.Same) {
			around = -1
		}
		all = append(all, around)
		_, t = r.beneath(t, 1)
	}
	return all
}

// again is, of a recursive argument of a type, what is laid around a term that is applied to the indices and the argument.
func (r *reckoner) again(kind, around, pars int, t, f, arg api.Term) api.Term {
	xs, family := r.beneath(t, around)
	_, all := headed(family)
	return laidBy(kind, xs, app(app(f, all[pars:]...), app(arg, names(xs)...)))
}

// step is what an eliminator comes to.
func (r *reckoner) step(d, level, c int, args, own []api.Term) api.Term {
	pars := r.l[d].Pars
	t, recs := r.with(c, args[:pars]), r.recursive(c)
	result := app(args[pars+1+r.l[c].Place], own...)
	for i, a := range own {
		if recs[i] >= 0 {
			result = app(result, r.again(api.KLam, recs[i], pars, t.Sub[0], elim(d, level, args...), a))
		}
		t = opened(t.Sub[1], a)
	}
	return result
}

// motive is a motive's type.
func (r *reckoner) motive(d, level int, pars []api.Term) api.Term {
	inds, _ := r.beneath(r.with(d, pars), r.l[d].Inds)
	target := r.fresh(k(d, append(slices.Clone(pars), names(inds)...)...))
	return laidBy(api.KPi, append(inds, target), term.Sort(level))
}

// method is a method's type.
func (r *reckoner) method(c int, pars []api.Term, motive api.Term) api.Term {
	recs := r.recursive(c)
	args, result := r.beneath(r.with(c, pars), len(recs))
	_, all := headed(result)
	hyps := slices.Clone(args)
	for i, a := range args {
		if recs[i] >= 0 {
			hyps = append(hyps, r.fresh(r.again(api.KPi, recs[i], len(pars), a.t, motive, x(a.name))))
		}
	}
	return laidBy(api.KPi, hyps, app(app(motive, all[len(pars):]...), k(c, append(slices.Clone(pars), names(args)...)...)))
}

// whole is an eliminator's type.
func (r *reckoner) whole(d, level int) api.Term {
	l, t := r.beneath(r.l[d].Type, r.l[d].Pars)
	pars := names(l)
	inds, _ := r.beneath(t, r.l[d].Inds)
	motive := r.fresh(r.motive(d, level, pars))
	l = append(l, motive)
	for _, c := range r.l[d].Cons {
		l = append(l, r.fresh(r.method(c, pars, x(motive.name))))
	}
	target := r.fresh(k(d, append(pars, names(inds)...)...))
	l = append(append(l, inds...), target)
	return laidBy(api.KPi, l, app(app(x(motive.name), names(inds)...), x(target.name)))
}

// within is ErrLong, if a term is not shaped, or so many types are more than MaxTele.
func within(t api.Term, types int) (api.Term, api.Errno) {
	if !term.Shaped(t) || types > api.MaxTele {
		return api.Term{}, api.ErrLong
	}
	return t, api.OK
}

// wantStep is what Step must answer of what may come.
func wantStep(l []api.Entry, d, level, c int, args, own []api.Term) (api.Term, api.Errno) {
	return within(reckonerOf(l).step(d, level, c, args, own), 0)
}

// wantMotive is what Motive must answer of what may come.
func wantMotive(l []api.Entry, d, level int, pars []api.Term) (api.Term, api.Errno) {
	return within(reckonerOf(l).motive(d, level, pars), l[d].Inds+1)
}

// methodTypes tells how many types a method's type has.
func methodTypes(l []api.Entry, c int) int {
	n := 0
	for _, around := range reckonerOf(l).recursive(c) {
		n++
		if around >= 0 {
			n++
		}
	}
	return n
}

// wantMethod is what Method must answer of what may come.
func wantMethod(l []api.Entry, c int, pars []api.Term, motive api.Term) (api.Term, api.Errno) {
	return within(reckonerOf(l).method(c, pars, motive), methodTypes(l, c))
}

// wantType is what Type must answer of what may come.
func wantType(l []api.Entry, d, level int) (api.Term, api.Errno) {
	types := l[d].Pars + 1 + len(l[d].Cons) + l[d].Inds + 1
	for _, c := range l[d].Cons {
		types = max(types, methodTypes(l, c))
	}
	return within(reckonerOf(l).whole(d, level), types)
}
