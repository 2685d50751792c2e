package conv

import (
	"strconv"
	"testing"

	"scholium/api"
	"scholium/meter"
	"scholium/term"
	"scholium/whnf"
)

// What the calls should answer is reckoned here from the chapter's words, step by step, call within call; whether a term on the way is shaped is asked of it as it stands.

// reckoner asks in a signature, with a meter.
type reckoner struct {
	l []api.Entry
	m *whnf.Machine
	f *meter.Meter
}

// weak is a term's weak head form.
func (r reckoner) weak(t api.Term) (api.Term, api.Errno) {
	for is, e := true, api.OK; is; {
		if t, is, e = r.m.Once(t, r.f); e != api.OK {
			return api.Term{}, e
		}
	}
	return t, api.OK
}

// raised is a term with 1 added to each variable that nothing in it binds, beneath so many binders.
func raised(t api.Term, binders int) api.Term {
	if t.Kind == api.KVar && t.N >= binders {
		return v(t.N + 1)
	}
	l := terms()
	for i, s := range t.Sub {
		above := binders
		if i == 1 && (t.Kind == api.KLam || t.Kind == api.KPi) {
			above++
		}
		l = append(l, raised(s, above))
	}
	return api.Term{Kind: t.Kind, N: t.N, Sub: l}
}

// apartInto are an application's head and its arguments.
func apartInto(t api.Term) (api.Term, []api.Term) {
	if t.Kind != api.KApp {
		return t, nil
	}
	head, args := apartInto(t.Sub[0])
	return head, append(args, t.Sub[1])
}

// record tells the family of which a term is the constructor with all its arguments, and these, if that is a record.
func (r reckoner) record(t api.Term) (api.Entry, int, []api.Term, bool) {
	head, args := apartInto(t)
	if head.Kind != api.KConst || r.l[head.N].Kind != api.ECon {
		return api.Entry{}, 0, nil, false
	}
	d := r.l[head.N].Of
	family := r.l[d]
	return family, d, args, len(family.Fields) > 0 && len(args) == family.Pars+len(family.Fields)
}

// one tells whether two terms are one, or the first is at most the second.
func (r reckoner) one(a, b api.Term, most bool) (bool, api.Errno) {
	if !term.Shaped(a) || !term.Shaped(b) {
		return false, api.ErrLong
	}
	a, e := r.weak(a)
	if e != api.OK {
		return false, e
	}
	b, e = r.weak(b)
	if e != api.OK {
		return false, e
	}
	_, _, _, is := r.record(a)
	_, _, _, too := r.record(b)
	switch {
	case a.Kind == api.KLam || b.Kind == api.KLam:
		return r.one(beneath(a), beneath(b), false)
	case is:
		return r.fields(a, b)
	case too:
		return r.fields(b, a)
	case a.Kind != b.Kind:
		return false, api.OK
	case a.Kind == api.KPi:
		if is, e := r.one(a.Sub[0], b.Sub[0], false); !is {
			return false, e
		}
		return r.one(a.Sub[1], b.Sub[1], most)
	case a.Kind == api.KSort:
		return a.N == b.N || most && a.N < b.N, api.OK
	}
	return r.spines(a, b)
}

// beneath is what a term makes of a variable.
func beneath(t api.Term) api.Term {
	if t.Kind == api.KLam {
		return t.Sub[1]
	}
	return app(raised(t, 0), v(0))
}

// fields tells whether a record's constructor and another term are one.
func (r reckoner) fields(a, b api.Term) (bool, api.Errno) {
	family, d, args, _ := r.record(a)
	_, other, others, likewise := r.record(b)
	if likewise && other != d {
		return false, api.OK
	}
	for i, p := range family.Fields {
		t := app(k(p, args[:family.Pars]...), b)
		if likewise {
			t = others[family.Pars+i]
		}
		if is, e := r.one(args[family.Pars+i], t, false); !is {
			return false, e
		}
	}
	return true, api.OK
}

// spines tells whether heads and arguments are one.
func (r reckoner) spines(a, b api.Term) (bool, api.Errno) {
	f, l := apartInto(a)
	g, o := apartInto(b)
	if f.Kind != g.Kind || f.N != g.N || len(l) != len(o) {
		return false, api.OK
	}
	if f.Kind == api.KElim && f.Sub[0].N != g.Sub[0].N {
		return false, api.OK
	}
	if f.Kind == api.KPi {
		for i := range 2 {
			if is, e := r.one(f.Sub[i], g.Sub[i], false); !is {
				return false, e
			}
		}
	}
	for i := range l {
		if is, e := r.one(l[i], o[i], false); !is {
			return false, e
		}
	}
	return true, api.OK
}

// answer is what a call answers, with how many steps are left behind it.
type answer struct {
	is   bool
	e    api.Errno
	left int
}

// reckoned is what Same, or Most, must answer of what may come, with so much fuel.
func reckoned(l []api.Entry, m *whnf.Machine, a, b api.Term, most bool, n int) answer {
	f := fuel(n)
	is, e := reckoner{l, m, f}.one(a, b, most)
	return answer{is, e, f.Left()}
}

// holds asks all calls with so much fuel, and a nil meter, if that is none; it tells what Same and Most must answer.
func holds(t *testing.T, l []api.Entry, m *whnf.Machine, what string, a, b api.Term, n int) (answer, answer) {
	t.Helper()
	one, most := reckoned(l, m, a, b, false, n), reckoned(l, m, a, b, true, n)
	answers(t, Same, m, what, a, b, n, one.is, one.e, n-one.left)
	answers(t, Most, m, what+", at most", a, b, n, most.is, most.e, n-most.left)
	return one, most
}

// holdsOf asks the call in a signature, too.
func holdsOf(t *testing.T, l []api.Entry, m *whnf.Machine, what string, a, b api.Term, n int) answer {
	t.Helper()
	one, _ := holds(t, l, m, what, a, b, n)
	answersOf(t, l, what, a, b, n, one.is, one.e, n-one.left)
	return one
}

// many is a number, written.
func many(n int) string { return strconv.Itoa(n) }
