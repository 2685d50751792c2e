package infer

import (
	"strconv"
	"testing"

	"scholium/api"
	"scholium/conv"
	"scholium/iota"
	"scholium/term"
	"scholium/whnf"
)

// What the calls should answer is reckoned here from the chapter's words; whether a term on the way is shaped is asked of it as it stands. What layers 13, 14 and 16 say is asked of these.

// reckoner asks in a world, with the entries of its machine's signature.
type reckoner struct {
	World
	l []api.Entry
}

// moved is a term with n added to each variable that nothing in it binds, beneath so many binders.
func moved(t api.Term, n, binders int) api.Term {
	return replaced(t, binders, func(m, above int) api.Term {
		if m < above {
			return v(m)
		}
		return v(m + n)
	})
}

// filled is what stands beneath one binder, with a in the place of its variable.
func filled(t, a api.Term) api.Term {
	return replaced(t, 0, func(m, above int) api.Term {
		switch {
		case m < above:
			return v(m)
		case m == above:
			return moved(a, above, 0)
		}
		return v(m - 1)
	})
}

// replaced is a term with something else for each variable, told by its number and by how many binders stand above.
func replaced(t api.Term, binders int, by func(m, above int) api.Term) api.Term {
	if t.Kind == api.KVar {
		return by(t.N, binders)
	}
	l := terms()
	for i, s := range t.Sub {
		above := binders
		if i == 1 && (t.Kind == api.KLam || t.Kind == api.KPi) {
			above++
		}
		l = append(l, replaced(s, above, by))
	}
	return api.Term{Kind: t.Kind, N: t.N, Sub: l}
}

// right is a term that was made, or ErrLong.
func right(t api.Term) (api.Term, api.Errno) {
	if !term.Shaped(t) {
		return api.Term{}, api.ErrLong
	}
	return t, api.OK
}

// weak is a term's weak head form.
func (r reckoner) weak(t api.Term) (api.Term, api.Errno) {
	for is, e := true, api.OK; is; {
		if t, is, e = r.M.Once(t, r.F); e != api.OK {
			return api.Term{}, e
		}
	}
	return t, api.OK
}

// under is a context with one more type.
func under(context []api.Term, a api.Term) []api.Term {
	return append(append(terms(), context...), a)
}

// typed is a term's type in a context.
func (r reckoner) typed(context []api.Term, t api.Term) (api.Term, api.Errno) {
	switch t.Kind {
	case api.KVar:
		if t.N >= len(context) {
			return api.Term{}, api.ErrScope
		}
		return right(moved(context[len(context)-t.N-1], t.N+1, 0))
	case api.KFree:
		of, is := map[int]api.Term{}, false
		for i, n := range r.Names {
			of[n] = r.Types[i]
		}
		if _, is = of[t.N]; !is {
			return api.Term{}, api.ErrScope
		}
		return right(moved(of[t.N], len(context), 0))
	case api.KConst:
		return r.l[t.N].Type, api.OK
	case api.KElim:
		return iota.Type(r.l, t.N, t.Sub[0].N)
	case api.KSort:
		if t.N == api.MaxLevel {
			return api.Term{}, api.ErrLevel
		}
		return term.Sort(t.N + 1), api.OK
	case api.KPi:
		i, e := r.universe(context, t.Sub[0])
		if e != api.OK {
			return api.Term{}, e
		}
		j, e := r.universe(under(context, t.Sub[0]), t.Sub[1])
		if e != api.OK {
			return api.Term{}, e
		}
		if j > i {
			i = j
		}
		return term.Sort(i), api.OK
	case api.KLam:
		if _, e := r.universe(context, t.Sub[0]); e != api.OK {
			return api.Term{}, e
		}
		b, e := r.typed(under(context, t.Sub[0]), t.Sub[1])
		if e != api.OK {
			return api.Term{}, e
		}
		return right(term.Pi(t.Sub[0], b))
	}
	return r.applied(context, t.Sub[0], t.Sub[1])
}

// applied is the type of a function with its argument.
func (r reckoner) applied(context []api.Term, f, a api.Term) (api.Term, api.Errno) {
	if r.F.Left() == 0 {
		return api.Term{}, api.ErrFuel
	}
	if e := r.F.Spend(1); e != api.OK {
		return api.Term{}, e
	}
	p, e := r.typed(context, f)
	if e == api.OK {
		p, e = r.weak(p)
	}
	if e != api.OK {
		return api.Term{}, e
	}
	if p.Kind != api.KPi {
		return api.Term{}, api.ErrType
	}
	if e := r.against(context, a, p.Sub[0]); e != api.OK {
		return api.Term{}, e
	}
	return right(filled(p.Sub[1], a))
}

// universe is that of which a term is a type.
func (r reckoner) universe(context []api.Term, t api.Term) (int, api.Errno) {
	s, e := r.typed(context, t)
	if e == api.OK {
		s, e = r.weak(s)
	}
	if e != api.OK {
		return 0, e
	}
	if s.Kind != api.KSort {
		return 0, api.ErrType
	}
	return s.N, api.OK
}

// against checks a term against a type.
func (r reckoner) against(context []api.Term, t, a api.Term) api.Errno {
	is, no := false, api.OK
	if t.Kind == api.KLam {
		p, e := r.weak(a)
		if e != api.OK {
			return e
		}
		if p.Kind == api.KPi {
			if _, e := r.universe(context, t.Sub[0]); e != api.OK {
				return e
			}
			if is, no = conv.Same(r.M, t.Sub[0], p.Sub[0], r.F); is {
				return r.against(under(context, p.Sub[0]), t.Sub[1], p.Sub[1])
			}
			if no == api.OK {
				no = api.ErrType
			}
			return no
		}
	}
	has, e := r.typed(context, t)
	if e != api.OK {
		return e
	}
	if is, no = conv.Most(r.M, has, a, r.F); no == api.OK && !is {
		no = api.ErrType
	}
	return no
}

// each is the greatest universe of types, each beneath those ahead of it.
func (r reckoner) each(context, l []api.Term) (int, api.Errno) {
	most := 0
	for i := range l {
		n, e := r.universe(append(append(terms(), context...), l[:i]...), l[i])
		if e != api.OK {
			return 0, e
		}
		if n > most {
			most = n
		}
	}
	return most, api.OK
}

// answer is what a call answers, a term or a number, with how many steps it took.
type answer struct {
	t    api.Term
	n    int
	e    api.Errno
	used int
}

// like tells whether two answers are the same.
func (a answer) like(b answer) bool {
	none := a.t.Kind == 0 && b.t.Kind == 0 && a.t.N == b.t.N && len(a.t.Sub)+len(b.t.Sub) == 0
	return a.n == b.n && a.e == b.e && a.used == b.used && (none || term.Same(a.t, b.t))
}

// written is an answer as text.
func (a answer) written() string {
	return told(a.t) + ", " + many(a.n) + ", " + a.e.Error() + ", " + many(a.used) + " taken"
}

// many is a number, written.
func many(n int) string { return strconv.Itoa(n) }

// ask is one call's, or what is reckoned for it: of a term, of a type that it may be checked against, of a list.
type ask func(w World, t, a api.Term, l []api.Term) (api.Term, int, api.Errno)

// calls are all that ask in a world, each with what is reckoned for it.
func calls(entries []api.Entry) map[string][2]ask {
	return map[string][2]ask{
		"Infer": {
			func(w World, t, a api.Term, l []api.Term) (api.Term, int, api.Errno) {
				t, e := Infer(w, t)
				return t, 0, e
			},
			func(w World, t, a api.Term, l []api.Term) (api.Term, int, api.Errno) {
				t, e := reckoner{w, entries}.typed(w.Context, t)
				return t, 0, e
			},
		},
		"Check": {
			func(w World, t, a api.Term, l []api.Term) (api.Term, int, api.Errno) {
				return api.Term{}, 0, Check(w, t, a)
			},
			func(w World, t, a api.Term, l []api.Term) (api.Term, int, api.Errno) {
				return api.Term{}, 0, reckoner{w, entries}.against(w.Context, t, a)
			},
		},
		"Universe": {
			func(w World, t, a api.Term, l []api.Term) (api.Term, int, api.Errno) {
				n, e := Universe(w, t)
				return api.Term{}, n, e
			},
			func(w World, t, a api.Term, l []api.Term) (api.Term, int, api.Errno) {
				n, e := reckoner{w, entries}.universe(w.Context, t)
				return api.Term{}, n, e
			},
		},
		"Tele": {
			func(w World, t, a api.Term, l []api.Term) (api.Term, int, api.Errno) {
				n, e := Tele(w, l)
				return api.Term{}, n, e
			},
			func(w World, t, a api.Term, l []api.Term) (api.Term, int, api.Errno) {
				n, e := reckoner{w, entries}.each(w.Context, l)
				return api.Term{}, n, e
			},
		},
		"Context": {
			func(w World, t, a api.Term, l []api.Term) (api.Term, int, api.Errno) {
				return api.Term{}, 0, Context(w)
			},
			func(w World, t, a api.Term, l []api.Term) (api.Term, int, api.Errno) {
				_, e := reckoner{w, entries}.each(nil, w.Context)
				return api.Term{}, 0, e
			},
		},
	}
}

// answered is what a call answers with so much fuel; of none below 0 with a nil meter.
func answered(of ask, w World, n int, t, a api.Term, l []api.Term) answer {
	w.F = fuel(n)
	t, k, e := of(w, t, a, l)
	return answer{t, k, e, w.F.Used()}
}

// held asks a call of what may come, with so much fuel, and with a nil meter, if that is none; it tells what it must answer.
func held(t *testing.T, entries []api.Entry, name string, w World, what string, of, a api.Term, l []api.Term, n int) answer {
	t.Helper()
	two := calls(entries)[name]
	want := answered(two[1], w, n, of, a, l)
	fuels := []int{n}
	if n == 0 {
		fuels = append(fuels, -1)
	}
	for _, n := range fuels {
		if got := answered(two[0], w, n, of, a, l); !got.like(want) {
			t.Errorf("%s, %s, of %d: %s, not %s", what, name, n, got.written(), want.written())
		}
	}
	return want
}

// holds asks all calls likewise; it tells what each of them must answer.
func holds(t *testing.T, entries []api.Entry, w World, what string, of, a api.Term, l []api.Term, n int) map[string]answer {
	t.Helper()
	wants := map[string]answer{}
	for name := range calls(entries) {
		wants[name] = held(t, entries, name, w, what, of, a, l, n)
	}
	return wants
}

// holdsOf asks the call in a signature.
func holdsOf(t *testing.T, entries []api.Entry, what string, of api.Term, n int) {
	t.Helper()
	m, e := whnf.New(entries)
	if e != api.OK {
		t.Fatal(e)
	}
	want := answered(calls(entries)["Infer"][1], World{M: m}, n, of, api.Term{}, nil)
	got, no := Of(entries, of, n)
	if !(answer{got, 0, no, want.used}).like(want) {
		t.Errorf("%s, in a signature, of %d: %s, %v, not %s", what, n, told(got), no, want.written())
	}
}
