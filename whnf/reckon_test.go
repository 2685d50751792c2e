package whnf

import (
	"slices"
	"testing"

	"scholium/api"
	"scholium/iota"
	"scholium/meter"
	"scholium/term"
)

// What the calls should answer is reckoned here from the chapter's words, call within call, with terms put in without any limit, which is asked of what came.

// reckoner knows a signature.
type reckoner struct {
	l     []api.Entry
	rules *iota.Rules
	args  map[int]int // how many each family's eliminator has
}

// walker takes steps as long as there are some left.
type walker struct {
	*reckoner
	left int
}

// reckonerOf is one of a signature.
func reckonerOf(t *testing.T, l []api.Entry) *reckoner {
	t.Helper()
	rules, e := iota.New(l)
	if e != api.OK {
		t.Fatal(e)
	}
	r := &reckoner{l, rules, map[int]int{}}
	for d := range l {
		if n, e := iota.Args(l, d); e == api.OK {
			r.args[d] = n
		}
	}
	return r
}

// changed is a term, with each loose variable changed, and whether it has one: else it is the term itself.
func changed(t api.Term, binders int, becomes func(n, binders int) api.Term) (api.Term, bool) {
	if t.Kind == api.KVar && t.N >= binders {
		return becomes(t.N, binders), true
	}
	has, subs := false, t.Sub
	for i, s := range t.Sub {
		beneath := binders
		if i == 1 && (t.Kind == api.KPi || t.Kind == api.KLam) {
			beneath++
		}
		if s, is := changed(s, beneath, becomes); is {
			if !has {
				has, subs = true, slices.Clone(t.Sub)
			}
			subs[i] = s
		}
	}
	t.Sub = subs
	return t, has
}

// opened is a term with another one in the place of loose variable 0.
func opened(t, by api.Term) api.Term {
	t, _ = changed(t, 0, func(n, binders int) api.Term {
		if n > binders {
			return v(n - 1)
		}
		lifted, _ := changed(by, 0, func(n, _ int) api.Term { return v(n + binders) })
		return lifted
	})
	return t
}

// headed are a term's head and arguments.
func headed(t api.Term) (api.Term, []api.Term) {
	args := terms()
	for t.Kind == api.KApp {
		t, args = t.Sub[0], append(args, t.Sub[1])
	}
	slices.Reverse(args)
	return t, args
}

// kind is that of an entry.
func (w *walker) kind(t api.Term) int {
	if t.Kind != api.KConst && t.Kind != api.KElim {
		return 0
	}
	return w.l[t.N].Kind
}

// brought is a term's weak head form, or an error.
func (w *walker) brought(t api.Term) (api.Term, api.Errno) {
	for {
		next, is, e := w.stepped(t)
		if e != api.OK {
			return api.Term{}, e
		}
		if !is {
			return t, api.OK
		}
		t = next
	}
}

// stepped is what a step at the head makes of a term, whether there is one, or an error.
func (w *walker) stepped(t api.Term) (api.Term, bool, api.Errno) {
	head, args := headed(t)
	switch {
	case head.Kind == api.KLam && len(args) > 0:
		body := opened(head.Sub[1], args[0])
		if !term.Shaped(body) {
			return api.Term{}, false, api.ErrLong
		}
		return w.applied(body, args[1:])
	case head.Kind == api.KConst && w.kind(head) == api.EDef:
		return w.applied(w.l[head.N].Body, args)
	case head.Kind == api.KConst && w.kind(head) == api.EProj:
		return w.field(t, head.N, args)
	case head.Kind == api.KElim && w.kind(head) == api.EData:
		return w.iota(t, head, args)
	}
	return t, false, api.OK
}

// applied takes a step to a term, applied to others.
func (w *walker) applied(t api.Term, l []api.Term) (api.Term, bool, api.Errno) {
	if w.left < 1 {
		return api.Term{}, false, api.ErrFuel
	}
	w.left--
	if t = app(t, l...); !term.Shaped(t) {
		return api.Term{}, false, api.ErrLong
	}
	return t, true, api.OK
}

// made brings a term to weak head form, and tells which constructor of a family it is, with its arguments behind the parameters; -1, if it is none with all of them.
func (w *walker) made(t api.Term, d int) (int, []api.Term, api.Errno) {
	t, e := w.brought(t)
	if e != api.OK {
		return 0, nil, e
	}
	head, args := headed(t)
	if head.Kind != api.KConst || !slices.Contains(w.l[d].Cons, head.N) {
		return -1, nil, api.OK
	}
	asked := 0
	for u := w.l[head.N].Type; u.Kind == api.KPi; u = u.Sub[1] {
		asked++
	}
	if len(args) != asked {
		return -1, nil, api.OK
	}
	return head.N, args[w.l[d].Pars:], api.OK
}

// field is a field's step.
func (w *walker) field(t api.Term, p int, args []api.Term) (api.Term, bool, api.Errno) {
	pars := w.l[p].Pars
	if len(args) < pars+1 {
		return t, false, api.OK
	}
	c, own, e := w.made(args[pars], w.l[p].Of)
	if e != api.OK || c < 0 {
		return t, false, e
	}
	return w.applied(own[w.l[p].Place], args[pars+1:])
}

// iota is an eliminator's step.
func (w *walker) iota(t, head api.Term, args []api.Term) (api.Term, bool, api.Errno) {
	n := w.args[head.N]
	if len(args) < n {
		return t, false, api.OK
	}
	c, own, e := w.made(args[n-1], head.N)
	if e != api.OK || c < 0 {
		return t, false, e
	}
	came, e := w.rules.Step(head.N, head.Sub[0].N, c, args[:n-1-w.l[head.N].Inds], own)
	if e != api.OK {
		return api.Term{}, false, e
	}
	return w.applied(came, args[n:])
}

// answer is what a call answers, with how many steps are left behind it.
type answer struct {
	t    api.Term
	is   bool
	e    api.Errno
	left int
}

// bring is what Bring must answer of what may come.
func (r *reckoner) bring(t api.Term, left int) answer {
	w := &walker{r, left}
	got, e := w.brought(t)
	return answer{got, false, e, w.left}
}

// once is what Once must answer of what may come.
func (r *reckoner) once(t api.Term, left int) answer {
	w := &walker{r, left}
	got, is, e := w.stepped(t)
	return answer{got, is, e, w.left}
}

// hold asks that a call answers what is wanted.
func hold(t *testing.T, what string, got, want answer) {
	t.Helper()
	if want.e == api.OK {
		same(t, what, got.t, got.e, want.t)
	} else {
		errs(t, what, got.t, got.e, want.e)
	}
	if got.is != want.is || got.left != want.left {
		t.Errorf("%s, %v: %v and %d left, not %v and %d", what, want.e, got.is, got.left, want.is, want.left)
	}
}

// holdAll asks both calls of a machine with so much fuel, and a nil meter, if that is none; it tells what Bring must answer.
func (r *reckoner) holdAll(t *testing.T, m *Machine, what string, from api.Term, n int) answer {
	t.Helper()
	bring, once := r.bring(from, n), r.once(from, n)
	ask := func(f, g *meter.Meter) {
		t.Helper()
		got, e := m.Bring(from, f)
		hold(t, what+", Bring", answer{got, false, e, f.Left()}, bring)
		got, is, e := m.Once(from, g)
		hold(t, what+", Once", answer{got, is, e, g.Left()}, once)
	}
	ask(fuel(n), fuel(n))
	if n == 0 {
		ask(nil, nil)
	}
	return bring
}
