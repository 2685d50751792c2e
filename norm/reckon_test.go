package norm

import (
	"strconv"
	"testing"

	"scholium/api"
	"scholium/meter"
	"scholium/term"
	"scholium/whnf"
)

// What Norm should answer is reckoned here from the chapter's words, step by step, call within call, with everything put together, however great it is; whether it is shaped is asked of what came.

// grown is a term's normal form without any limit of its own, or the first error.
func grown(m *whnf.Machine, t api.Term, f *meter.Meter) (api.Term, api.Errno) {
	for is, e := true, api.OK; is; {
		if t, is, e = m.Once(t, f); e != api.OK {
			return api.Term{}, e
		}
	}
	switch t.Kind {
	case api.KPi, api.KLam:
		first, e := grown(m, t.Sub[0], f)
		if e != api.OK {
			return api.Term{}, e
		}
		second, e := grown(m, t.Sub[1], f)
		return api.Term{Kind: t.Kind, Sub: terms(first, second)}, e
	case api.KApp:
		return spread(m, t, f)
	}
	return t, api.OK
}

// spread is an application with its arguments in normal form; what it applies is gone into as long as it is an application, too.
func spread(m *whnf.Machine, t api.Term, f *meter.Meter) (api.Term, api.Errno) {
	if t.Kind != api.KApp {
		return t, api.OK
	}
	of, e := spread(m, t.Sub[0], f)
	if e != api.OK {
		return api.Term{}, e
	}
	arg, e := grown(m, t.Sub[1], f)
	return api.Term{Kind: api.KApp, Sub: terms(of, arg)}, e
}

// answer is what a call answers, with how many steps are left behind it.
type answer struct {
	t    api.Term
	e    api.Errno
	left int
}

// reckoned is what Norm must answer of what may come, with so much fuel.
func reckoned(m *whnf.Machine, from api.Term, n int) answer {
	f := fuel(n)
	t, e := grown(m, from, f)
	if e == api.OK && !term.Shaped(t) {
		e = api.ErrLong
	}
	return answer{t, e, f.Left()}
}

// holds asks both calls with so much fuel, and a nil meter, if that is none; it tells what Norm must answer.
func holds(t *testing.T, m *whnf.Machine, what string, from api.Term, n int) answer {
	t.Helper()
	want := reckoned(m, from, n)
	what += ", " + strconv.Itoa(n)
	ask := func(f *meter.Meter) {
		t.Helper()
		got, e := Norm(m, from, f)
		if want.e == api.OK {
			same(t, what, got, e, want.t)
		} else {
			errs(t, what, got, e, want.e)
		}
		if f.Left() != want.left {
			t.Errorf("%s, %v: %d left, not %d", what, want.e, f.Left(), want.left)
		}
	}
	ask(fuel(n))
	if n == 0 {
		ask(nil)
		if Normal(m, from) != (want.e == api.OK) {
			t.Errorf("%s: whether %s is normal", what, told(from))
		}
	}
	return want
}

// holdsOf asks the call in a signature what Norm must answer.
func holdsOf(t *testing.T, l []api.Entry, what string, from api.Term, n int, want answer) {
	t.Helper()
	got, steps, e := Of(l, from, n)
	if want.e == api.OK {
		same(t, what, got, e, want.t)
	} else {
		errs(t, what, got, e, want.e)
	}
	if taken := n - want.left; want.e == api.OK && steps != taken || want.e != api.OK && steps != 0 {
		t.Errorf("%s, %v: %d steps, not %d", what, e, steps, taken)
	}
}
