package meter

import (
	"math"
	"reflect"
	"runtime"
	"strconv"
	"strings"
	"testing"

	"scholium/api"
	"scholium/term"
)

// function is what a memo is asked with.
type function = func() (api.Term, api.Errno)

// told writes a term, if it is not too great to be read.
func told(x api.Term) string {
	if term.Size(x) > 60 {
		return "a term of size " + strconv.Itoa(term.Size(x)) + ", depth " + strconv.Itoa(term.Depth(x))
	}
	words := []string{strconv.Itoa(x.Kind), strconv.Itoa(x.N)}
	for _, s := range x.Sub {
		words = append(words, told(s))
	}
	return "(" + strings.Join(words, " ") + ")"
}

// tells is a function that tells a term and an error, and counts its calls.
func tells(x api.Term, e api.Errno, calls *int) function {
	return func() (api.Term, api.Errno) {
		*calls++
		return x, e
	}
}

// never is a function that must not be called.
func never(t *testing.T) function {
	return func() (api.Term, api.Errno) {
		t.Error("called once more")
		return term.Free(99), api.ErrEnds
	}
}

// gets holds what Get answers against what it must.
func gets(t *testing.T, call string, m *Memo, of function, want api.Term, wantE api.Errno) {
	t.Helper()
	got, e := m.Get(of)
	if e != wantE || !reflect.DeepEqual(got, want) {
		t.Errorf("%s: %s, %v, not %s, %v", call, told(got), e, told(want), wantE)
	}
}

// asked asks whether a memo was.
func asked(t *testing.T, behind string, m *Memo, want bool) {
	t.Helper()
	if m.Has() != want {
		t.Errorf("Has behind %s: not %v", behind, want)
	}
}

// bush is a term of n nodes that is not deep, its ends x, or eliminators.
func bush(n int, x api.Term) api.Term {
	switch n {
	case 1:
		return x
	case 2:
		return term.Elim(0, 0)
	}
	return term.App(bush((n-1)/2, x), bush(n-1-(n-1)/2, x))
}

// deep is a function of so many levels.
func deep(levels int) api.Term {
	x := term.Sort(0)
	for range levels - 1 {
		x = term.Lam(term.Sort(0), x)
	}
	return x
}

// endless is a term that stands within its own Subs.
func endless() api.Term {
	x := term.Pi(term.Sort(0), term.Sort(0))
	x.Sub[0], x.Sub[1] = x, x
	return x
}

// shaped are terms of each kind, small and as great and deep as may be.
func shaped() []api.Term {
	set := term.Sort(0)
	return []api.Term{term.Var(0), term.Var(api.MaxFree), term.Sort(api.MaxLevel), term.Const(3), term.Free(4), term.Elim(2, 1), term.Pi(set, term.Var(0)), term.Lam(set, term.Var(1)),
		term.App(term.Lam(set, term.Var(0)), term.Const(1)), bush(api.MaxNodes, set), deep(api.MaxDepth)}
}

// unshaped are terms that are not shaped: for a node's number, its Subs, or for what is too great, or too deep.
func unshaped() []api.Term {
	set, bad := term.Sort(0), term.Var(-1)
	return []api.Term{{}, bad, {Kind: 9}, {Kind: -1, Sub: []api.Term{set}}, {Kind: api.KVar, Sub: []api.Term{set}}, {Kind: api.KPi, Sub: []api.Term{set}}, term.Sort(api.MaxLevel + 1), term.Free(api.MaxFree + 1), term.Const(math.MaxInt),
		term.Elim(0, -1), term.Pi(set, bad), term.App(bad, set), bush(api.MaxNodes+1, set), deep(api.MaxDepth + 1), endless()}
}

func TestGet(t *testing.T) { // P11.3, P11.5
	for _, x := range shaped() {
		var m Memo
		calls := 0
		of := tells(x, api.OK, &calls)
		for range 3 {
			gets(t, "Get of "+told(x), &m, of, x, api.OK)
		}
		if calls != 1 {
			t.Errorf("Get of %s: %d calls", told(x), calls)
		}
	}
}

func TestGetWithAnother(t *testing.T) { // P11.3, P11.5
	var m Memo
	calls := 0
	gets(t, "Get", &m, tells(term.Const(7), api.OK, &calls), term.Const(7), api.OK)
	gets(t, "Get with another", &m, never(t), term.Const(7), api.OK)
	gets(t, "Get with nil", &m, nil, api.Term{}, api.ErrNone)
	gets(t, "Get with another behind nil", &m, never(t), term.Const(7), api.OK)
	if calls != 1 {
		t.Errorf("%d calls", calls)
	}
}

func TestGetOfAnError(t *testing.T) { // P11.3, P11.5
	errors := []api.Errno{api.ErrForm, api.ErrShape, api.ErrFuel, api.ErrNone, api.ErrPattern, 18, -1, math.MaxInt}
	for _, e := range errors {
		for _, x := range []api.Term{{}, term.Const(7), term.Pi(term.Sort(0), term.Var(0))} {
			var m Memo
			calls := 0
			gets(t, "Get", &m, tells(x, e, &calls), x, e)
			gets(t, "Get again", &m, never(t), x, e)
			gets(t, "Get with nil", &m, nil, api.Term{}, api.ErrNone)
			gets(t, "Get a last time", &m, tells(term.Const(8), api.OK, &calls), x, e)
			if calls != 1 {
				t.Errorf("%d calls", calls)
			}
		}
	}
}

func TestGetOfUnshaped(t *testing.T) { // P11.3: no copy but of a shaped term
	for i, x := range unshaped() {
		for _, e := range []api.Errno{api.OK, api.ErrType} {
			var m Memo
			calls := 0
			call := "Get of unshaped term " + strconv.Itoa(i)
			gets(t, call, &m, tells(x, e, &calls), api.Term{}, e)
			gets(t, call+" again", &m, never(t), api.Term{}, e)
			asked(t, call, &m, true)
		}
	}
}

func TestGetOfNil(t *testing.T) { // P11.3
	var none *Memo
	gets(t, "Get of a nil memo", none, never(t), api.Term{}, api.ErrNone)
	gets(t, "Get of a nil memo with nil", none, nil, api.Term{}, api.ErrNone)
	var m Memo
	calls := 0
	gets(t, "Get with nil", &m, nil, api.Term{}, api.ErrNone)
	gets(t, "Get behind nil", &m, tells(term.Const(7), api.OK, &calls), term.Const(7), api.OK)
	if calls != 1 {
		t.Errorf("%d calls", calls)
	}
}

func TestHas(t *testing.T) { // P11.3
	var none *Memo
	asked(t, "nothing, of nil", none, false)
	var m Memo
	asked(t, "nothing", &m, false)
	_, _ = m.Get(nil)
	asked(t, "Get with nil", &m, false)
	_, _ = m.Get(func() (api.Term, api.Errno) {
		asked(t, "the beginning of Get", &m, true)
		return term.Const(7), api.OK
	})
	asked(t, "Get", &m, true)
	_, _ = m.Get(nil)
	asked(t, "Get with nil behind Get", &m, true)
	_, _ = m.Get(never(t))
	asked(t, "Get again", &m, true)
}

func TestHasBehindAnError(t *testing.T) { // P11.3
	for _, x := range []api.Term{{}, term.Const(7)} {
		var m Memo
		calls := 0
		_, _ = m.Get(tells(x, api.ErrStuck, &calls))
		asked(t, "Get whose function told an error", &m, true)
	}
}

func TestMemosAreTheirOwn(t *testing.T) { // P11.3
	var a, b Memo
	calls := 0
	gets(t, "Get of one", &a, tells(term.Const(7), api.OK, &calls), term.Const(7), api.OK)
	asked(t, "another one's Get", &b, false)
	gets(t, "Get of another", &b, tells(term.Const(8), api.ErrType, &calls), term.Const(8), api.ErrType)
	gets(t, "Get of one again", &a, never(t), term.Const(7), api.OK)
	if calls != 2 {
		t.Errorf("%d calls", calls)
	}
}

func TestMemoWithinAnother(t *testing.T) { // P11.3
	var a, b Memo
	calls := 0
	of := tells(term.Const(7), api.ErrType, &calls)
	for range 2 {
		gets(t, "Get of a memo within another's function", &a, func() (api.Term, api.Errno) { return b.Get(of) }, term.Const(7), api.ErrType)
	}
	gets(t, "Get of the inner one", &b, never(t), term.Const(7), api.ErrType)
	if calls != 1 {
		t.Errorf("%d calls", calls)
	}
}

func TestGetOfWhatPanics(t *testing.T) { // P11.5, and none panics
	var m Memo
	var nobody *api.Term
	calls := 0
	of := func() (api.Term, api.Errno) {
		calls++
		return *nobody, api.OK
	}
	gets(t, "Get of what panics", &m, of, api.Term{}, api.ErrNone)
	gets(t, "Get behind what panicked", &m, never(t), api.Term{}, api.ErrNone)
	gets(t, "Get of what panics, once more", &m, of, api.Term{}, api.ErrNone)
	asked(t, "what panicked", &m, true)
	if calls != 1 {
		t.Errorf("%d calls", calls)
	}
}

func TestGetOfWhatLeaves(t *testing.T) { // P11.5: of a function that leaves its goroutine nothing is told
	var m Memo
	done := make(chan bool)
	go func() {
		defer close(done)
		_, _ = m.Get(func() (api.Term, api.Errno) {
			runtime.Goexit()
			return term.Const(7), api.OK
		})
	}()
	<-done
	gets(t, "Get behind what left", &m, never(t), api.Term{}, api.ErrNone)
	asked(t, "what left", &m, true)
}
