package meter

import (
	"reflect"
	"testing"

	"scholium/api"
	"scholium/term"
)

// mark stands in the room behind the end of lists.
var mark = term.Free(77)

// roomy gives a term anew, each list of it, those without elements too, with room behind its end that bears a mark.
func roomy(x api.Term) api.Term {
	var room []api.Term
	for _, s := range x.Sub {
		room = append(room, roomy(s))
	}
	room = append(room, mark, mark)
	x.Sub = room[: len(room)-2 : len(room)]
	return x
}

// marked tells whether a term that was made roomy still bears its marks.
func marked(x api.Term) bool {
	for _, s := range x.Sub {
		if !marked(s) {
			return false
		}
	}
	behind := x.Sub[len(x.Sub):cap(x.Sub)]
	return len(behind) == 2 && term.Same(behind[0], mark) && term.Same(behind[1], mark)
}

// spoil writes over all lists of a term, and the room behind their ends.
func spoil(x api.Term) {
	for _, s := range x.Sub {
		spoil(s)
	}
	for i := range x.Sub[:cap(x.Sub)] {
		x.Sub[:cap(x.Sub)][i] = api.Term{Kind: -1, N: -1}
	}
}

func TestGetIsNewMemory(t *testing.T) { // P11.3
	for _, x := range shaped() {
		for _, e := range []api.Errno{api.OK, api.ErrType} {
			var m Memo
			given, calls := roomy(x), 0
			first, _ := m.Get(tells(given, e, &calls))
			if !term.Same(given, x) || !marked(given) {
				t.Fatalf("Get of %s: what was told is changed", told(x))
			}
			spoil(first)
			if !term.Same(given, x) || !marked(given) {
				t.Fatalf("Get of %s shares memory with what was told", told(x))
			}
			gets(t, "Get behind a spoilt answer", &m, never(t), x, e)
			spoil(given)
			gets(t, "Get behind a spoilt term", &m, never(t), x, e)
			second, _ := m.Get(never(t))
			third, _ := m.Get(never(t))
			spoil(second)
			if !reflect.DeepEqual(third, x) {
				t.Errorf("two answers of Get share memory: %s", told(x))
			}
		}
	}
}

func TestGetOfEmptyLists(t *testing.T) { // a list without elements is nil's like
	var m Memo
	calls := 0
	x := api.Term{Kind: api.KConst, N: 3, Sub: []api.Term{}}
	for range 2 {
		gets(t, "Get of an empty list", &m, tells(x, api.OK, &calls), term.Const(3), api.OK)
	}
}

func TestGetOfSharedLists(t *testing.T) { // P11.3: no two lists of an answer share memory
	var m Memo
	calls := 0
	part := term.App(term.Const(1), term.Const(2))
	x, _ := m.Get(tells(term.App(part, part), api.OK, &calls))
	x.Sub[0].Sub[0] = mark
	if !term.Same(x.Sub[1], part) {
		t.Errorf("two lists of an answer share memory: %s", told(x))
	}
}
