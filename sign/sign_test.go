package sign

import (
	"math"
	"reflect"
	"slices"
	"strconv"
	"strings"
	"testing"

	"scholium/api"
	"scholium/term"
)

// set is the least universe.
var set = term.Sort(0)

// v is the variable n.
func v(n int) api.Term { return term.Var(n) }

// k is entry n, applied to some.
func k(n int, l ...api.Term) api.Term { return term.Apply(term.Const(n), l...) }

// fn is the type of functions of all of a list but the last, to the last.
func fn(l ...api.Term) api.Term {
	x := l[len(l)-1]
	for i := len(l) - 2; i >= 0; i-- {
		x = term.Pi(l[i], x)
	}
	return x
}

// pis lays so many types of functions above a term.
func pis(n int, x api.Term) api.Term {
	for range n {
		x = term.Pi(set, x)
	}
	return x
}

// terms are a list of some.
func terms(l ...api.Term) []api.Term { return l }

// told writes a term, if it is not too great to be read.
func told(x api.Term) string {
	if term.Size(x) > 60 {
		return "a term of size " + strconv.Itoa(term.Size(x))
	}
	words := []string{strconv.Itoa(x.Kind), strconv.Itoa(x.N)}
	for _, s := range x.Sub {
		words = append(words, told(s))
	}
	return "(" + strings.Join(words, " ") + ")"
}

// toldAll writes entries, if they are not too many.
func toldAll(l []api.Entry) string {
	if len(l) > 20 {
		return strconv.Itoa(len(l)) + " entries"
	}
	words := []string{}
	for _, e := range l {
		word := strconv.Itoa(e.Kind) + " " + e.Name + " : " + told(e.Type) + " = " + told(e.Body)
		for _, n := range append([]int{e.Of, e.Place, e.Pars, e.Inds, e.Level, len(e.Cons)}, append(slices.Clone(e.Cons), e.Fields...)...) {
			word += " " + strconv.Itoa(n)
		}
		words = append(words, word)
	}
	return strings.Join(words, "; ")
}

// data is a family in the least universe.
func data(name string, pars, inds int, t api.Term, cons ...int) api.Entry {
	return api.Entry{Kind: api.EData, Name: name, Type: t, Pars: pars, Inds: inds, Cons: cons}
}

// con is a constructor.
func con(name string, of, place, pars int, t api.Term) api.Entry {
	return api.Entry{Kind: api.ECon, Name: name, Type: t, Of: of, Place: place, Pars: pars}
}

// field is a field of a record.
func field(name string, of, place, pars int, t api.Term) api.Entry {
	return api.Entry{Kind: api.EProj, Name: name, Type: t, Of: of, Place: place, Pars: pars}
}

// def is a definition.
func def(name string, t, body api.Term) api.Entry {
	return api.Entry{Kind: api.EDef, Name: name, Type: t, Body: body}
}

// record is a family with fields, in the least universe.
func record(name string, pars int, t api.Term, made int, fields ...int) api.Entry {
	return api.Entry{Kind: api.EData, Name: name, Type: t, Pars: pars, Cons: []int{made}, Fields: fields}
}

// The places of the families and definitions of world.
const (
	nat   = 0
	vec   = 3
	tree  = 6
	sigma = 8
	one   = 12
	same  = 13
	acc   = 14
	rose  = 16
	none  = 21
	unit  = 22
	up    = 24
	worst = 26
)

// numbers are the numbers and what counts them: the chapter's example.
func numbers() []api.Entry {
	return []api.Entry{
		data("Nat", 0, 0, set, 1, 2),
		con("zero", nat, 0, 0, k(nat)),
		con("suc", nat, 1, 0, fn(k(nat), k(nat))),
	}
}

// world is a signature with all that there is.
func world() []api.Entry {
	family := fn(v(0), set)         // A -> Set
	relation := fn(v(0), v(1), set) // A -> A -> Set
	return append(numbers(),
		data("Vec", 1, 1, fn(set, k(nat), set), 4, 5),
		con("nil", vec, 0, 1, fn(set, k(vec, v(0), k(1)))),
		con("cons", vec, 1, 1, fn(set, k(nat), v(1), k(vec, v(2), v(1)), k(vec, v(3), k(2, v(2))))),
		data("W", 2, 0, fn(set, family, set), 7),
		con("sup", tree, 0, 2, fn(set, family, v(1), fn(term.App(v(1), v(0)), k(tree, v(3), v(2))), k(tree, v(3), v(2)))),
		record("Sigma", 2, fn(set, family, set), 9, 10, 11),
		con("pair", sigma, 0, 2, fn(set, family, v(1), term.App(v(1), v(0)), k(sigma, v(3), v(2)))),
		field("fst", sigma, 0, 2, fn(set, family, k(sigma, v(1), v(0)), v(2))),
		field("snd", sigma, 1, 2, fn(set, family, k(sigma, v(1), v(0)), term.App(v(1), k(10, v(2), v(1), v(0))))),
		def("one", k(nat), k(2, k(1))),
		def("id", fn(set, v(0), v(1)), term.Lam(set, term.Lam(v(0), v(0)))),
		data("Acc", 2, 1, fn(set, relation, v(1), set), 15),
		con("acc", acc, 0, 2, fn(set, relation, v(1), fn(v(2), term.Apply(v(2), v(0), v(1)), k(acc, v(4), v(3), v(1))), k(acc, v(3), v(2), v(1)))),
		data("Rose", 1, 0, fn(set, set), 17, 18, 19, 20),
		con("leaf", rose, 0, 1, fn(set, k(rose, v(0)))),
		con("node", rose, 1, 1, fn(set, k(nat), k(vec, k(rose, v(1)), v(0)), k(rose, v(2)))),                               // the family within an argument of another one
		con("nest", rose, 2, 1, fn(set, k(rose, k(nat)), fn(k(rose, v(1)), v(2)), k(rose, v(2)))),                          // with another parameter; to the left alone
		con("both", rose, 3, 1, fn(set, v(0), k(rose, v(1)), v(2), fn(k(rose, v(3)), k(rose, v(4))), v(4), k(rose, v(5)))), // recursive ones among others
		data("Empty", 0, 0, set),
		record("Unit", 0, set, 23),
		con("tt", unit, 0, 0, k(unit)),
		api.Entry{Kind: api.EData, Name: "Up", Type: fn(term.Sort(2), term.Sort(3)), Inds: 1, Level: 3, Cons: []int{25}},
		con("up", up, 0, 0, fn(term.Sort(2), k(up, v(0)), k(up, v(1)))),
		record("Worst", 0, set, 27, 28),
		con("worst", worst, 0, 0, fn(term.Elim(nat, 7), k(worst))),
		field("worse", worst, 0, 0, fn(k(worst), set, set)),
	)
}

// wantParts are the parts of the constructors of world.
func wantParts() map[int]Con {
	family := k(rose, v(1))
	return map[int]Con{
		1:  {},
		2:  {Args: terms(k(nat)), Recs: []Rec{{Is: true}}},
		4:  {Inds: terms(k(1))},
		5:  {Args: terms(k(nat), v(1), k(vec, v(2), v(1))), Inds: terms(k(2, v(2))), Recs: []Rec{{}, {}, {Is: true, At: terms(v(1))}}},
		7:  {Args: terms(v(1), fn(term.App(v(1), v(0)), k(tree, v(3), v(2)))), Recs: []Rec{{}, {Is: true, Around: terms(term.App(v(1), v(0)))}}},
		9:  {Args: terms(v(1), term.App(v(1), v(0))), Recs: []Rec{{}, {}}},
		15: {Args: terms(v(1), fn(v(2), term.Apply(v(2), v(0), v(1)), k(acc, v(4), v(3), v(1)))), Inds: terms(v(1)), Recs: []Rec{{}, {Is: true, Around: terms(v(2), term.Apply(v(2), v(0), v(1))), At: terms(v(1))}}},
		17: {},
		18: {Args: terms(k(nat), k(vec, family, v(0))), Recs: []Rec{{}, {}}},
		19: {Args: terms(k(rose, k(nat)), fn(family, v(2))), Recs: []Rec{{}, {}}},
		20: {Args: terms(v(0), family, v(2), fn(k(rose, v(3)), k(rose, v(4))), v(4)), Recs: []Rec{{}, {Is: true}, {}, {Is: true, Around: terms(k(rose, v(3)))}, {}}},
		23: {},
		25: {Args: terms(term.Sort(2), k(up, v(0))), Inds: terms(v(1)), Recs: []Rec{{}, {Is: true, At: terms(v(0))}}},
		27: {Args: terms(term.Elim(nat, 7)), Recs: []Rec{{}}},
	}
}

// sameTerms tells whether two lists of shaped terms are the same.
func sameTerms(a, b []api.Term) bool { return slices.EqualFunc(a, b, term.Same) }

// sameParts tells whether two constructors' parts are the same.
func sameParts(a, b Con) bool {
	return sameTerms(a.Args, b.Args) && sameTerms(a.Inds, b.Inds) && slices.EqualFunc(a.Recs, b.Recs, func(a, b Rec) bool {
		return a.Is == b.Is && sameTerms(a.Around, b.Around) && sameTerms(a.At, b.At)
	})
}

// outside are numbers of no entry of a list.
func outside(l []api.Entry) []int {
	return []int{-1, -2, math.MinInt, len(l), len(l) + 1, math.MaxInt, api.MaxSig, math.MaxInt32, math.MinInt32}
}

func TestFormedOrdinary(t *testing.T) { // P12.1
	for i, l := range [][]api.Entry{nil, {}, numbers(), world(), world()[:12], {def("x", set, set)}, {data("D", 0, 0, set)}} {
		if !Formed(l) {
			t.Errorf("%d: %s", i, toldAll(l))
		}
	}
}

func TestFind(t *testing.T) { // P12.1
	l := world()
	for i, e := range l {
		if n, no := Find(l, e.Name); n != i || no != api.OK {
			t.Errorf("%s: %d, %v, not %d", e.Name, n, no, i)
		}
	}
	for _, s := range []string{"", "nat", "Na", "Natt", "NAT", "zero ", "x", "Set", "\xff", strings.Repeat("a", 100)} {
		if n, no := Find(l, s); n != 0 || no != api.ErrNone {
			t.Errorf("%q: %d, %v", s, n, no)
		}
	}
	twice := append(world(), world()...) // whatever the list is
	if n, no := Find(twice, "suc"); n != 2 || no != api.OK {
		t.Errorf("suc: %d, %v", n, no)
	}
	odd := []api.Entry{{Name: "b"}, {Name: ""}, {Name: "\xff", Kind: -7}, {Name: "data"}, {Name: "b"}}
	for s, want := range map[string]int{"b": 0, "": 1, "\xff": 2, "data": 3} {
		if n, no := Find(odd, s); n != want || no != api.OK {
			t.Errorf("%q: %d, %v, not %d", s, n, no, want)
		}
	}
	for _, l := range [][]api.Entry{nil, {}} {
		if n, no := Find(l, ""); n != 0 || no != api.ErrNone {
			t.Errorf("of none: %d, %v", n, no)
		}
	}
	if n, no := Find(append(slices.Repeat(odd[:1], 5000), def("z", set, set)), "z"); n != 5000 || no != api.OK {
		t.Errorf("of many: %d, %v", n, no)
	}
}

func TestNames(t *testing.T) { // P12.1
	if got := Names(numbers()); !slices.Equal(got, []string{"Nat", "zero", "suc"}) {
		t.Errorf("%v", got)
	}
	odd := []api.Entry{{Name: "b"}, {Name: ""}, {Name: "\xff", Kind: -7}, {Name: "data"}, {Name: "b"}}
	if got := Names(odd); !slices.Equal(got, []string{"b", "", "\xff", "data", "b"}) {
		t.Errorf("%q", got)
	}
	if len(Names(nil)) != 0 || len(Names([]api.Entry{})) != 0 || len(Names(make([]api.Entry, 3000))) != 3000 {
		t.Error("how many")
	}
}

func TestParts(t *testing.T) { // P12.2
	l, want := world(), wantParts()
	for n, e := range l {
		got, no := Parts(l, n)
		if _, is := want[n]; is != (e.Kind == api.ECon) {
			t.Fatalf("%s: no constructor", e.Name)
		}
		if e.Kind == api.ECon {
			if no != api.OK || !sameParts(got, want[n]) {
				t.Errorf("%s: %v, %v, not %v", e.Name, got, no, want[n])
			}
		} else if no != api.ErrNone || !reflect.DeepEqual(got, Con{}) {
			t.Errorf("%s: %v, %v", e.Name, got, no)
		}
	}
	for _, n := range outside(l) {
		if got, no := Parts(l, n); no != api.ErrNone || !reflect.DeepEqual(got, Con{}) {
			t.Errorf("%d: %v, %v", n, got, no)
		}
	}
	for _, n := range outside(nil) {
		if got, no := Parts(nil, n); no != api.ErrNone || !reflect.DeepEqual(got, Con{}) {
			t.Errorf("of none, %d: %v, %v", n, got, no)
		}
	}
}

func TestEvery(t *testing.T) { // P12.2
	l, want := world(), wantParts()
	got, no := Every(l)
	if no != api.OK || len(got) != len(l) {
		t.Fatalf("%d, %v", len(got), no)
	}
	for n := range l {
		if !sameParts(got[n], want[n]) || l[n].Kind != api.ECon && !reflect.DeepEqual(got[n], Con{}) {
			t.Errorf("%d: %v, not %v", n, got[n], want[n])
		}
	}
	for _, l := range [][]api.Entry{nil, {}} {
		if got, no := Every(l); len(got) != 0 || no != api.OK {
			t.Errorf("of none: %v, %v", got, no)
		}
	}
}

func TestPars(t *testing.T) { // P12.2
	l := world()
	family, relation := fn(v(0), set), fn(v(0), v(1), set)
	want := map[int][2][]api.Term{
		nat:   {},
		vec:   {terms(set), terms(k(nat))},
		tree:  {terms(set, family), nil},
		sigma: {terms(set, family), nil},
		acc:   {terms(set, relation), terms(v(1))},
		rose:  {terms(set), nil},
		none:  {},
		unit:  {},
		up:    {nil, terms(term.Sort(2))},
		worst: {},
	}
	for n, e := range l {
		pars, inds, no := Pars(l, n)
		both, is := want[n]
		if is != (e.Kind == api.EData) {
			t.Fatalf("%s: no family", e.Name)
		}
		if is && (no != api.OK || !sameTerms(pars, both[0]) || !sameTerms(inds, both[1])) || !is && (no != api.ErrNone || pars != nil || inds != nil) {
			t.Errorf("%s: %v, %v, %v", e.Name, pars, inds, no)
		}
	}
	for _, n := range outside(l) {
		if pars, inds, no := Pars(l, n); no != api.ErrNone || pars != nil || inds != nil {
			t.Errorf("%d: %v, %v, %v", n, pars, inds, no)
		}
	}
}

func TestRecord(t *testing.T) { // P12.2
	l := world()
	for n, e := range l {
		if got := Record(l, n); got != (n == sigma || n == worst) {
			t.Errorf("%s: %v", e.Name, got)
		}
	}
	for _, n := range outside(l) {
		if Record(l, n) || Record(nil, n) {
			t.Errorf("%d", n)
		}
	}
	if broken := append(world(), def("Set", set, set)); Record(broken, sigma) {
		t.Error("of what is not formed")
	}
}

// TestShape asks that what is not formed is ErrShape, whatever the number is.
func TestShape(t *testing.T) { // P12.2
	for _, broken := range [][]api.Entry{append(world(), def("one", set, set)), world()[:11], append(world(), api.Entry{}), {{}}, append(world(), def("x", set, api.Term{}))} {
		for _, n := range append(outside(broken), 0, 2, 5, vec, sigma, one, same, len(broken)-1) {
			if got, no := Parts(broken, n); no != api.ErrShape || !reflect.DeepEqual(got, Con{}) {
				t.Errorf("Parts, %d: %v, %v", n, got, no)
			}
			if pars, inds, no := Pars(broken, n); no != api.ErrShape || pars != nil || inds != nil {
				t.Errorf("Pars, %d: %v, %v, %v", n, pars, inds, no)
			}
			if Record(broken, n) {
				t.Errorf("Record, %d", n)
			}
		}
		if got, no := Every(broken); no != api.ErrShape || got != nil {
			t.Errorf("Every: %v, %v", got, no)
		}
		if got, no := Add(broken, nil); no != api.ErrShape || got != nil {
			t.Errorf("Add: %v, %v", got, no)
		}
	}
}

// around is a family with one constructor, whose one argument's type has so many types around the family.
func around(n int) []api.Entry {
	return []api.Entry{
		data("D", 1, 1, fn(set, set, set), 1),
		con("c", 0, 0, 1, fn(set, pis(n, k(0, v(n), v(0))), k(0, v(1), set))),
	}
}

// TestAround asks for the types around the family in an argument's type: as many as MaxTele, and one more.
func TestAround(t *testing.T) { // P12.2
	for _, n := range []int{0, 1, 2, api.MaxTele - 1, api.MaxTele, api.MaxTele + 1, api.MaxTele + 2, 60} {
		l := around(n)
		want := Con{Args: terms(pis(n, k(0, v(n), v(0)))), Inds: terms(set), Recs: []Rec{{}}}
		if n <= api.MaxTele {
			want.Recs[0] = Rec{Is: true, Around: slices.Repeat(terms(set), n), At: terms(v(0))}
		}
		if got, no := Parts(l, 1); no != api.OK || !sameParts(got, want) {
			t.Errorf("%d: %v, %v", n, got, no)
		}
		if got, no := Every(l); no != api.OK || !sameParts(got[1], want) {
			t.Errorf("Every, %d: %v, %v", n, got, no)
		}
	}
}

// TestRecursive asks which argument types come to the family.
func TestRecursive(t *testing.T) { // P12.2
	for i, each := range []struct {
		x    api.Term // beneath the parameters A and B, and one argument
		want Rec
	}{
		{k(3, v(2), v(1), v(0)), Rec{Is: true, At: terms(v(0))}},
		{k(3, v(2), v(1), set), Rec{Is: true, At: terms(set)}},
		{k(3, v(2), v(1), k(3, v(2), v(1), v(0))), Rec{Is: true, At: terms(k(3, v(2), v(1), v(0)))}},                                // the family in its own index
		{fn(k(3, v(2), v(1), v(0)), set), Rec{}},                                                                                    // to the left alone
		{fn(k(3, v(2), v(1), v(0)), k(3, v(3), v(2), v(0))), Rec{Is: true, Around: terms(k(3, v(2), v(1), v(0))), At: terms(v(0))}}, // on both sides
		{fn(v(0), v(1), k(3, v(4), v(3), v(1))), Rec{Is: true, Around: terms(v(0), v(1)), At: terms(v(1))}},
		{k(3, v(1), v(2), v(0)), Rec{}},                // the parameters' variables, not in their order
		{k(3, v(2), v(2), v(0)), Rec{}},                // one of them twice
		{k(3, v(1), v(0), v(0)), Rec{}},                // one too low
		{k(3, v(2), set, v(0)), Rec{}},                 // a parameter that is no variable
		{k(3, v(2), v(1)), Rec{}},                      // no index
		{k(3, v(2), v(1), v(0), v(0)), Rec{}},          // an index too many
		{k(3), Rec{}},                                  // no argument
		{term.Const(nat), Rec{}},                       // another family
		{k(nat, v(2), v(1), v(0)), Rec{}},              // with its arguments
		{term.Apply(v(0), v(2), v(1), v(0)), Rec{}},    // a variable
		{term.App(set, k(3, v(2), v(1), v(0))), Rec{}}, // as an argument
		{term.Lam(set, k(3, v(3), v(2), v(0))), Rec{}}, // beneath a function
		{term.Apply(term.Elim(3, 0), v(2), v(1), v(0)), Rec{}},
		{term.Apply(term.Lam(set, k(3)), set, v(2), v(1), v(0)), Rec{}},
		{fn(set, k(3, v(2), v(1), v(0))), Rec{}}, // not lifted
		{fn(set, set, k(3, v(4), v(3), v(2))), Rec{Is: true, Around: terms(set, set), At: terms(v(2))}},
		{v(0), Rec{}},
		{set, Rec{}},
	} {
		l := append(numbers(), data("D", 2, 1, fn(set, set, set, set), 4), con("c", 3, 0, 2, fn(set, set, set, each.x, k(3, v(3), v(2), v(1)))))
		want := Con{Args: terms(set, each.x), Inds: terms(v(1)), Recs: []Rec{{}, each.want}}
		if got, no := Parts(l, 4); no != api.OK || !sameParts(got, want) || !each.want.Is && !reflect.DeepEqual(got.Recs[1], Rec{}) {
			t.Errorf("%d, %s: %v, %v", i, told(each.x), got, no)
		}
	}
}

func TestAdd(t *testing.T) { // P12.2
	all := world()
	for _, n := range []int{0, 3, 6, 8, 12, 13, 14, 16, 21, 22, 24, 26, 29} {
		for _, m := range []int{0, 3, 6, 8, 12, 13, 14, 16, 21, 22, 24, 26, 29} {
			if n <= m {
				got, no := Add(all[:n], all[n:m])
				if no != api.OK || !reflect.DeepEqual(got, append([]api.Entry(nil), world()[:m]...)) {
					t.Errorf("%d, %d: %v, %v", n, m, toldAll(got), no)
				}
			}
		}
	}
	for _, l := range [][]api.Entry{nil, {}} {
		for _, more := range [][]api.Entry{nil, {}} {
			if got, no := Add(l, more); no != api.OK || len(got) != 0 {
				t.Errorf("nothing to nothing: %v, %v", got, no)
			}
		}
	}
}

// TestAddErrors has several errors at once: the first of ErrShape, ErrLong, ErrTwice, ErrShape holds.
func TestAddErrors(t *testing.T) { // P12.2
	full := defs(api.MaxSig)
	fine, bad := def("z", set, set), def("Set", set, set)
	for i, each := range []struct {
		l, more []api.Entry
		want    api.Errno
	}{
		{[]api.Entry{bad}, nil, api.ErrShape},
		{[]api.Entry{bad}, full, api.ErrShape},
		{[]api.Entry{bad}, []api.Entry{bad}, api.ErrShape},
		{numbers()[:2], numbers()[2:], api.ErrShape}, // both together would be formed
		{nil, numbers()[2:], api.ErrShape},
		{defs(api.MaxSig + 1), nil, api.ErrShape},
		{full, nil, api.OK},
		{nil, full, api.OK},
		{full, []api.Entry{fine}, api.ErrLong},
		{full, []api.Entry{full[0]}, api.ErrLong},
		{full, []api.Entry{bad}, api.ErrLong},
		{nil, defs(api.MaxSig + 1), api.ErrLong},
		{nil, make([]api.Entry, api.MaxSig+1), api.ErrLong},
		{nil, make([]api.Entry, 5000), api.ErrLong},
		{full[:api.MaxSig-1], []api.Entry{fine}, api.OK},
		{full[:api.MaxSig-1], []api.Entry{fine, fine}, api.ErrLong},
		{full[1:], full[:1], api.OK},
		{full[:3], full[2:3], api.ErrTwice},
		{full[:3], full[:1], api.ErrTwice},
		{full[:3], []api.Entry{fine, full[1]}, api.ErrTwice},
		{full[:3], []api.Entry{bad, full[1]}, api.ErrTwice},
		{full[:3], []api.Entry{{}, {Name: full[2].Name, Kind: -1}}, api.ErrTwice},
		{full[:3], []api.Entry{fine, fine}, api.ErrShape}, // a name that stands twice, but not in l
		{full[:3], []api.Entry{bad}, api.ErrShape},
		{full[:3], []api.Entry{{}}, api.ErrShape},
		{nil, []api.Entry{{}}, api.ErrShape},
		{nil, world(), api.OK},
		{full[:3], []api.Entry{def("z", k(3), set)}, api.ErrShape}, // it names itself
		{full[:3], []api.Entry{def("z", k(2), k(1))}, api.OK},
		{numbers(), []api.Entry{con("more", nat, 2, 0, k(nat))}, api.ErrShape}, // a constructor of what is there
		{numbers(), numbers(), api.ErrTwice},
		{nil, []api.Entry{{Kind: api.EData, Name: "D", Type: set, Body: v(-1)}}, api.ErrShape}, // what a copy would mend
		{full[:3], []api.Entry{{Kind: api.EData, Name: "D", Type: set, Body: api.Term{Kind: 9}}}, api.ErrShape},
	} {
		got, no := Add(each.l, each.more)
		if no != each.want || no != api.OK && got != nil || no == api.OK && !reflect.DeepEqual(got, slices.Concat(each.l, each.more)) {
			t.Errorf("%d: %s, %v, not %v", i, toldAll(got), no, each.want)
		}
	}
}

// defs are so many definitions.
func defs(n int) []api.Entry {
	var l []api.Entry
	for i := range n {
		l = append(l, def("d"+strconv.Itoa(i), set, set))
	}
	return l
}
