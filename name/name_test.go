package name

import (
	"math"
	"slices"
	"strconv"
	"strings"
	"testing"

	"scholium/api"
	"scholium/utf"
)

// blankSigns, digitSigns and markSigns are all of their kind.
var (
	blankSigns = []int{9, 10, 13, 32}
	digitSigns = []int{48, 49, 50, 51, 52, 53, 54, 55, 56, 57}
	markSigns  = []int{'(', ')', '{', '}', ':', '=', '.', ',', ';', '|', '\\', 955, 8594, 45, 62}
)

// letterEdges are signs at the bounds between letters and others, with whether they are letters.
var letterEdges = map[int]bool{
	64: false, 65: true, 'M': true, 90: true, 91: false, 95: false, 96: false, 97: true, 'm': true, 122: true, 123: false,
	126: false, 127: false, 128: true, 159: true, 160: false, 161: true, 945: true, 954: true, 955: false, 956: true,
	8191: true, 8192: false, 8193: false, 8216: false, 8302: false, 8303: false, 8304: true, 8593: true, 8594: false, 8595: true,
	55295: true, 57344: true, 65279: true, 65533: true, 65535: true, 65536: true, 120792: true, 1114111: true,
}

// noSigns are numbers that are no signs.
var noSigns = []int{math.MinInt, math.MinInt32, -8594, -955, -97, -48, -32, -1, 55296, 56320, 57343, 1114112, 1 << 21, math.MaxInt32,
	1<<32 + 9, 1<<32 + 48, 1<<32 + 40, 1<<32 + 97, 1<<32 + 955, math.MaxInt}

// names are texts that are names.
var names = []string{
	"a", "z", "A", "Z", "x1", "x'", "x_", "x_1'y", "_x", "__", "_1", "_'", "___", "_0_", "Nat", "suc",
	"α", "é", "μ", "ℕ", "\u0080", "\u1fff", "\u2070", "\ud7ff", "\ue000", "\U0010ffff", "x∷y", "a\u0302", "𝟘",
	"datas", "dat", "Data", "data1", "data'", "_data", "records", "deff", "Def", "def_", "Sets", "set", "Set1", "SET",
	strings.Repeat("n", 40), strings.Repeat("α", 20), strings.Repeat("ℕ", 13) + "x", strings.Repeat("𝟘", 10),
	"_" + strings.Repeat("9", 39), "a" + strings.Repeat("'", 39),
}

// noNames are texts that are none.
var noNames = []string{
	"", "_", "1", "1x", "9", "0a", "'", "'x", "'_", "''",
	"data", "record", "def", "Set",
	" ", " x", "x ", "x y", "\tx", "x\n", "x\r", "_ ", "_-", "_(", "_\x00",
	"x-y", "x>", "(x", "x)", "{", "x}", "x:", "=x", "x=", "x.y", ".x", "x,", "x;", "x|", "x\\", "-", ">",
	"λ", "xλ", "λx", "_λ", "→", "x→y", "→x",
	"x\x00", "\x00", "\x7f", "x\x7f", "x!", "x\"", "x#", "x$", "x%", "x&", "x*", "x+", "x/", "x<", "x?", "x@", "x[", "x]", "x^", "x`", "x~", "`",
	"\u00a0", "x\u00a0", "\u2000", "x\u2000", "x\u2019", "\u206f", "x\u206f",
	"\x80", "x\x80", "x\xff", "\xc0\x80", "x\xc3", "\xce", "x\xed\xa0\x80", "\xed\xbf\xbf", "x\xf4\x90\x80\x80", "\xe2\x86", "_\xff",
	strings.Repeat("n", 41), strings.Repeat("n", 42), strings.Repeat("α", 20) + "x", strings.Repeat("ℕ", 13) + "xy", strings.Repeat("𝟘", 10) + "1",
	strings.Repeat("n", 39) + "α", "_" + strings.Repeat("9", 40), strings.Repeat("n", api.MaxText+1), strings.Repeat("_", 41),
}

func TestKindsOfFew(t *testing.T) { // P2.1
	for n := -300; n < 1114112+300; n++ {
		if want := slices.Contains(blankSigns, n); Blank(n) != want {
			t.Errorf("Blank(%d): %v", n, !want)
		}
		if want := slices.Contains(digitSigns, n); Digit(n) != want {
			t.Errorf("Digit(%d): %v", n, !want)
		}
		if want := slices.Contains(markSigns, n); Mark(n) != want {
			t.Errorf("Mark(%d): %v", n, !want)
		}
	}
}

func TestLetter(t *testing.T) { // P2.1
	for n, want := range letterEdges {
		if Letter(n) != want {
			t.Errorf("Letter(%d): %v", n, !want)
		}
	}
	for n := -300; n < 1114112+300; n++ {
		want := false
		switch {
		case n < 128:
			want = n > 0 && strings.Contains("abcdefghijklmnopqrstuvwxyzABCDEFGHIJKLMNOPQRSTUVWXYZ", string(rune(n)))
		case n <= 1114111:
			want = n != 160 && n != 955 && n != 8594 && (n < 8192 || n > 8303) && (n < 55296 || n > 57343)
		}
		if Letter(n) != want {
			t.Errorf("Letter(%d): %v", n, !want)
		}
	}
}

func TestNoSigns(t *testing.T) { // P2.1: numbers that are no signs are of no kind
	for _, n := range noSigns {
		if Blank(n) || Digit(n) || Mark(n) || Letter(n) {
			t.Errorf("%d: %v %v %v %v", n, Blank(n), Digit(n), Mark(n), Letter(n))
		}
	}
}

func TestRight(t *testing.T) { // P2.1
	for _, s := range names {
		if !Right(s) {
			t.Errorf("Right(%q): false", s)
		}
	}
	for _, s := range noNames {
		if Right(s) {
			t.Errorf("Right(%q): true", s)
		}
	}
}

// TestRightSigns puts each sign at a name's beginning, in it, and behind _.
func TestRightSigns(t *testing.T) { // P2.1
	for n := range 1114112 {
		s, e := utf.Put(n)
		if e != api.OK {
			continue
		}
		goesOn := Letter(n) || Digit(n) || n == '_' || n == '\''
		if Right(s) != Letter(n) {
			t.Errorf("%d alone: %v", n, !Letter(n))
		}
		if Right(s+"x") != (Letter(n) || n == '_') {
			t.Errorf("%d ahead: %v", n, Right(s+"x"))
		}
		for _, text := range []string{"x" + s, "x" + s + "x", "_" + s, "α" + s} {
			if Right(text) != goesOn {
				t.Errorf("%q: %v", text, !goesOn)
			}
		}
	}
}

func TestRightLong(t *testing.T) { // P2.1: the limit counts bytes
	for _, sign := range []string{"a", "α", "ℕ", "𝟘"} {
		for length := 1; length <= 2*api.MaxName; length++ {
			s := strings.Repeat(sign, length/len(sign)) + strings.Repeat("b", length%len(sign))
			if want := length <= api.MaxName; Right(s) != want {
				t.Errorf("%d bytes of %q: %v", length, sign, !want)
			}
		}
	}
}

func TestKeyword(t *testing.T) { // P2.1
	keywords := []string{"data", "record", "def", "Set"}
	for _, s := range keywords {
		if !Keyword(s) {
			t.Errorf("Keyword(%q): false", s)
		}
		for _, other := range []string{s + "x", s + "1", s + " ", " " + s, "_" + s, s[1:], s[:len(s)-1], s + s, strings.ToUpper(s)} {
			if Keyword(other) {
				t.Errorf("Keyword(%q): true", other)
			}
		}
	}
	for _, s := range slices.Concat(names, noNames) {
		if !slices.Contains(keywords, s) && Keyword(s) {
			t.Errorf("Keyword(%q): true", s)
		}
	}
}

func TestFresh(t *testing.T) { // P2.2
	for _, c := range []struct {
		s     string
		taken []string
		want  string
	}{
		{"x", nil, "x"},
		{"x", []string{}, "x"},
		{"x", []string{"y", "x1", "X"}, "x"},
		{"x1", []string{"x", "x2"}, "x1"},
		{"x1", []string{"x1", "x"}, "x2"},
		{"x", []string{"x"}, "x1"},
		{"x", []string{"x", "x", "x"}, "x1"},
		{"x", []string{"x2", "x", "x1"}, "x3"},
		{"x", []string{"x", "x2"}, "x1"},
		{"x", []string{"x", "x0", "x01", "x001"}, "x1"},
		{"x9", []string{"x9"}, "x1"},
		{"x0", []string{"x0"}, "x1"},
		{"x007", []string{"x007"}, "x1"},
		{"x123", []string{"x123", "x1", "x2"}, "x3"},
		{"x1y2", []string{"x1y2"}, "x1y1"},
		{"x1'", []string{"x1'"}, "x1'1"},
		{"x1_", []string{"x1_"}, "x1_1"},
		{"_1", []string{"_1"}, "_2"},
		{"_12", []string{"_12"}, "_1"},
		{"__", []string{"__"}, "__1"},
		{"_'", []string{"_'"}, "_'1"},
		{"α", []string{"α"}, "α1"},
		{"α7", []string{"α7", "α1"}, "α2"},
		{"Set1", []string{"Set1"}, "Set2"},
		{"def", nil, ""},
		// A number with digits of another kind has none at its end.
		{"x\u0661", []string{"x\u0661"}, "x\u06611"},
		// What is taken need be no names.
		{"x", []string{"x", "", "_", "Set", "1", "\xff", " ", strings.Repeat("x", 99)}, "x1"},
	} {
		want := api.OK
		if c.want == "" {
			want = api.ErrForm
		}
		if s, e := Fresh(c.s, c.taken); s != c.want || e != want {
			t.Errorf("Fresh(%q, %q): %q %v", c.s, c.taken, s, e)
		}
	}
}

// count gives a name, and what stands behind it from 1 to n.
func count(s, stem string, n int) []string {
	l := []string{s}
	for i := 1; i <= n; i++ {
		l = append(l, stem+strconv.Itoa(i))
	}
	return l
}

func TestFreshCut(t *testing.T) { // P2.2
	n40, n39, n38 := strings.Repeat("n", 40), strings.Repeat("n", 39), strings.Repeat("n", 38)
	a19, a18 := strings.Repeat("α", 19), strings.Repeat("α", 18)
	h12, h11 := strings.Repeat("ℕ", 12), strings.Repeat("ℕ", 11)
	f9, f8 := strings.Repeat("𝟘", 9), strings.Repeat("𝟘", 8)
	for _, c := range []struct {
		s     string
		taken []string
		want  string
	}{
		{n40, nil, n40},
		{n40, []string{n40}, n39 + "1"},
		{n40, []string{n40, n39 + "1"}, n39 + "2"},
		{n40, count(n40, n39, 9), n38 + "10"},
		{n40, append(count(n40, n39, 9), n38+"10"), n38 + "11"},
		{n39, []string{n39}, n39 + "1"},
		{n39, count(n39, n39, 9), n38 + "10"},
		{n38, count(n38, n38, 99), n38[1:] + "100"},
		// Digits at the end are gone before there is room to be made.
		{n39 + "7", []string{n39 + "7"}, n39 + "1"},
		{n38 + "77", []string{n38 + "77"}, n38 + "1"},
		{n38 + "77", count(n38+"77", n38, 9), n38 + "10"},
		{"x" + strings.Repeat("0", 39), []string{"x" + strings.Repeat("0", 39)}, "x1"},
		// What is left, when signs are left out, may end with digits: they stay.
		{n38 + "5n", []string{n38 + "5n"}, n38 + "51"},
		{n38 + "5n", count(n38+"5n", n38+"5", 9), n38 + "10"},
		// Two numbers may then give the same name.
		{n38 + "1n", count(n38+"1n", n38+"1", 9), n38 + "10"},
		{n38 + "1n", append(count(n38+"1n", n38+"1", 9), n38+"10"), n38 + "20"},
		// Signs of several bytes are left out whole.
		{a19 + "α", []string{a19 + "α"}, a19 + "1"},
		{a19 + "α", count(a19+"α", a19, 9), a19 + "10"},
		{a19 + "α", count(a19+"α", a19, 99), a18 + "100"},
		{a19 + "x", count(a19+"x", a19+"x", 9), a19 + "10"},
		{a19 + "xy", []string{a19 + "xy"}, a19 + "x1"},
		{"x" + a19 + "y", count("x"+a19+"y", "x"+a19, 9), "x" + a18 + "10"},
		{"x" + a19, count("x"+a19, "x"+a19, 9), "x" + a18 + "10"},
		{h12 + "ℕx", []string{h12 + "ℕx"}, h12 + "ℕ1"},
		{h12 + "ℕx", count(h12+"ℕx", h12+"ℕ", 9), h12 + "10"},
		{h12 + "ℕx", append(count(h12+"ℕx", h12+"ℕ", 9), count("y", h12, 9999)[10:5010]...), h11 + "ℕ5010"},
		{f9 + "𝟘", []string{f9 + "𝟘"}, f9 + "1"},
		{f9 + "𝟘", count(f9+"𝟘", f9, 999), f9 + "1000"},
		{"x" + f9 + "y", count("x"+f9+"y", "x"+f9+"y", 99), "x" + f9 + "100"},
		{"x" + f9, count("x"+f9, "x"+f9, 999), "x" + f8 + "1000"},
	} {
		if s, e := Fresh(c.s, c.taken); s != c.want || e != api.OK {
			t.Errorf("Fresh(%q, %d names): %q %v, not %q", c.s, len(c.taken), s, e, c.want)
		}
	}
}

func TestFreshLong(t *testing.T) { // P2.2
	full := count("x", "x", api.MaxNodes-1)
	if s, e := Fresh("x", full); len(full) != api.MaxNodes || s != "x8192" || e != api.OK {
		t.Errorf("%d: %q %v", len(full), s, e)
	}
	if s, e := Fresh("y", full); s != "y" || e != api.OK {
		t.Errorf("%q %v", s, e)
	}
	// The more names are too many, whatever they are, and whether a number is asked for or not.
	for _, more := range []string{"x", "x8192", "", "\xff"} {
		for _, name := range []string{"x", "y"} {
			if s, e := Fresh(name, append(full, more)); s != "" || e != api.ErrLong {
				t.Errorf("%q: %q %v", more, s, e)
			}
		}
	}
	if s, e := Fresh("y", make([]string, 3*api.MaxNodes)); s != "" || e != api.ErrLong {
		t.Errorf("%q %v", s, e)
	}
	// That a text is no name is said ahead of it.
	for _, bad := range noNames {
		for _, taken := range [][]string{nil, {"x"}, {bad}, full, append(full, "z")} {
			if s, e := Fresh(bad, taken); s != "" || e != api.ErrForm {
				t.Errorf("Fresh(%q, %d names): %q %v", bad, len(taken), s, e)
			}
		}
	}
}

// TestFreshMost takes as many names as there may be away from each name, in turn.
func TestFreshMost(t *testing.T) { // P2.2, P2.3
	for _, s := range []string{"x", "_1", strings.Repeat("n", 40), strings.Repeat("𝟘", 10), "x" + strings.Repeat("ℕ", 13), strings.Repeat("n", 35) + "1n1n1"} {
		taken := []string{s}
		at := map[string]int{s: 0}
		last := 0
		for len(taken) < api.MaxNodes {
			// Telling each anew would take long: what Fresh answers is asked for at some lengths alone.
			last++
			next := laid(s, last)
			if _, there := at[next]; there {
				continue
			}
			if len(taken)%1117 == 3 || len(taken) == api.MaxNodes-1 {
				if got, e := Fresh(s, taken); got != next || e != api.OK {
					t.Fatalf("Fresh(%q, %d names): %q %v, not %q", s, len(taken), got, e, next)
				}
			}
			at[next] = len(taken)
			taken = append(taken, next)
		}
		got, e := Fresh(s, taken)
		if _, there := at[got]; there || !Right(got) || e != api.OK {
			t.Errorf("Fresh(%q, %d names): %q %v", s, len(taken), got, e)
		}
	}
}

// laid gives the name with a number behind it, sign by sign.
func laid(s string, number int) string {
	l := []rune(s)
	for len(l) > 0 && l[len(l)-1] >= '0' && l[len(l)-1] <= '9' {
		l = l[:len(l)-1]
	}
	for len(string(l)+strconv.Itoa(number)) > api.MaxName {
		l = l[:len(l)-1]
	}
	return string(l) + strconv.Itoa(number)
}

func TestFreshIsName(t *testing.T) { // P2.3
	for _, s := range names {
		taken := slices.Clone(names)
		for range 120 {
			fresh, e := Fresh(s, taken)
			if e != api.OK || !Right(fresh) || slices.Contains(taken, fresh) {
				t.Fatalf("Fresh(%q, %q): %q %v", s, taken, fresh, e)
			}
			taken = append(taken, fresh)
		}
		if !Distinct(taken[len(names):]) {
			t.Errorf("%q: %q", s, taken)
		}
	}
}

func TestHandedIn(t *testing.T) { // Rule 3: what is handed in stays, and so does what lies behind it
	room := []string{"x", "x1", "y", "behind", "it"}
	given := slices.Clone(room)
	if s, e := Fresh("x", room[:3]); s != "x2" || e != api.OK {
		t.Errorf("%q %v", s, e)
	}
	if s, e := Fresh("it", room[:3]); s != "it" || e != api.OK {
		t.Errorf("%q %v", s, e)
	}
	if !Distinct(room[:3]) || Place(room[:3], "it") != -1 {
		t.Errorf("what lies behind was read")
	}
	if !slices.Equal(room, given) {
		t.Errorf("%q", room)
	}
	// Nothing is kept: the same again is answered the same.
	if s, e := Fresh("x", nil); s != "x" || e != api.OK {
		t.Errorf("%q %v", s, e)
	}
}

func TestDistinct(t *testing.T) { // P2.2
	for _, c := range []struct {
		l    []string
		want bool
	}{
		{nil, true},
		{[]string{}, true},
		{[]string{"x"}, true},
		{[]string{""}, true},
		{[]string{"_"}, true},
		{[]string{"x", "y"}, true},
		{[]string{"x", "X", "x1", "", " ", "_", "\xff", "\xfe"}, true},
		{[]string{"x", "x"}, false},
		{[]string{"", ""}, false},
		{[]string{"_", "_"}, false},
		{[]string{"x", "y", "x"}, false},
		{[]string{"x", "y", "z", "z"}, false},
		{[]string{"y", "y", "z", "x"}, false},
		{[]string{"\xff", "a", "\xff"}, false},
		{count("x", "x", 2*api.MaxNodes), true},
		{append(count("x", "x", 2*api.MaxNodes), "x1"), false},
	} {
		if Distinct(c.l) != c.want {
			t.Errorf("Distinct(%d: %.40q): %v", len(c.l), c.l, !c.want)
		}
	}
}

func TestPlace(t *testing.T) { // P2.2
	for _, c := range []struct {
		l    []string
		s    string
		want int
	}{
		{nil, "x", -1},
		{nil, "", -1},
		{[]string{}, "x", -1},
		{[]string{"x"}, "x", 0},
		{[]string{"x"}, "", -1},
		{[]string{"x"}, "X", -1},
		{[]string{"x1"}, "x", -1},
		{[]string{"x"}, "x1", -1},
		{[]string{""}, "", 0},
		{[]string{"x", "y"}, "x", 0},
		{[]string{"x", "y"}, "y", 1},
		{[]string{"x", "y", "x"}, "x", 2},
		{[]string{"x", "x", "y"}, "x", 1},
		{[]string{"x", "_", "_", "y"}, "_", 2},
		{[]string{"\xff", "\xfe"}, "\xff", 0},
		{count("x", "x", 2*api.MaxNodes), "x", 0},
		{count("x", "x", 2*api.MaxNodes), "x16384", 2 * api.MaxNodes},
		{count("x", "x", 2*api.MaxNodes), "x16385", -1},
	} {
		if at := Place(c.l, c.s); at != c.want {
			t.Errorf("Place(%d: %.40q, %q): %d", len(c.l), c.l, c.s, at)
		}
	}
}

func TestOneKind(t *testing.T) { // P2.4
	for n := range 1114112 {
		kinds := 0
		for _, is := range []func(int) bool{Blank, Digit, Mark, Letter} {
			if is(n) {
				kinds++
			}
		}
		if kinds > 1 || kinds > 0 && (n == '_' || n == '\'' || !utf.Right(n)) {
			t.Errorf("%d: of %d kinds", n, kinds)
		}
	}
}
