package utf

import (
	"math"
	"slices"
	"strings"
	"testing"
	"unicode/utf8"

	"scholium/api"
)

// edges are the signs at the bounds that the chapter names, with their bytes.
var edges = []struct {
	n int
	s string
}{
	{0, "\x00"},
	{'a', "a"},
	{127, "\x7f"},
	{128, "\xc2\x80"},
	{955, "\xce\xbb"},
	{2047, "\xdf\xbf"},
	{2048, "\xe0\xa0\x80"},
	{0x2192, "\xe2\x86\x92"},
	{55295, "\xed\x9f\xbf"},
	{57344, "\xee\x80\x80"},
	{65533, "\xef\xbf\xbd"},
	{65535, "\xef\xbf\xbf"},
	{65536, "\xf0\x90\x80\x80"},
	{0x1d7d8, "\xf0\x9d\x9f\x98"},
	{1114111, "\xf4\x8f\xbf\xbf"},
}

// noSigns are numbers that are no signs.
var noSigns = []int{-1, math.MinInt, 55296, 56319, 56320, 57343, 1114112, 1<<21 - 1, 1 << 21, math.MaxInt32, math.MaxInt}

// noBytes are bytes with which no sign begins.
var noBytes = []string{
	// Too few.
	"\xc2", "\xdf", "\xe0", "\xe0\xa0", "\xe2\x86", "\xf0", "\xf0\x90", "\xf0\x90\x80", "\xf4\x8f\xbf",
	// Cut short by what does not follow.
	"\xc2a", "\xc2\xc2\x80", "\xe2a\x92", "\xe2\x86a", "\xe2\x86\xc0", "\xf0a\x9f\x98", "\xf0\x9da\x98", "\xf0\x9d\x9fa", "\xc2\x7f", "\xc2\xc0",
	// More than there must be.
	"\xc0\x80", "\xc1\xbf", "\xe0\x80\x80", "\xe0\x9f\xbf", "\xf0\x80\x80\x80", "\xf0\x8f\xbf\xbf",
	// Of numbers that are no signs.
	"\xed\xa0\x80", "\xed\xaf\xbf", "\xed\xb0\x80", "\xed\xbf\xbf", "\xf4\x90\x80\x80", "\xf5\x80\x80\x80", "\xf7\xbf\xbf\xbf",
	// Not the first of any.
	"\x80", "\xbf", "\x80\x80", "\xf8\x88\x80\x80\x80", "\xfb\xbf\xbf\xbf\xbf", "\xfc\x84\x80\x80\x80\x80", "\xfe", "\xff",
}

func TestRight(t *testing.T) { // P1.1
	for _, c := range edges {
		if !Right(c.n) {
			t.Errorf("Right(%d): false", c.n)
		}
	}
	for _, n := range noSigns {
		if Right(n) {
			t.Errorf("Right(%d): true", n)
		}
	}
	for n := -3; n < 1114112+3; n++ {
		if want := n >= 0 && n <= 1114111 && (n < 55296 || n > 57343); Right(n) != want {
			t.Errorf("Right(%d): %v", n, !want)
		}
	}
}

func TestPut(t *testing.T) { // P1.1
	for _, c := range edges {
		if s, e := Put(c.n); s != c.s || e != api.OK {
			t.Errorf("Put(%d): %q %v", c.n, s, e)
		}
	}
	for _, n := range noSigns {
		if s, e := Put(n); s != "" || e != api.ErrNone {
			t.Errorf("Put(%d): %q %v", n, s, e)
		}
	}
}

func TestJoin(t *testing.T) { // P1.1
	var l []int
	want := ""
	for _, c := range edges {
		l = append(l, c.n)
		want += c.s
	}
	given := slices.Clone(l)
	if s, e := Join(l); s != want || e != api.OK {
		t.Errorf("%q %v", s, e)
	}
	if !slices.Equal(l, given) {
		t.Errorf("Join changed what it was given: %v", l)
	}
	for _, none := range [][]int{nil, {}} {
		if s, e := Join(none); s != "" || e != api.OK {
			t.Errorf("%q %v", s, e)
		}
	}
	for _, n := range noSigns {
		for _, l := range [][]int{{n}, {n, 'a'}, {'a', n}, {'a', n, 'b'}} {
			if s, e := Join(l); s != "" || e != api.ErrNone {
				t.Errorf("Join(%v): %q %v", l, s, e)
			}
		}
	}
}

func TestJoinLong(t *testing.T) { // P1.1
	for _, c := range edges {
		fits := slices.Repeat([]int{c.n}, api.MaxText/len(c.s))
		if s, e := Join(fits); len(s) != len(fits)*len(c.s) || e != api.OK {
			t.Errorf("%d: %d bytes, %v", c.n, len(s), e)
		}
		full := append(fits, slices.Repeat([]int{'x'}, api.MaxText-len(fits)*len(c.s))...)
		if s, e := Join(full); len(s) != api.MaxText || e != api.OK {
			t.Errorf("%d: %d bytes, %v", c.n, len(s), e)
		}
		if s, e := Join(append(full, 'x')); s != "" || e != api.ErrLong {
			t.Errorf("%d: %d bytes, %v", c.n, len(s), e)
		}
		if s, e := Join(append(fits, c.n)); s != "" || e != api.ErrLong {
			t.Errorf("%d: %d bytes, %v", c.n, len(s), e)
		}
	}
	// That one is no sign is said ahead of the length, wherever it stands.
	long := slices.Repeat([]int{'a'}, 2*api.MaxText)
	for _, at := range []int{0, api.MaxText, len(long) - 1} {
		l := slices.Clone(long)
		l[at] = 55296
		if s, e := Join(l); s != "" || e != api.ErrNone {
			t.Errorf("%d: %d bytes, %v", at, len(s), e)
		}
	}
}

func TestNext(t *testing.T) { // P1.2
	for _, c := range edges {
		for _, before := range []string{"", "a", "\xce\xbb", "\x80", "\xff"} {
			for _, behind := range []string{"", "a", "\xce\xbb", "\x80", "\xff"} {
				s := before + c.s + behind
				if n, size, e := Next(s, len(before)); n != c.n || size != len(c.s) || e != api.OK {
					t.Errorf("Next(%q, %d): %d %d %v", s, len(before), n, size, e)
				}
			}
		}
	}
	for _, s := range noBytes {
		if n, size, e := Next(s, 0); n != 0 || size != 0 || e != api.ErrForm {
			t.Errorf("Next(%q, 0): %d %d %v", s, n, size, e)
		}
		if n, size, e := Next("ab"+s, 2); n != 0 || size != 0 || e != api.ErrForm {
			t.Errorf("Next(%q, 2): %d %d %v", "ab"+s, n, size, e)
		}
	}
}

func TestNextOffsets(t *testing.T) { // P1.2
	for _, s := range []string{"", "a", "ab", "\xce\xbb", "\xf0\x9d\x9f\x98"} {
		for _, at := range []int{-1, -2, math.MinInt, len(s), len(s) + 1, math.MaxInt} {
			if n, size, e := Next(s, at); n != 0 || size != 0 || e != api.ErrForm {
				t.Errorf("Next(%q, %d): %d %d %v", s, at, n, size, e)
			}
		}
	}
	// Within a sign none begins.
	for at := 1; at < 4; at++ {
		if n, size, e := Next("\xf0\x9d\x9f\x98", at); n != 0 || size != 0 || e != api.ErrForm {
			t.Errorf("%d: %d %d %v", at, n, size, e)
		}
	}
	// A text beyond the limit of All is read all the same.
	long := strings.Repeat("a", api.MaxText) + "\xce\xbb"
	if n, size, e := Next(long, api.MaxText); n != 955 || size != 2 || e != api.OK {
		t.Errorf("%d %d %v", n, size, e)
	}
}

// TestNextBytes holds Next against the library's decoder, over every beginning of two bytes and the bytes at which something changes behind it.
func TestNextBytes(t *testing.T) { // P1.2
	changes := []string{"", "\x00", "a", "\x7f", "\x80", "\x8f", "\x90", "\x9f", "\xa0", "\xbf", "\xc0", "\xc2", "\xff"}
	for i := range 256 {
		for j := range 256 {
			for _, third := range changes {
				for _, fourth := range changes {
					s := string([]byte{byte(i), byte(j)}) + third + fourth
					wantN, wantSize, wantE := 0, 0, api.ErrForm
					if r, size := utf8.DecodeRuneInString(s); r != utf8.RuneError || size > 1 {
						wantN, wantSize, wantE = int(r), size, api.OK
					}
					if n, size, e := Next(s, 0); n != wantN || size != wantSize || e != wantE {
						t.Fatalf("Next(%q, 0): %d %d %v", s, n, size, e)
					}
				}
			}
		}
	}
}

func TestAll(t *testing.T) { // P1.2
	var want []int
	s := ""
	for _, c := range edges {
		want = append(want, c.n)
		s += c.s
	}
	if l, at, e := All(s); !slices.Equal(l, want) || at != len(s) || e != api.OK {
		t.Errorf("%v %d %v", l, at, e)
	}
	if l, at, e := All(""); len(l) != 0 || at != 0 || e != api.OK {
		t.Errorf("%v %d %v", l, at, e)
	}
	for _, bad := range noBytes {
		for _, before := range []string{"", "a", s} {
			for _, behind := range []string{"", "z", "\xff"} {
				if l, at, e := All(before + bad + behind); l != nil || at != len(before) || e != api.ErrForm {
					t.Errorf("All(%q): %v %d %v", before+bad+behind, l, at, e)
				}
			}
		}
	}
}

func TestAllNew(t *testing.T) { // P1.2: what is answered is new memory
	l, _, _ := All("abc")
	l[0] = 'z'
	if again, _, _ := All("abc"); !slices.Equal(again, []int{'a', 'b', 'c'}) {
		t.Errorf("%v", again)
	}
}

func TestAllLong(t *testing.T) { // P1.2
	full := strings.Repeat("a", api.MaxText)
	if l, at, e := All(full); len(l) != api.MaxText || at != api.MaxText || e != api.OK {
		t.Errorf("%d %d %v", len(l), at, e)
	}
	wide := strings.Repeat("\xf0\x9d\x9f\x98", api.MaxText/4) + "abc"
	if l, at, e := All(wide); len(l) != api.MaxText/4+3 || at != api.MaxText || e != api.OK {
		t.Errorf("%d %d %v", len(l), at, e)
	}
	if l, at, e := All(full[1:] + "\xff"); l != nil || at != api.MaxText-1 || e != api.ErrForm {
		t.Errorf("%v %d %v", l, at, e)
	}
	// The length is said ahead of the form.
	for _, s := range []string{full + "a", "\xff" + full, "a\xff" + full, full + "\xff", full[1:] + "\xce\xbb", full + full} {
		if l, at, e := All(s); l != nil || at != 0 || e != api.ErrLong {
			t.Errorf("%d bytes: %v %d %v", len(s), l, at, e)
		}
	}
}

func TestCount(t *testing.T) { // P1.2
	full := strings.Repeat("a", api.MaxText)
	for s, want := range map[string]int{"": 0, "a": 1, "\xce\xbb": 1, "\xe2\x86\x92a": 2, "\xf0\x9d\x9f\x98x\xf4\x8f\xbf\xbf": 3, full: api.MaxText, full[1:]: api.MaxText - 1} {
		if n, e := Count(s); n != want || e != api.OK {
			t.Errorf("Count of %d bytes: %d %v", len(s), n, e)
		}
	}
	for _, bad := range noBytes {
		if n, e := Count("a" + bad); n != 0 || e != api.ErrForm {
			t.Errorf("Count(%q): %d %v", "a"+bad, n, e)
		}
	}
	for _, s := range []string{full + "a", "\xff" + full} {
		if n, e := Count(s); n != 0 || e != api.ErrLong {
			t.Errorf("Count of %d bytes: %d %v", len(s), n, e)
		}
	}
}

// TestThereAndBack goes over all signs, as many at once as a text holds.
func TestThereAndBack(t *testing.T) { // P1.3
	const most = api.MaxText / 4
	check := func(l []int) {
		s, e := Join(l)
		if e != api.OK {
			t.Fatalf("Join from %d: %v", l[0], e)
		}
		back, at, e := All(s)
		if !slices.Equal(back, l) || at != len(s) || e != api.OK {
			t.Fatalf("All from %d: %d signs, %d %v", l[0], len(back), at, e)
		}
		if n, e := Count(s); n != len(l) || e != api.OK {
			t.Fatalf("Count from %d: %d %v", l[0], n, e)
		}
		if again, e := Join(back); again != s || e != api.OK {
			t.Fatalf("Join of All from %d: %v", l[0], e)
		}
	}
	var l []int
	for n := range 1114112 {
		if Right(n) {
			l = append(l, n)
		}
		if len(l) == most {
			check(l)
			l = nil
		}
	}
	check(l)
}

func TestOrder(t *testing.T) { // P1.4
	last := ""
	for n := range 1114112 {
		s, e := Put(n)
		if e != api.OK {
			continue
		}
		if n > 0 && s <= last {
			t.Fatalf("%d: %q is not behind %q", n, s, last)
		}
		if s != string(rune(n)) {
			t.Fatalf("%d: %q", n, s)
		}
		last = s
	}
	// And so are lists of them.
	lists := [][]int{nil, {0}, {'a'}, {'a', 0}, {'a', 'b'}, {'a', 955}, {'b'}, {127}, {128}, {2047}, {2048}, {55295, 65536}, {57344}, {65535}, {65535, 0}, {65536}, {1114111}, {1114111, 1114111}}
	for i := 1; i < len(lists); i++ {
		a, _ := Join(lists[i-1])
		b, _ := Join(lists[i])
		if a >= b {
			t.Errorf("%v, %v: %q, %q", lists[i-1], lists[i], a, b)
		}
	}
}
