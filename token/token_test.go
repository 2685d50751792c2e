package token

import (
	"math"
	"regexp"
	"slices"
	"strconv"
	"strings"
	"testing"
	"unicode/utf8"

	"scholium/api"
	"scholium/name"
	"scholium/utf"
)

// told writes tokens in one line: of each its kind, its text, and its offset.
func told(l []Token) string {
	kinds := map[int]string{TName: "name", TKey: "key", TNum: "num", TMark: "mark", TEnd: "end"}
	var words []string
	for _, t := range l {
		words = append(words, kinds[t.Kind]+" "+t.Text+" "+strconv.Itoa(t.At))
	}
	return strings.Join(words, ", ")
}

// bare leaves offsets away.
func bare(l []Token) []Token {
	l = slices.Clone(l)
	for i := range l {
		l[i].At = 0
	}
	return l
}

// refused checks that a text has an error, at an offset, and nothing beside it.
func refused(t *testing.T, s string, at int, want api.Errno) {
	t.Helper()
	if l, stop, e := All(s); l != nil || stop != at || e != want {
		t.Errorf("All(%.60q): %.200s at %d, %v; not %v at %d", s, told(l), stop, e, want, at)
	}
}

// single checks that a text is one token, and gives it back as it is told.
func single(t *testing.T, s string, kind int, text string) {
	t.Helper()
	want := []Token{{kind, text, 0}, {TEnd, "", len(s)}}
	if l, at, e := All(s); !slices.Equal(l, want) || at != len(s) || e != api.OK {
		t.Errorf("All(%.60q): %s at %d, %v", s, told(l), at, e)
	}
}

// cuts are texts with their tokens.
var cuts = []struct{ s, want string }{
	{"", "end  0"},
	{" ", "end  1"},
	{" \t\r\n", "end  4"},
	{"x", "name x 0, end  1"},
	{" x ", "name x 1, end  3"},
	{"x y", "name x 0, name y 2, end  3"},
	{"x\ty\rz\nw", "name x 0, name y 2, name z 4, name w 6, end  7"},
	{"xy", "name xy 0, end  2"},
	{"_", "name _ 0, end  1"},
	{"_ _x __ _' _1", "name _ 0, name _x 2, name __ 5, name _' 8, name _1 11, end  13"},
	{"x'y_1 x''", "name x'y_1 0, name x'' 6, end  9"},
	{"ℕ α∷β é", "name ℕ 0, name α∷β 4, name é 12, end  14"},
	{"data record def Set", "key data 0, key record 5, key def 12, key Set 16, end  19"},
	{"datas record' def1 Set_ _def Data", "name datas 0, name record' 6, name def1 14, name Set_ 19, name _def 24, name Data 29, end  33"},
	{"Set0 Set 0", "name Set0 0, key Set 5, num 0 9, end  10"},
	{"0 7 10 999", "num 0 0, num 7 2, num 10 4, num 999 7, end  10"},
	{"1(2)3", "num 1 0, mark ( 1, num 2 2, mark ) 3, num 3 4, end  5"},
	{"1λ2→3", "num 1 0, mark \\ 1, num 2 3, mark -> 4, num 3 7, end  8"},
	{"1->2", "num 1 0, mark -> 1, num 2 3, end  4"},
	{"x->y", "name x 0, mark -> 1, name y 3, end  4"},
	{"x→y", "name x 0, mark -> 1, name y 4, end  5"},
	{"->->", "mark -> 0, mark -> 2, end  4"},
	{"→->→", "mark -> 0, mark -> 3, mark -> 5, end  8"},
	{"λx\\λ", "mark \\ 0, name x 2, mark \\ 3, mark \\ 4, end  6"},
	{"(){}:=.,;|\\", "mark ( 0, mark ) 1, mark { 2, mark } 3, mark : 4, mark = 5, mark . 6, mark , 7, mark ; 8, mark | 9, mark \\ 10, end  11"},
	{":=..==", "mark : 0, mark = 1, mark . 2, mark . 3, mark = 4, mark = 5, end  6"},
	{"{ ->", "mark { 0, mark -> 2, end  4"},
	{"{→", "mark { 0, mark -> 1, end  4"},
	{"λ (x : A) → x", "mark \\ 0, mark ( 3, name x 4, mark : 6, name A 8, mark ) 9, mark -> 11, name x 15, end  16"},
	{"data N : Set 1 { z : N; }", "key data 0, name N 5, mark : 7, key Set 9, num 1 13, mark { 15, name z 17, mark : 19, name N 21, mark ; 22, mark } 24, end  25"},
}

func TestKinds(t *testing.T) { // P3.1: the numbers that the chapter gives
	if kinds := [...]int{TName, TKey, TNum, TMark, TEnd}; kinds != [...]int{1, 2, 3, 4, 5} {
		t.Errorf("%v", kinds)
	}
}

func TestTokens(t *testing.T) { // P3.1
	for _, c := range cuts {
		if l, at, e := All(c.s); told(l) != c.want || at != len(c.s) || e != api.OK {
			t.Errorf("All(%q): %s at %d, %v", c.s, told(l), at, e)
		}
	}
}

// remarks are texts with remarks in them.
var remarks = []struct{ s, want string }{
	{"--", "end  2"},
	{"--\n", "end  3"},
	{"-- to the end", "end  13"},
	{"-- to the end\nx", "name x 14, end  15"},
	{"x--y\nz", "name x 0, name z 5, end  6"},
	{"1--y\n2", "num 1 0, num 2 5, end  6"},
	{"-->x\ny", "name y 5, end  6"},
	{"---\nx", "name x 4, end  5"},
	{"->--\nx", "mark -> 0, name x 5, end  6"},
	{"->-->\nx", "mark -> 0, name x 6, end  7"},
	{"--a\n--b\n\n--c", "end  12"},
	{"-- # ` 1x 007\rx\ny", "name y 16, end  17"},
	{"-- {-\nx", "name x 6, end  7"},
	{"-- -}\nx", "name x 6, end  7"},
	{"--{-\n-- -}", "end  10"},
	{"{--}", "end  4"},
	{"{---}x", "name x 5, end  6"},
	{"{----}x", "name x 6, end  7"},
	{"{-a-}x", "name x 5, end  6"},
	{"x{-a-}y", "name x 0, name y 6, end  7"},
	{"1{-a-}2", "num 1 0, num 2 6, end  7"},
	{"{{-a-}}", "mark { 0, mark } 6, end  7"},
	{"{-a-}{-b-}", "end  10"},
	{"{-a-}--b", "end  8"},
	{"{- one {- in -} another -}", "end  26"},
	{"{-{--}-}x", "name x 8, end  9"},
	{"{-{-{--}{--}-}{-a-}-}x", "name x 21, end  22"},
	{"{-}-}x", "name x 5, end  6"},
	{"{-{--}}-}x", "name x 9, end  10"},
	{"{--{--}-}x", "name x 9, end  10"},
	{"{->-}x", "name x 5, end  6"},
	{"{- -- -}x", "name x 8, end  9"},
	{"{- -- {- -} -} x", "name x 15, end  16"},
	{"{- -- \n -}x", "name x 10, end  11"},
	{"{- # ` 1x 007 λ→\n\n -}x", "name x 24, end  25"},
	{"{-\n-}", "end  5"},
}

func TestRemarks(t *testing.T) { // P3.1
	for _, c := range remarks {
		if l, at, e := All(c.s); told(l) != c.want || at != len(c.s) || e != api.OK {
			t.Errorf("All(%q): %s at %d, %v", c.s, told(l), at, e)
		}
	}
	// A remark may have as many within it as a text has room for.
	deep := api.MaxText / 4
	s := strings.Repeat("{-", deep) + strings.Repeat("-}", deep)
	if l, at, e := All(s + "x"); told(l) != "name x "+strconv.Itoa(len(s))+", end  "+strconv.Itoa(len(s)+1) || at != len(s)+1 || e != api.OK {
		t.Errorf("%s at %d, %v", told(l), at, e)
	}
	refused(t, "x"+s[:len(s)-1], 1, api.ErrForm)
	refused(t, "x "+s[2:]+"-}", len(s)-2, api.ErrForm)
}

// none are texts with which no token begins.
var none = []string{
	"-", "- >", "-x", "-1", "-\n-", "-}", "-→", ">", ">-", "'", "'x", "''",
	"!", "\"", "#", "$", "%", "&", "*", "+", "/", "<", "?", "@", "[", "]", "^", "`", "~", "\x00", "\x0b", "\x0c", "\x1f", "\x7f",
	"\u00a0", "\u2000", "\u2003", "\u2014", "\u2019", "\u206f",
	"1x", "1_", "1'", "1α", "9ℕ", "12data", "1Set", "999x", "0x", "0'", "1x1", "1'1",
	"00", "01", "007", "000", "0999", "1000", "9999", "0000000000", "18446744073709551617", strings.Repeat("9", 5000),
	strings.Repeat("n", 41), strings.Repeat("_", 41), strings.Repeat("n", 39) + "α", strings.Repeat("α", 21), strings.Repeat("𝟘", 10) + "1", strings.Repeat("n", 5000), "Set" + strings.Repeat("'", 38),
	"{-", "{->", "{-}", "{-x", "{- {- -}", "{-{-{--}-}", "{- -- \n", "{-->", "{-\n-- -\n}", "{--\n",
}

func TestForm(t *testing.T) { // P3.1
	for _, s := range none {
		for _, ahead := range []string{"", " ", "x ", "x 1 ->(", "-- x\n", "{- -- {--} -}", "\n\n→", "λ", strings.Repeat("x ", api.MaxNodes-1)} {
			for _, behind := range []string{"", "\n", " x", "\n#"} {
				refused(t, ahead+s+behind, len(ahead), api.ErrForm)
			}
		}
	}
	// The first one is told.
	refused(t, "x # 007 {-", 2, api.ErrForm)
	refused(t, "x 007 # {-", 2, api.ErrForm)
	refused(t, "x {- # 007", 2, api.ErrForm)
	refused(t, "{- {- x -} #", 0, api.ErrForm)
	refused(t, "=> x", 1, api.ErrForm)
	refused(t, "-->\n> x", 4, api.ErrForm)
	refused(t, "->- x", 2, api.ErrForm)
	refused(t, "->-", 2, api.ErrForm)
	refused(t, "λ'", 2, api.ErrForm)
	refused(t, "{- a -} -}", 8, api.ErrForm)
}

// TestSigns cuts each sign alone: what it is told as hangs on its kind.
func TestSigns(t *testing.T) { // P3.1
	const marks = "(){}:=.,;|\\"
	for n := range 1114112 {
		s, e := utf.Put(n)
		if e != api.OK {
			continue
		}
		switch {
		case n == 955:
			single(t, s, TMark, "\\")
		case n == 8594:
			single(t, s, TMark, "->")
		case strings.Contains(marks, s):
			single(t, s, TMark, s)
		case name.Letter(n), n == '_':
			single(t, s, TName, s)
		case name.Digit(n):
			single(t, s, TNum, s)
		case name.Blank(n):
			if l, at, e := All(s); told(l) != "end  1" || at != 1 || e != api.OK {
				t.Errorf("%d: %s at %d, %v", n, told(l), at, e)
			}
		default:
			refused(t, s, 0, api.ErrForm)
		}
	}
}

// TestSignsBehind lays each sign behind a name and behind a number.
func TestSignsBehind(t *testing.T) { // P3.1
	for n := range 1114112 {
		s, e := utf.Put(n)
		if e != api.OK || n == '-' || n == 955 || n == 8594 {
			continue
		}
		more := name.Letter(n) || name.Digit(n) || n == '_' || n == '\''
		switch {
		case more:
			single(t, "x"+s, TName, "x"+s)
			if name.Digit(n) {
				single(t, "1"+s, TNum, "1"+s)
			} else {
				refused(t, "1"+s, 0, api.ErrForm)
			}
		case name.Blank(n):
			single(t, "x"+s, TName, "x")
			single(t, "1"+s, TNum, "1")
		case name.Mark(n) && n != '>':
			if l, _, _ := All("x" + s); told(l) != "name x 0, mark "+s+" 1, end  2" {
				t.Errorf("%q: %s", "x"+s, told(l))
			}
			if l, _, _ := All("1" + s); told(l) != "num 1 0, mark "+s+" 1, end  2" {
				t.Errorf("%q: %s", "1"+s, told(l))
			}
		default:
			refused(t, "x"+s, 1, api.ErrForm)
			refused(t, "1"+s, 1, api.ErrForm)
		}
	}
}

func TestNameLong(t *testing.T) { // P3.1: the limit counts bytes
	for _, sign := range []string{"a", "α", "ℕ", "𝟘", "_"} {
		for length := 1; length <= 2*api.MaxName; length++ {
			s := strings.Repeat(sign, length/len(sign)) + strings.Repeat("b", length%len(sign))
			if length <= api.MaxName {
				single(t, s, TName, s)
			} else {
				refused(t, s, 0, api.ErrForm)
			}
		}
	}
}

func TestUtf(t *testing.T) { // P3.1: what is no text is said ahead of all
	for _, bad := range []string{"\xff", "\x80", "\xc0\x80", "\xed\xa0\x80", "\xe2\x86", "\xf4\x90\x80\x80"} {
		for _, ahead := range []string{"", "x ", "# ", "007 ", "{- ", "-- ", "λ", strings.Repeat("x ", api.MaxNodes+1)} {
			refused(t, ahead+bad, len(ahead), api.ErrForm)
			refused(t, ahead+bad+" # \xff", len(ahead), api.ErrForm)
		}
	}
	blank := strings.Repeat(" ", api.MaxText)
	if l, at, e := All(blank); told(l) != "end  65535" || at != api.MaxText || e != api.OK {
		t.Errorf("%s at %d, %v", told(l), at, e)
	}
	single(t, "x"+blank[1:], TName, "x")
	for _, s := range []string{blank + " ", "#" + blank, "{-" + blank, "\xff" + blank, blank + "\xff", strings.Repeat("x ", api.MaxText)} {
		refused(t, s, 0, api.ErrLong)
	}
}

func TestLong(t *testing.T) { // P3.1
	for _, one := range []string{"x ", "( ", "1 ", "Set\n", "-> ", "=", "λ"} {
		full := strings.Repeat(one, api.MaxNodes)
		for _, behind := range []string{"", " ", "\n\t\r ", "-- x # 007 {-", "--\n", "{- # {- 1x -} -}", " {--}--\n {-x-} "} {
			l, at, e := All(full + behind)
			if len(l) != api.MaxNodes+1 || at != len(full+behind) || e != api.OK {
				t.Fatalf("%q, %q: %d tokens, %d %v", one, behind, len(l), at, e)
			}
			if last := l[api.MaxNodes]; last != (Token{TEnd, "", at}) {
				t.Errorf("%q, %q: %s", one, behind, told([]Token{last}))
			}
			// Whether a token begins there or not, one more thing is too much.
			for _, more := range []string{"x", "(", ")", "0", "_", "data", "->", "λ", "#", "'", ">", "007", "1x", "-}", "- x", "\u2000", strings.Repeat("n", 41), "{-", "{- x", "{- {- -}", "{->"} {
				if behind != "-- x # 007 {-" {
					refused(t, full+" "+behind+more, len(full)+1+len(behind), api.ErrLong)
				}
			}
		}
		// What is ahead of the limit is told by its own error, and ahead of what is beyond it.
		refused(t, full[:len(full)-len(one)]+"# x x", len(full)-len(one), api.ErrForm)
		refused(t, "# "+full+"x", 0, api.ErrForm)
	}
}

func TestNumbers(t *testing.T) { // P3.1
	for n := range 1000 {
		s := strconv.Itoa(n)
		single(t, s, TNum, s)
		if got, ok := Number(s); got != n || !ok {
			t.Errorf("Number(%q): %d %v", s, got, ok)
		}
		for _, bad := range []string{"0" + s, "00" + s, s + "x", s + " ", " " + s, "-" + s, "+" + s, s + "'", s + "_", s + ".", s + "\xff", "\xff" + s, s + "\u0661", "\x00" + s} {
			if got, ok := Number(bad); got != 0 || ok {
				t.Errorf("Number(%q): %d %v", bad, got, ok)
			}
		}
		refused(t, "0"+s, 0, api.ErrForm)
	}
	for n := 1000; n < 20000; n++ {
		if got, ok := Number(strconv.Itoa(n)); got != 0 || ok {
			t.Errorf("Number(%d): %d %v", n, got, ok)
		}
	}
	for _, bad := range []string{"", " ", "x", "_", "Set", "(", "->", "\u0661", "\uff11", "𝟙", "\x31\xff", "00", "000", "0000", "1 2", "4294967297", "18446744073709551617", "36893488147419103232", strings.Repeat("9", 70000), strings.Repeat("0", 70000), "1" + strings.Repeat("0", 64), "1e2", "0x1", "1_0"} {
		if got, ok := Number(bad); got != 0 || ok {
			t.Errorf("Number(%.40q): %d %v", bad, got, ok)
		}
	}
}

func TestPlace(t *testing.T) { // P3.1
	for _, c := range []struct {
		s         string
		at        int
		line, col int
	}{
		{"", 0, 1, 1}, {"", 1, 1, 1}, {"", -1, 1, 1},
		{"abc", 0, 1, 1}, {"abc", 1, 1, 2}, {"abc", 2, 1, 3}, {"abc", 3, 1, 4}, {"abc", 4, 1, 4},
		{"abc", -1, 1, 1}, {"abc", math.MinInt, 1, 1}, {"abc", math.MaxInt, 1, 4},
		{"a\nb", 1, 1, 2}, {"a\nb", 2, 2, 1}, {"a\nb", 3, 2, 2}, {"a\nb", 9, 2, 2},
		{"\n", 0, 1, 1}, {"\n", 1, 2, 1}, {"\n\n\n", 2, 3, 1}, {"\n\n\n", 3, 4, 1}, {"\n\n\n", math.MaxInt, 4, 1},
		{"a\nbc\n", 4, 2, 3}, {"a\nbc\n", 5, 3, 1}, {"a\nbc\n", -7, 1, 1},
		// But sign 10 ends no line.
		{"a\r\nb", 2, 1, 3}, {"a\r\nb", 3, 2, 1}, {"a\rb", 2, 1, 3}, {"a\u0085b\u2028c", 7, 1, 5}, {"a\x0bb\x0cc", 4, 1, 5},
		// Signs are counted, not bytes; within a sign its first byte stands ahead.
		{"λx", 0, 1, 1}, {"λx", 1, 1, 2}, {"λx", 2, 1, 2}, {"λx", 3, 1, 3},
		{"\n→x", 1, 2, 1}, {"\n→x", 2, 2, 2}, {"\n→x", 3, 2, 2}, {"\n→x", 4, 2, 2}, {"\n→x", 5, 2, 3},
		{"𝟘y", 4, 1, 2}, {"𝟘y", 5, 1, 3}, {"𝟘y", 3, 1, 2}, {"𝟘", 1 << 40, 1, 2},
		// What is no text has places too.
		{"\xff\xc0\xfe", 3, 1, 4}, {"\x80\xbf", 2, 1, 1}, {"\x80\n\xbfa", 3, 2, 1}, {"\x80\n\xbfa", 4, 2, 2}, {"\x7f\xc0", 2, 1, 3},
		{"data N : Set { z : N; } def f : N -> N { x = y; }", 45, 1, 46},
	} {
		if line, col := Place(c.s, c.at); line != c.line || col != c.col {
			t.Errorf("Place(%q, %d): %d %d, not %d %d", c.s, c.at, line, col, c.line, c.col)
		}
	}
	// A text beyond the limit has places all the same.
	long := strings.Repeat("αβ\n", api.MaxText)
	if line, col := Place(long, len(long)-1); line != api.MaxText || col != 3 {
		t.Errorf("%d %d", line, col)
	}
}

// TestPlaceEach counts lines and columns byte by byte.
func TestPlaceEach(t *testing.T) { // P3.1
	s := "data Nat : Set {\n\tzero : Nat; -- λ\r\n\n  suc : ℕ → 𝟘\xff\x80;\n}"
	line, col := 1, 1
	for at := range len(s) {
		if l, c := Place(s, at); l != line || c != col {
			t.Errorf("%d: %d %d, not %d %d", at, l, c, line, col)
		}
		switch {
		case s[at] == '\n':
			line, col = line+1, 1
		case s[at] < 128 || s[at] > 191:
			col++
		}
	}
	if l, c := Place(s, len(s)); l != line || c != col {
		t.Errorf("end: %d %d, not %d %d", l, c, line, col)
	}
}

// each gives all texts of at most so many parts.
func each(parts []string, most int, check func(string)) {
	check("")
	if most == 0 {
		return
	}
	for _, p := range parts {
		each(parts, most-1, func(s string) {
			check(p + s)
		})
	}
}

var (
	wordForm   = regexp.MustCompile(`^[a-zA-Z_][a-zA-Z0-9_']*`)
	numberForm = regexp.MustCompile(`^[0-9]+`)
	markForm   = regexp.MustCompile(`^([(){}:=.,;|\\]|->)`)
	lineForm   = regexp.MustCompile(`^--[^\n]*`)
)

// slow cuts a text without letters beyond z as the chapter's words say it, kind by kind: what All must tell.
func slow(s string) ([]Token, int, api.Errno) {
	var l []Token
	at := 0
	add := func(kind int, text string, size int) {
		l = append(l, Token{kind, text, at})
		at += size
	}
	for at < len(s) {
		rest := s[at:]
		switch {
		case strings.ContainsAny(rest[:1], "\t\n\r "):
			at++
		case lineForm.MatchString(rest):
			at += len(lineForm.FindString(rest))
		case strings.HasPrefix(rest, "{-"):
			end := slowRemark(rest)
			if end < 0 {
				return nil, at, api.ErrForm
			}
			at += end
		case strings.HasPrefix(rest, "λ"):
			add(TMark, "\\", len("λ"))
		case strings.HasPrefix(rest, "→"):
			add(TMark, "->", len("→"))
		case markForm.MatchString(rest):
			text := markForm.FindString(rest)
			add(TMark, text, len(text))
		case numberForm.MatchString(rest):
			text := numberForm.FindString(rest)
			n, _ := strconv.Atoi(text)
			behind := rest[len(text):]
			if n > 999 || strconv.Itoa(n) != text || wordForm.MatchString(behind) || strings.HasPrefix(behind, "'") {
				return nil, at, api.ErrForm
			}
			add(TNum, text, len(text))
		case wordForm.MatchString(rest):
			text := wordForm.FindString(rest)
			kind := TName
			if slices.Contains([]string{"data", "record", "def", "Set"}, text) {
				kind = TKey
			}
			if len(text) > 40 {
				return nil, at, api.ErrForm
			}
			add(kind, text, len(text))
		default:
			return nil, at, api.ErrForm
		}
	}
	add(TEnd, "", 0)
	return l, at, api.OK
}

// slowRemark finds the end of a remark, the ones within it each by itself; -1 if there is none.
func slowRemark(s string) int {
	at := 2
	for at < len(s) {
		switch {
		case strings.HasPrefix(s[at:], "-}"):
			return at + 2
		case strings.HasPrefix(s[at:], "{-"):
			end := slowRemark(s[at:])
			if end < 0 {
				return -1
			}
			at += end
		default:
			at++
		}
	}
	return -1
}

// TestEach holds All against the words over all short texts of what can be mixed up, and P3.2 and P3.3 with it.
func TestEach(t *testing.T) { // P3.1, P3.2, P3.3
	taken := 0
	check := func(s string) {
		l, at, e := All(s)
		want, wantAt, wantE := slow(s)
		if !slices.Equal(l, want) || at != wantAt || e != wantE {
			t.Fatalf("All(%q): %s at %d, %v; not %s at %d, %v", s, told(l), at, e, told(want), wantAt, wantE)
		}
		if e == api.OK {
			taken++
			apart(t, l)
		}
	}
	each([]string{"-", "{", "}", ">", "\n", "x"}, 7, check)
	each([]string{"0", "1", "9", "x", "_", "'", " ", "λ", "("}, 5, check)
	each([]string{"--", "{-", "-}", "->", "→", "\n", "Set", "def", " ", "12", "#"}, 5, check)
	if taken < 10000 {
		t.Errorf("%d texts were taken", taken)
	}
}

// between are blanks and remarks.
var between = []string{" ", "\n", "\t\r\n ", " --\n", " {--}", " {- x {- 1 -} # -} ", " -- ( λ {-\n", "\n--\n--\n{- -- -}\n"}

// apart lays tokens' texts one behind the other, with blanks and remarks between, and cuts them again.
func apart(t *testing.T, l []Token) {
	t.Helper()
	for _, gap := range between {
		var text strings.Builder
		for _, k := range l {
			text.WriteString(gap + k.Text)
		}
		text.WriteString(gap)
		again, at, e := All(text.String())
		if !slices.Equal(bare(again), bare(l)) || at != text.Len() || e != api.OK {
			t.Fatalf("All(%q): %s at %d, %v; not %s", text.String(), told(again), at, e, told(l))
		}
		for _, k := range again {
			if !strings.HasPrefix(text.String()[k.At:], k.Text) {
				t.Fatalf("%q: not at %d", k.Text, k.At)
			}
		}
	}
}

func TestApart(t *testing.T) { // P3.2, P3.3
	for _, c := range slices.Concat(cuts, remarks) {
		l, _, e := All(c.s)
		if e != api.OK {
			t.Fatalf("%q: %v", c.s, e)
		}
		apart(t, l)
	}
	// With no blank beside it a remark keeps tokens apart, too, but behind an open brace it is another one's beginning.
	for _, s := range []string{"x", "1", "Set", "_", ")", "}", ":", "=", ".", ",", ";", "|", "\\", "λ", "->", "→"} {
		for _, behind := range []string{"x", "1", "Set", "_", "(", "{", "}", "\\", "λ", "->", "→"} {
			want, _, _ := All(s + " " + behind)
			for _, gap := range []string{"{--}", "{-{--}-}", "{-\n-}", "--\n", "--->\n", "-- {-\n", "\n", "\t", "\r"} {
				if l, _, e := All(s + gap + behind); !slices.Equal(bare(l), bare(want)) || e != api.OK {
					t.Errorf("%q: %s, %v", s+gap+behind, told(l), e)
				}
			}
		}
	}
}

func TestAgain(t *testing.T) { // Rules 3 and 4: what is answered is new, and the same each time
	const s = "λ (x : A) → x -- x"
	l, at, e := All(s)
	want := told(l)
	for i := range l {
		l[i] = Token{}
	}
	if again, at2, e2 := All(s); told(again) != want || at2 != at || e2 != e {
		t.Errorf("%s at %d, %v", told(again), at2, e2)
	}
}

// FuzzAll looks for texts that break what is promised of any.
func FuzzAll(f *testing.F) { // P3.1, P3.2, P3.3
	for _, c := range slices.Concat(cuts, remarks) {
		f.Add(c.s)
	}
	for _, s := range none {
		f.Add(s)
	}
	f.Fuzz(func(t *testing.T, s string) {
		l, at, e := All(s)
		if at < 0 || at > len(s) || e != api.OK && l != nil {
			t.Fatalf("%d tokens at %d, %v", len(l), at, e)
		}
		if line, col := Place(s, at); line < 1 || col < 1 {
			t.Fatalf("%d %d", line, col)
		}
		if e != api.OK {
			return
		}
		if at != len(s) || !utf8.ValidString(s) {
			t.Fatalf("at %d of %d", at, len(s))
		}
		if len(l)*20+len(s) < api.MaxText {
			apart(t, l)
		}
	})
}
