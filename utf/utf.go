// Package utf is layer 1: texts as signs, in strict UTF-8. See shared/doc/01-utf.md.
package utf

import (
	"strings"

	"scholium/api"
)

const (
	maxSign  = 1114111
	maxOne   = 127
	maxTwo   = 2047
	maxThree = 65535

	// The numbers of this gap are halves of pairs in another encoding, and signs in none.
	gapFirst = 55296
	gapLast  = 57343

	headTwo   = 192
	headThree = 224
	headFour  = 240
	headEnd   = 248
	tail      = 128
	tailBits  = 6
	tailMask  = 63
)

// Right tells whether n is a sign.
func Right(n int) bool {
	return n >= 0 && n <= maxSign && (n < gapFirst || n > gapLast)
}

// Put gives the bytes of a sign.
func Put(n int) (string, api.Errno) {
	if !Right(n) {
		return "", api.ErrNone
	}
	size := width(n)
	var room [4]byte
	for i := size - 1; i > 0; i-- {
		room[i] = byte(tail | n&tailMask)
		n >>= tailBits
	}
	room[0] = byte(head(size) | n)
	return string(room[:size]), api.OK
}

// Join lays the bytes of signs one behind the other.
func Join(l []int) (string, api.Errno) {
	total := 0
	for _, n := range l {
		if !Right(n) {
			return "", api.ErrNone
		}
		// The total stops growing beyond the limit, so that it can't wrap round.
		if total <= api.MaxText {
			total += width(n)
		}
	}
	if total > api.MaxText {
		return "", api.ErrLong
	}
	var text strings.Builder
	text.Grow(total)
	for _, n := range l {
		sign, _ := Put(n)
		text.WriteString(sign)
	}
	return text.String(), api.OK
}

// Next reads the sign whose bytes begin at an offset, and tells how many bytes it has.
func Next(s string, at int) (int, int, api.Errno) {
	if at < 0 || at >= len(s) {
		return 0, 0, api.ErrForm
	}
	n, size := first(s[at])
	if size == 0 || size > len(s)-at {
		return 0, 0, api.ErrForm
	}
	for _, b := range []byte(s[at+1 : at+size]) {
		if !follows(b) {
			return 0, 0, api.ErrForm
		}
		n = n<<tailBits | int(b&tailMask)
	}
	// A number that needs fewer bytes than it was given is refused: each sign has one way to be written.
	if !Right(n) || width(n) != size {
		return 0, 0, api.ErrForm
	}
	return n, size, api.OK
}

// All reads a whole text's signs; beside them stands where it stopped.
func All(s string) ([]int, int, api.Errno) {
	if len(s) > api.MaxText {
		return nil, 0, api.ErrLong
	}
	var signs []int
	at := 0
	for at < len(s) {
		n, size, e := Next(s, at)
		if e != api.OK {
			return nil, at, e
		}
		signs = append(signs, n)
		at += size
	}
	return signs, at, api.OK
}

// Count tells how many signs a text has.
func Count(s string) (int, api.Errno) {
	signs, _, e := All(s)
	return len(signs), e
}

// width tells how many bytes a sign has: each bound that it passes asks for one more.
func width(n int) int {
	size := 1
	switch {
	case n > maxThree:
		size++
		fallthrough
	case n > maxTwo:
		size++
		fallthrough
	case n > maxOne:
		size++
	}
	return size
}

// head gives the mark that the first of a sign's bytes bears.
func head(size int) int {
	switch size {
	case 4:
		return headFour
	case 3:
		return headThree
	case 2:
		return headTwo
	}
	return 0
}

// first tells a first byte's share of its sign, and how many bytes that sign has; 0 if no sign begins so.
func first(b byte) (int, int) {
	size := 0
	switch {
	case b < tail:
		size = 1
	case b < headTwo || b >= headEnd:
		return 0, 0
	case b >= headFour:
		size = 4
	case b >= headThree:
		size = 3
	default:
		size = 2
	}
	return int(b) - head(size), size
}

// follows tells whether a byte is one of those behind a sign's first.
func follows(b byte) bool {
	return b >= tail && b < headTwo
}
