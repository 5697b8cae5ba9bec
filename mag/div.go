package mag

import (
	"math"
	"math/bits"
)

// Div: quotient and rest; of a divisor that is 0: 0 and all.
func Div(a, b Mag) (Mag, Mag) {
	a, b = trim(a), trim(b)
	if len(b) == 0 || Cmp(a, b) < 0 {
		return nil, clone(a)
	}
	if len(b) == 1 {
		q, r := divWord(a, b[0])
		return q, Of(r)
	}
	return divLong(a, b)
}

// divWord divides by one word, that isn't 0.
func divWord(a Mag, w uint64) (Mag, uint64) {
	quot, rest := make(Mag, len(a)), uint64(0)
	for i := len(a) - 1; i >= 0; i-- {
		quot[i], rest = bits.Div64(rest, a[i], w)
	}
	return trim(quot), rest
}

// divLong divides by two words or more, word by word as one does by hand; a is no less than b.
// Both are moved up first, till the divisor's highest bit is set: only then is a guess from its two highest words good.
func divLong(a, b Mag) (Mag, Mag) {
	n := bits.LeadingZeros64(b[len(b)-1])
	rest := make(Mag, len(a)+1)
	copy(rest, a)
	moveUp(rest, n)
	by := clone(b)
	moveUp(by, n)
	quot := make(Mag, len(a)-len(b)+1)
	for i := len(quot) - 1; i >= 0; i-- {
		quot[i] = takeOften(rest[i:i+len(by)+1], by)
	}
	moveDown(rest, n)
	return trim(quot), trim(rest)
}

// takeOften takes by away from rest as often as it can; how often. rest has one word more, and is less than by moved up by a word.
func takeOften(rest, by Mag) uint64 {
	n := len(by)
	often := guess(rest[n], rest[n-1], rest[n-2], by[n-1], by[n-2])
	if over := takeTimes(rest[:n], by, often); over > rest[n] {
		// The guess is too great by no more than 1; the carry of this sum makes good what was taken too much above.
		addTo(rest[:n], by)
		often--
	}
	rest[n] = 0
	return often
}

// guess is how often two words go into three (the highest first; of the two the highest bit is set, and a, b is no more than x, y):
// for what lies below them this is right, or too great by 1.
func guess(a, b, c, x, y uint64) uint64 {
	if a == x {
		return math.MaxUint64
	}
	often, rest := bits.Div64(a, b, x)
	hi, lo := bits.Mul64(often, y)
	for hi > rest || hi == rest && lo > c {
		often--
		var borrow, carry uint64
		lo, borrow = bits.Sub64(lo, y, 0)
		hi -= borrow
		rest, carry = bits.Add64(rest, x, 0)
		if carry != 0 {
			break
		}
	}
	return often
}
