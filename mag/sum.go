package mag

import "math/bits"

// Add: the sum.
func Add(a, b Mag) Mag {
	a, b = trim(a), trim(b)
	if len(a) < len(b) {
		a, b = b, a
	}
	out := make(Mag, len(a)+1)
	copy(out, a)
	addTo(out, b)
	return trim(out)
}

// Sub: how much more the first one is; 0, if it isn't.
func Sub(a, b Mag) Mag {
	if Cmp(a, b) <= 0 {
		return nil
	}
	out := clone(trim(a))
	takeFrom(out, trim(b))
	return trim(out)
}

// Mul: the product.
func Mul(a, b Mag) Mag {
	a, b = trim(a), trim(b)
	out := make(Mag, len(a)+len(b))
	for i, w := range a {
		out[i+len(b)] = addTimes(out[i:i+len(b)], b, w)
	}
	return trim(out)
}

// addTo adds b to the words of a, of which there are as many, or more. A carry beyond them is lost.
func addTo(a, b Mag) {
	carry := uint64(0)
	for i, w := range b {
		a[i], carry = bits.Add64(a[i], w, carry)
	}
	for i := len(b); carry != 0 && i < len(a); i++ {
		a[i], carry = bits.Add64(a[i], 0, carry)
	}
}

// takeFrom takes b from the words of a, which is no less.
func takeFrom(a, b Mag) {
	borrow := uint64(0)
	for i, w := range b {
		a[i], borrow = bits.Sub64(a[i], w, borrow)
	}
	for i := len(b); borrow != 0; i++ {
		a[i], borrow = bits.Sub64(a[i], 0, borrow)
	}
}

// addTimes adds b times w to as many words of a; the carry beyond them, which is no more than a word.
func addTimes(a, b Mag, w uint64) uint64 {
	over := uint64(0)
	for i, v := range b {
		var c, d uint64
		hi, lo := bits.Mul64(v, w)
		lo, c = bits.Add64(lo, over, 0)
		a[i], d = bits.Add64(a[i], lo, 0)
		over = hi + c + d
	}
	return over
}

// takeTimes takes b times w from as many words of a; what is to be taken beyond them, which is no more than a word.
func takeTimes(a, b Mag, w uint64) uint64 {
	over := uint64(0)
	for i, v := range b {
		var c, d uint64
		hi, lo := bits.Mul64(v, w)
		lo, c = bits.Add64(lo, over, 0)
		a[i], d = bits.Sub64(a[i], lo, 0)
		over = hi + c + d
	}
	return over
}
