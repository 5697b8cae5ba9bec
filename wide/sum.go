package wide

import "math/bits"

// Add: the sum; false: it is none of these numbers.
func Add(a, b Wide) (Wide, bool) {
	lo, carry := bits.Add64(a.Lo, b.Lo, 0)
	hi, _ := bits.Add64(a.Hi, b.Hi, carry)
	sum := Wide{Hi: hi, Lo: lo}
	// Only of two that lie on one side may the sum come out on the other one.
	if below(a) == below(b) && below(sum) != below(a) {
		return Wide{}, false
	}
	return sum, true
}

// Neg: the other way round; false: it is none of these numbers.
func Neg(a Wide) (Wide, bool) {
	if a == (Wide{Hi: highest}) {
		return Wide{}, false
	}
	return across(a), true
}

// Sub: the difference; false: it is none of these numbers.
func Sub(a, b Wide) (Wide, bool) {
	diff := less(a, b)
	// Not the sum with -b, since b may be -2^127 where the difference is one of these numbers.
	if below(a) != below(b) && below(diff) != below(a) {
		return Wide{}, false
	}
	return diff, true
}

// Mul: the product of two ints.
func Mul(a, b int) Wide {
	hi, lo := bits.Mul64(size(Of(a)).Lo, size(Of(b)).Lo)
	product := Wide{Hi: hi, Lo: lo}
	if (a < 0) != (b < 0) {
		return across(product)
	}
	return product
}

// Times: so many times; false: it is none of these numbers.
func Times(a Wide, n int) (Wide, bool) {
	s, by := size(a), size(Of(n)).Lo
	carry, lo := bits.Mul64(s.Lo, by)
	over, mid := bits.Mul64(s.Hi, by)
	hi, more := bits.Add64(mid, carry, 0)
	if over != 0 || more != 0 {
		return Wide{}, false
	}
	product, side := Wide{Hi: hi, Lo: lo}, Sign(a)*Sign(Of(n))
	if side < 0 {
		product = across(product)
	}
	// A size of two words that is too great comes out on the wrong side.
	if Sign(product) != side {
		return Wide{}, false
	}
	return product, true
}

// Det: a d less b c.
func Det(a, b, c, d int) Wide {
	return less(Mul(a, d), Mul(b, c))
}

// less is a less b, its words wrapping round.
func less(a, b Wide) Wide {
	lo, borrow := bits.Sub64(a.Lo, b.Lo, 0)
	hi, _ := bits.Sub64(a.Hi, b.Hi, borrow)
	return Wide{Hi: hi, Lo: lo}
}

// across is a less than nothing, its words wrapping round.
func across(a Wide) Wide {
	return less(Wide{}, a)
}
