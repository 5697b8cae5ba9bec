package num

import "isohyet/mag"

// Neg: the other way round.
func Neg(a Num) Num {
	return signed(!a.Minus, clone(a.Mag))
}

// Abs: without its sign.
func Abs(a Num) Num {
	return signed(false, clone(a.Mag))
}

// Add: the sum.
func Add(a, b Num) Num {
	if a.Minus == b.Minus {
		return signed(a.Minus, mag.Add(a.Mag, b.Mag))
	}
	if mag.Cmp(a.Mag, b.Mag) < 0 {
		a, b = b, a
	}
	return signed(a.Minus, mag.Sub(a.Mag, b.Mag))
}

// Sub: the difference.
func Sub(a, b Num) Num {
	b.Minus = !b.Minus
	return Add(a, b)
}

// Sum: of any number of them.
func Sum(l ...Num) Num {
	total := Num{}
	for _, a := range l {
		total = Add(total, a)
	}
	return total
}

// Mul: the product.
func Mul(a, b Num) Num {
	return signed(a.Minus != b.Minus, mag.Mul(a.Mag, b.Mag))
}

// Div: the quotient, down to a whole number, and what is left; of 0: 0 and all.
func Div(a, b Num) (Num, Num) {
	if Sign(b) == 0 {
		return Num{}, Make(a.Minus, a.Mag)
	}
	quot, rest := mag.Div(a.Mag, b.Mag)
	if a.Minus == b.Minus {
		return signed(false, quot), signed(b.Minus, rest)
	}
	if len(rest) > 0 {
		// The quotient of the magnitudes goes towards 0, which is up here: one farther, and the rest is on b's side.
		quot, rest = mag.Add(quot, mag.Of(1)), mag.Sub(b.Mag, rest)
	}
	return signed(true, quot), signed(b.Minus, rest)
}
