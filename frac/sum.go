package frac

import (
	"isohyet/mag"
	"isohyet/num"
)

// Neg: the other way round.
func Neg(a Frac) Frac {
	return lowest(num.Neg(a.Num), clone(den(a)))
}

// Add: the sum.
func Add(a, b Frac) Frac {
	x, y := den(a), den(b)
	return lowest(num.Add(times(a.Num, y), times(b.Num, x)), mag.Mul(x, y))
}

// Sub: the difference.
func Sub(a, b Frac) Frac {
	b.Num.Minus = !b.Num.Minus
	return Add(a, b)
}

// Sum: of any number of them.
func Sum(l ...Frac) Frac {
	total := Of(0)
	for _, a := range l {
		total = Add(total, a)
	}
	return total
}

// Mul: the product.
func Mul(a, b Frac) Frac {
	return lowest(num.Mul(a.Num, b.Num), mag.Mul(den(a), den(b)))
}

// Div: the quotient; false: by 0.
func Div(a, b Frac) (Frac, bool) {
	if Sign(b) == 0 {
		return Of(0), false
	}
	over := Frac{Num: num.Num{Minus: b.Num.Minus, Mag: den(b)}, Den: b.Num.Mag}
	return Mul(a, over), true
}
