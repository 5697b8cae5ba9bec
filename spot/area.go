package spot

import "isohyet/frac"

// Area2: twice a polygon's area.
func Area2(l ...Spot) frac.Frac {
	var parts []frac.Frac
	for i, s := range l {
		next := l[(i+1)%len(l)]
		parts = append(parts, frac.Sub(frac.Mul(s.X, next.Y), frac.Mul(s.Y, next.X)))
	}
	return frac.Sum(parts...)
}

// Side: to the left (1) or to the right (-1) of a line, or on it.
func Side(a, b, s Spot) int {
	line, way := across(a, b), across(a, s)
	return frac.Cmp(frac.Mul(line.X, way.Y), frac.Mul(line.Y, way.X))
}

// On: does a point lie on a line, or at one of its ends?
func On(s, a, b Spot) bool {
	return within(s.X, a.X, b.X) && within(s.Y, a.Y, b.Y) && Side(a, b, s) == 0
}

// within tells whether n is one of two numbers, or between them.
func within(n, a, b frac.Frac) bool {
	// More than both, or less than both, is what makes the product 1.
	return frac.Cmp(n, a)*frac.Cmp(n, b) <= 0
}
