package pred

import "isohyet/api"

// On: does a point lie on a line, or at one of its ends?
func On(p, a, b api.Pt) bool {
	return Orient(a, b, p) == 0 && within(p.X, a.X, b.X) && within(p.Y, a.Y, b.Y)
}

// Between: does it, at neither end?
func Between(p, a, b api.Pt) bool {
	return p != a && p != b && On(p, a, b)
}

// Crosses: do two lines cross, within both?
func Crosses(a, b, c, d api.Pt) bool {
	return parts(a, b, c, d) && parts(c, d, a, b)
}

// Meets: have two lines, with their ends, a point in common?
func Meets(a, b, c, d api.Pt) bool {
	// Of lines that meet, but don't cross, an end lies on the other one.
	return Crosses(a, b, c, d) || On(a, c, d) || On(b, c, d) || On(c, a, b) || On(d, a, b)
}

// parts tells whether c and d lie to different sides of all the line through a and b.
func parts(a, b, c, d api.Pt) bool {
	return Orient(a, b, c)*Orient(a, b, d) < 0
}

// within tells whether n is one of two numbers, or between them.
func within(n, a, b int) bool {
	return min(a, b) <= n && n <= max(a, b)
}
