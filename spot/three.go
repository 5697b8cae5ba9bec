package spot

import (
	"isohyet/api"
	"isohyet/frac"
	"isohyet/num"
	"isohyet/pred"
)

// Centre: the point as far from three; false: they lie on a line.
func Centre(a, b, c api.Pt) (Spot, bool) {
	area := pred.Area2(a, b, c)
	if num.Sign(area) == 0 {
		return Spot{}, false
	}
	// With a at 0, 0 the centre times b is half of b's square, and so with c: two equations, solved by Cramer's rule.
	toB, toC := pred.Dist2(a, b), pred.Dist2(a, c)
	x := less(toB, c.Y-a.Y, toC, b.Y-a.Y)
	y := less(toC, b.X-a.X, toB, c.X-a.X)
	twice := num.Add(area, area)
	return Spot{X: beyond(a.X, x, twice), Y: beyond(a.Y, y, twice)}, true
}

// Shares: of three points, so that they come to another one.
func Shares(a, b, c api.Pt, s Spot) [3]frac.Frac {
	corners := [3]Spot{Of(a), Of(b), Of(c)}
	all := frac.Whole(pred.Area2(a, b, c))
	var out [3]frac.Frac
	for i := range corners {
		// A corner's share is as the area of the other two with s in its place.
		part := corners
		part[i] = s
		out[i], _ = frac.Div(Area2(part[:]...), all)
	}
	return out
}

// less is a times p less b times q.
func less(a num.Num, p int, b num.Num, q int) num.Num {
	return num.Sub(num.Mul(a, num.Of(p)), num.Mul(b, num.Of(q)))
}

// beyond is n and a divided by b, which isn't 0.
func beyond(n int, a, b num.Num) frac.Frac {
	part, _ := frac.Make(a, b)
	return frac.Add(frac.Of(n), part)
}
