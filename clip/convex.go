package clip

import (
	"isohyet/frac"
	"isohyet/spot"
)

// Box: a square around 0, 0.
func Box(n int) []spot.Spot {
	return []spot.Spot{corner(-n, -n), corner(n, -n), corner(n, n), corner(-n, n)}
}

// Convex: is it a polygon that always turns left, and goes round once?
func Convex(l []spot.Spot) bool {
	rounds := 0
	for i, a := range l {
		b, c := l[(i+1)%len(l)], l[(i+2)%len(l)]
		if spot.Side(a, b, c) <= 0 {
			return false
		}
		// Sides that always turn left, each by less than half a round, begin to rise just once a round.
		if frac.Cmp(a.Y, b.Y) >= 0 && frac.Cmp(b.Y, c.Y) < 0 {
			rounds++
		}
	}
	return rounds <= 1
}

// corner is a point that may lie beyond where a Pt may.
func corner(x, y int) spot.Spot {
	return spot.Spot{X: frac.Of(x), Y: frac.Of(y)}
}
