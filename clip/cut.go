package clip

import (
	"slices"

	"isohyet/api"
	"isohyet/frac"
	"isohyet/spot"
)

// Clip: what of a polygon lies in a half-plane.
func Clip(l []spot.Spot, h Half) []spot.Spot {
	var over []frac.Frac
	for _, s := range l {
		over = append(over, Value(h, s))
	}
	var out []spot.Spot
	for i, s := range l {
		next := (i + 1) % len(l)
		here, there := frac.Sign(over[i]), frac.Sign(over[next])
		if here <= 0 {
			out = append(out, s)
		}
		// A side that just reaches the line ends there: that corner stays by itself.
		if here*there < 0 {
			out = append(out, crossing(s, l[next], over[i], over[next]))
		}
	}
	// No more than two corners of a convex polygon lie on one line: who keeps these alone, has no area left.
	if len(out) < 3 {
		return nil
	}
	return out
}

// Cell: what of a polygon is as near to one point as to others, or nearer.
func Cell(p api.Pt, others []api.Pt, from []spot.Spot) []spot.Spot {
	out := slices.Clone(from)
	for _, q := range others {
		out = Clip(out, Nearer(p, q))
	}
	return out
}

// crossing is where the Value is 0 between a and b, where it is u and v, to either side of 0.
func crossing(a, b spot.Spot, u, v frac.Frac) spot.Spot {
	part, _ := frac.Div(u, frac.Sub(u, v))
	return spot.Along(a, b, part)
}
