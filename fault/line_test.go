package fault_test

import (
	"cmp"
	"math"
	"slices"
	"testing"

	"isohyet/api"
	"isohyet/fault"
	"isohyet/grow"
	"isohyet/mesh"
)

// onLine are the points in a mesh, by their numbers, that lie on the line from a to b, in order.
func onLine(l []api.Pt, points []int, a, b int) []int {
	var row []int
	for _, i := range inOrder(l) {
		if slices.Contains(points, i) && on(l[i], l[a], l[b]) {
			row = append(row, i)
		}
	}
	if cmp.Or(cmp.Compare(l[a].X, l[b].X), cmp.Compare(l[a].Y, l[b].Y)) > 0 {
		slices.Reverse(row)
	}
	return row
}

// cross tells whether two lines have just one point in common, that is no end of either.
func cross(a, b, c, d api.Pt) bool {
	return turn(a, b, c)*turn(a, b, d) < 0 && turn(c, d, a)*turn(c, d, b) < 0
}

// isBarred tells whether the line from a to b crosses one of these edges.
func isBarred(l []api.Pt, faults [][2]int, a, b int) bool {
	return slices.ContainsFunc(faults, func(e [2]int) bool { return cross(l[a], l[b], l[e[0]], l[e[1]]) })
}

// strange are numbers that no point of a mesh has, or whose points no triangle has.
func strange(s shape) []int {
	out := []int{-1, -2, -3, len(s.m.Pts), len(s.m.Pts) + 1, math.MinInt, math.MaxInt}
	for v := range s.m.Pts {
		if !slices.Contains(s.points, v) {
			out = append(out, v)
		}
	}
	return out
}

// TestPoints: of each two points of each mesh, either way.
func TestPoints(t *testing.T) {
	long := 0
	for _, s := range shapes() {
		was := s.m.Copy()
		for _, a := range s.points {
			for _, b := range s.points {
				want := onLine(s.m.Pts, s.points, a, b)
				isList(t, "Points: "+s.what, fault.Points(s.m, a, b), want, a, b)
				if len(want) > 2 {
					long++
				}
			}
		}
		isAsItWas(t, "Points: "+s.what, s.m, was)
	}
	isSame(t, "some have points between their ends", long > 300, true, long)
}

// TestPointsInWords: on a row, along each axis and askew, either way, from and to points within it; beside it nothing counts.
func TestPointsInWords(t *testing.T) {
	for _, step := range []api.Pt{pt(1, 0), pt(0, 1), pt(2, 3), pt(-5, 1), pt(7, -7), pt(far/4, 0), pt(0, -far/4), pt(-far/4, far/4), pt(far/4, far/4-1)} {
		var l []api.Pt
		for _, n := range []int{3, -2, 0, 4, -4, 1} {
			l = append(l, pt(n*step.X, n*step.Y))
		}
		l = append(l, pt(1, 2), pt(-3, 1), pt(3, -5))
		m, _ := grow.Build(l)
		// On the row, but in no triangle.
		m.Add(pt(-step.X, -step.Y))
		isList(t, "Points", fault.Points(m, 4, 3), []int{4, 1, 2, 5, 0, 3}, step)
		isList(t, "Points, the other way", fault.Points(m, 3, 4), []int{3, 0, 5, 2, 1, 4}, step)
		isList(t, "Points of a part", fault.Points(m, 1, 5), []int{1, 2, 5}, step)
		isList(t, "Points of two neighbours", fault.Points(m, 3, 0), []int{3, 0}, step)
		isList(t, "Points of one", fault.Points(m, 2, 2), []int{2}, step)
		isList(t, "Points off the row", fault.Points(m, 6, 4), []int{6, 4}, step)
	}
}

// TestCrosses: of each two points of each mesh, either way.
func TestCrosses(t *testing.T) {
	seen := [2]int{}
	for _, s := range shapes() {
		was := s.m.Copy()
		for _, a := range s.points {
			for _, b := range s.points {
				want := isBarred(s.m.Pts, s.faults, a, b)
				isSame(t, "Crosses: "+s.what, fault.Crosses(s.m, a, b), want, a, b)
				if want {
					seen[1]++
				} else {
					seen[0]++
				}
			}
		}
		isAsItWas(t, "Crosses: "+s.what, s.m, was)
	}
	isSame(t, "some do, some don't", min(seen[0], seen[1]) > 500, true, seen)
}

// barred is a square with a fault across its midst, from 4 to 5, and points about it.
func barred() *mesh.Mesh {
	l := pts(0, 0, 20, 0, 20, 20, 0, 20, 5, 10, 15, 10, 10, 15, 10, 5, 0, 10, 20, 10, 5, 15)
	m, _ := grow.Build(l)
	fault.Force(m, 4, 5)
	return m
}

// TestCrossesInWords: a fault is crossed within both lines only; what is no fault bars nothing.
func TestCrossesInWords(t *testing.T) {
	m := barred()
	for _, x := range []struct {
		what string
		a, b int
		want bool
	}{
		{"through its midst", 6, 7, true},
		{"askew", 0, 2, true},
		{"the fault itself", 4, 5, false},
		{"on along it", 8, 9, false},
		{"a part of it and more", 8, 5, false},
		{"from its end", 4, 2, false},
		{"through its end", 10, 4, false},
		{"beside it", 6, 3, false},
		{"past its end", 3, 0, false},
		{"a point", 6, 6, false},
	} {
		isSame(t, x.what, fault.Crosses(m, x.a, x.b), x.want, x.a, x.b)
		isSame(t, x.what+", the other way", fault.Crosses(m, x.b, x.a), x.want, x.a, x.b)
	}
	free, _ := grow.Build(m.Pts)
	isSame(t, "without faults", fault.Crosses(free, 6, 7), false)
}

// TestCrossesAtAPoint: a line through a point on a fault crosses none of the fault's parts.
func TestCrossesAtAPoint(t *testing.T) {
	m := barred()
	isSame(t, "before", fault.Crosses(m, 6, 7), true)
	grow.Insert(m, m.Add(pt(10, 10)), 0)
	isSame(t, "behind", fault.Crosses(m, 6, 7), false)
	isSame(t, "askew", fault.Crosses(m, 0, 2), false)
	isSame(t, "beside", fault.Crosses(m, 10, 7), true)
}

// TestOfNone: numbers that aren't there are the caller's own, but there is an answer: nothing.
func TestOfNone(t *testing.T) {
	for _, s := range shapes() {
		was := s.m.Copy()
		for _, v := range strange(s) {
			for _, w := range append(strange(s), s.points[0], s.points[1]) {
				isList(t, "Points of none: "+s.what, fault.Points(s.m, v, w), nil, v, w)
				isList(t, "Points of none: "+s.what, fault.Points(s.m, w, v), nil, w, v)
				isSame(t, "Crosses of none: "+s.what, fault.Crosses(s.m, v, w), false, v, w)
				isSame(t, "Crosses of none: "+s.what, fault.Crosses(s.m, w, v), false, w, v)
			}
		}
		isAsItWas(t, "of none: "+s.what, s.m, was)
	}
}
