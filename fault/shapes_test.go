package fault_test

import (
	"testing"

	"isohyet/api"
	"isohyet/mesh"
)

// A shape is a mesh that is a constrained Delaunay triangulation, the numbers of the points in it, and its faults.
type shape struct {
	what   string
	m      *mesh.Mesh
	points []int
	faults [][2]int
}

// shapeOf is that of points. Its faults are edges of triangles that are flipped some times, one in so many: most of them aren't Delaunay's.
func shapeOf(what string, l []api.Pt, flips, oneIn int) shape {
	d := dice(len(l) + flips)
	real := sweep(l)
	for range flips {
		flip(l, real, func(b, c, a, over int) bool { return d.below(4) == 0 })
	}
	faults := walls(&d, real, oneIn)
	settle(l, real, faults)
	m := assemble(&d, l, real, faults)
	points := inIt(m)
	// Points that no triangle has, at places of others, on their lines and elsewhere, play no part.
	m.Add(pt((m.Pts[0].X+m.Pts[1].X)/2, (m.Pts[0].Y+m.Pts[1].Y)/2))
	m.Add(pt(1, 1))
	m.Add(m.Pts[0])
	return shape{what, m, points, faults}
}

// pairs are lines by the numbers of their ends: from, to, from, to ..
func pairs(numbers ...int) [][2]int {
	var out [][2]int
	for i := 0; i < len(numbers); i += 2 {
		out = append(out, ordered(numbers[i], numbers[i+1]))
	}
	return out
}

// shapes are meshes, small and great, with no, some and many faults.
func shapes() []shape {
	d := dice(7)
	out := []shape{
		shapeOf("one triangle", pts(0, 0, 4, 0, 0, 4), 0, 0),
		shapeOf("one triangle of faults", pts(0, 0, 4, 0, 0, 4), 0, 1),
		shapeOf("a square", pts(4, 4, 0, 0, 4, 0, 0, 4), 0, 0),
		shapeOf("a square of faults", pts(4, 4, 0, 0, 4, 0, 0, 4), 0, 1),
		shapeOf("points on its sides", pts(0, 0, 2, 0, 4, 0, 1, 3, 6, 0, 3, 3, 5, 3, 4, 3), 2, 3),
		shapeOf("the greatest square", board(-far, far), 0, 0),
		shapeOf("the greatest board", board(-far, 0, far), 3, 3),
		shapeOf("a sliver", pts(-far, -far, far, far-1, far, far), 0, 0),
		shapeOf("nearly on a line", pts(-far, -far, 0, -1, far, far, -1, 0), 0, 4),
		shapeOf("a board", board(0, 2, 4, 6, 8), 0, 0),
		shapeOf("a board with faults", board(0, 2, 4, 6), 4, 6),
		shapeOf("a row above a point", pts(0, 0, 1, 0, 2, 0, 3, 0, 4, 0, 5, 0, 2, -1), 0, 5),
		shapeOf("two rows", pts(0, 0, 2, 0, 4, 0, 6, 0, 8, 0, 1, 1, 3, 1, 5, 1, 7, 1, 9, 1), 0, 0),
		shapeOf("on a circle", pts(25, 0, 24, 7, 20, 15, 15, 20, 7, 24, 0, 25, -7, 24, -25, 0, -15, -20, 0, -25, 20, -15), 3, 6),
		shapeOf("mixed, near", mixed(&d, 20, 6), 0, 0),
		shapeOf("mixed, far", mixed(&d, 20, far), 0, 0),
		shapeOf("mixed, far, with faults", mixed(&d, 20, far), 3, 9),
		shapeOf("mixed, many faults", mixed(&d, 20, 100), 0, 3),
	}
	for i := range 12 {
		out = append(out, shapeOf("mixed, with faults", mixed(&d, 8+i, 8+i*i), i%4, 5+i%5))
	}
	return out
}

// TestShapes: the meshes of these tests are what they should be; who looks for points that are seen finds them, where a fault isn't told.
func TestShapes(t *testing.T) {
	for _, s := range shapes() {
		isTriangulation(t, s.what, s.m, s.points, s.faults)
		isUnseen(t, s.what, s.m)
	}
	walls := [][2]api.Pt{{pt(0, 0), pt(4, 0)}}
	for _, x := range []struct {
		from, to api.Pt
		want     bool
	}{
		{pt(1, 1), pt(2, 2), true},
		{pt(1, 1), pt(1, -1), false},
		{pt(1, 1), pt(4, 0), true},
		{pt(1, 1), pt(7, -1), false},
		{pt(3, 1), pt(5, -1), false},
		{pt(4, 1), pt(5, -1), true},
		{pt(5, 0), pt(0, 0), false},
		{pt(-1, 0), pt(5, 0), false},
		{pt(5, 0), pt(6, 0), true},
	} {
		isSame(t, "sees", sees(x.from, x.to, walls), x.want, x.from, x.to)
	}
}
