package grow_test

import (
	"slices"
	"testing"

	"isohyet/api"
	"isohyet/mesh"
)

// A shape is a mesh that is a constrained Delaunay triangulation, the numbers of the points in it, its faults, and points that may come into it.
type shape struct {
	what   string
	m      *mesh.Mesh
	points []int
	faults [][2]int
	ask    []api.Pt
}

// shapeOf is that of points. Its faults are edges of triangles that are flipped some times, one in so many: most of them aren't Delaunay's.
func shapeOf(what string, l []api.Pt, flips, oneIn int) shape {
	d := dice(len(l) + flips)
	real := sweep(l)
	for range flips {
		flip(l, real, func(b, c, a, over int) bool { return d.below(4) == 0 })
	}
	return walled(what, l, real, walls(&d, real, oneIn))
}

// walled is the shape of points and faults, all of which are edges of these triangles.
func walled(what string, l []api.Pt, real [][3]int, faults [][2]int) shape {
	d := dice(9)
	settle(l, real, faults)
	m := assemble(&d, l, real, faults)
	points := inIt(m)
	// Points that no triangle has, at places of others and elsewhere, play no part.
	m.Add(pt(m.Pts[0].X, m.Pts[1].Y))
	m.Add(pt(1, 1))
	m.Add(m.Pts[0])
	return shape{what, m, points, faults, asked(&d, l, real)}
}

// asked are points a step beside others, between them, on their lines and circles, and some far away; none that there is already.
func asked(d *dice, l []api.Pt, real [][3]int) []api.Pt {
	ask := board(-far, -1, 0, 1, far)
	for _, p := range l {
		q := l[d.below(len(l))]
		ask = append(ask, pt(p.X+1, p.Y), pt(p.X-1, p.Y), pt(p.X, p.Y+1), pt(p.X+1, p.Y-1), pt((p.X+q.X)/2, (p.Y+q.Y)/2))
	}
	for _, v := range real {
		a, b, c := l[v[0]], l[v[1]], l[v[2]]
		ask = append(ask, pt((a.X+b.X)/2, (a.Y+b.Y)/2), pt((a.X+c.X)/2, (a.Y+c.Y)/2), pt((a.X+b.X+c.X)/3, (a.Y+b.Y+c.Y)/3))
		ask = append(ask, pt(a.X+b.X-c.X, a.Y+b.Y-c.Y), pt(b.X+c.X-a.X, b.Y+c.Y-a.Y), pt(2*a.X-b.X, 2*a.Y-b.Y))
	}
	return slices.DeleteFunc(ask, func(p api.Pt) bool {
		return min(p.X, p.Y) < -far || max(p.X, p.Y) > far || slices.Contains(l, p)
	})
}

// hand is the shape of points and faults by their numbers: the triangles are such as have them for edges.
func hand(what string, l []api.Pt, real [][3]int, faults ...int) shape {
	var pairs [][2]int
	for i := 0; i < len(faults); i += 2 {
		pairs = append(pairs, ordered(faults[i], faults[i+1]))
	}
	return walled(what, l, real, pairs)
}

// tooth is a fault from the border into the midst of many points; hall are two long faults beside each other, with much beyond them.
func tooth() shape {
	l := pts(0, 0, 20, 0, 20, 20, 0, 20, 10, 11, 10, 0)
	return hand("a tooth", l, [][3]int{{0, 5, 4}, {5, 1, 4}, {1, 2, 4}, {2, 3, 4}, {3, 0, 4}}, 5, 4)
}

func hall() shape {
	l := pts(0, 0, 60, 0, 0, 4, 60, 4, 31, -9, 28, 13)
	return hand("a hall", l, [][3]int{{0, 1, 3}, {0, 3, 2}, {1, 0, 4}, {2, 3, 5}}, 0, 1, 2, 3)
}

// shapes are meshes, small and great, with no, some and many faults.
func shapes() []shape {
	d := dice(7)
	out := []shape{
		shapeOf("one triangle", pts(0, 0, 4, 0, 0, 4), 0, 0),
		shapeOf("one triangle of faults", pts(0, 0, 4, 0, 0, 4), 0, 1),
		shapeOf("a square", pts(4, 4, 0, 0, 4, 0, 0, 4), 0, 0),
		shapeOf("a square of faults", pts(4, 4, 0, 0, 4, 0, 0, 4), 0, 1),
		shapeOf("points on its sides", pts(0, 0, 2, 0, 4, 0, 1, 3, 6, 0, 3, 3, 5, 3, 4, 3), 2, 3),
		shapeOf("the greatest square", board(-far, far), 0, 0),
		shapeOf("the greatest board", board(-far, 0, far), 3, 3),
		shapeOf("a sliver", pts(-far, -far, far, far-1, far, far), 0, 0),
		shapeOf("nearly on a line", pts(-far, -far, 0, -1, far, far, -1, 0), 0, 4),
		shapeOf("a board", board(0, 2, 4, 6, 8), 0, 0),
		shapeOf("a board with faults", board(0, 2, 4, 6, 8), 4, 6),
		shapeOf("a row above a point", pts(0, 0, 1, 0, 2, 0, 3, 0, 4, 0, 5, 0, 2, -1), 0, 5),
		shapeOf("on a circle", pts(25, 0, 24, 7, 20, 15, 15, 20, 7, 24, 0, 25, -7, 24, -25, 0, -15, -20, 0, -25, 20, -15), 3, 6),
		shapeOf("mixed, near", mixed(&d, 25, 6), 0, 0),
		shapeOf("mixed, far", mixed(&d, 25, far), 0, 0),
		shapeOf("mixed, far, with faults", mixed(&d, 25, far), 3, 6),
		shapeOf("mixed, many faults", mixed(&d, 20, 100), 0, 2),
		tooth(),
		hall(),
	}
	for i := range 12 {
		out = append(out, shapeOf("mixed, with faults", mixed(&d, 10+2*i, 8+i*i), i%4, 4+i%5))
	}
	return out
}

// TestShapes: the meshes of these tests are what they should be; who looks for points that are seen finds them, where a fault isn't told.
func TestShapes(t *testing.T) {
	for _, s := range shapes() {
		isTriangulation(t, s.what, s.m, s.points, s.faults)
		isUnseen(t, s.what, s.m)
	}
	walls := [][2]api.Pt{{pt(0, 0), pt(4, 0)}}
	for _, x := range []struct {
		from, to api.Pt
		want     bool
	}{
		{pt(1, 1), pt(2, 2), true},
		{pt(1, 1), pt(1, -1), false},
		{pt(1, 1), pt(4, 0), true},
		{pt(1, 1), pt(0, 0), true},
		{pt(1, 1), pt(7, -1), false},
		{pt(1, 1), pt(7, -2), false},
		{pt(3, 1), pt(5, -1), false},
		{pt(4, 1), pt(5, -1), true},
		{pt(5, 0), pt(0, 0), false},
		{pt(5, 0), pt(4, 0), true},
		{pt(-1, 0), pt(5, 0), false},
		{pt(5, 0), pt(6, 0), true},
	} {
		isSame(t, "sees", sees(x.from, x.to, walls), x.want, x.from, x.to)
	}
}
