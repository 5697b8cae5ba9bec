package lace_test

import (
	"slices"
	"testing"

	"isohyet/api"
	"isohyet/cavity"
	"isohyet/mesh"
	"isohyet/walk"
)

// A shape is a mesh that is a constrained Delaunay triangulation, the points in it, its faults, and points that may be asked: strictly within the border, at no point, on no fault.
type shape struct {
	what   string
	m      *mesh.Mesh
	l      []api.Pt
	faults [][2]int
	ask    []api.Pt
}

// shapeOf is that of points. Its faults are edges of triangles that are flipped some times, one in so many: most of them aren't Delaunay's.
func shapeOf(what string, l []api.Pt, flips, oneIn int) shape {
	d := dice(len(l) + flips)
	real := sweep(l)
	for range flips {
		flip(l, real, func(b, c, a, over int) bool { return d.below(4) == 0 })
	}
	return walled(what, l, real, walls(&d, real, oneIn))
}

// walled is the shape of points and faults, all of which are edges of these triangles.
func walled(what string, l []api.Pt, real [][3]int, faults [][2]int) shape {
	d := dice(9)
	settle(l, real, faults)
	m := assemble(&d, l, real, faults)
	// Points that no triangle has, at places that are asked for, play no part.
	m.Add(pt(m.Pts[0].X, m.Pts[1].Y))
	m.Add(pt(1, 1))
	m.Add(m.Pts[0])
	out := shape{what, m, slices.Clone(l), faults, nil}
	for _, p := range asked(&d, l, real) {
		if out.isWithin(p) {
			out.ask = append(out.ask, p)
		}
	}
	return out
}

// asked are points a step beside others, between them, on their lines and circles, and some far away.
func asked(d *dice, l []api.Pt, real [][3]int) []api.Pt {
	ask := board(-far+1, -1, 0, 1, far-1)
	for _, p := range l {
		q := l[d.below(len(l))]
		ask = append(ask, pt(p.X+1, p.Y), pt(p.X-1, p.Y), pt(p.X, p.Y+1), pt(p.X+1, p.Y-1), pt((p.X+q.X)/2, (p.Y+q.Y)/2))
	}
	for _, v := range real {
		a, b, c := l[v[0]], l[v[1]], l[v[2]]
		ask = append(ask, pt((a.X+b.X)/2, (a.Y+b.Y)/2), pt((a.X+c.X)/2, (a.Y+c.Y)/2), pt((a.X+b.X+c.X)/3, (a.Y+b.Y+c.Y)/3))
		ask = append(ask, pt(a.X+b.X-c.X, a.Y+b.Y-c.Y), pt((3*a.X+b.X)/4, (3*a.Y+b.Y)/4))
	}
	return ask
}

// isWithin tells whether p lies strictly within the border, at no point, on no fault.
func (s shape) isWithin(p api.Pt) bool {
	switch at := walk.Look(s.m, p); at.Kind {
	case walk.Inside:
		return true
	case walk.OnEdge:
		u, i, _ := s.m.Find(at.A, at.B)
		return !s.m.Tris[u].F[i] && s.m.Real(u) && s.m.Real(s.m.Tris[u].N[i])
	}
	return false
}

// dig is a point's cavity.
func dig(m *mesh.Mesh, p api.Pt) cavity.Cavity {
	return cavity.Dig(m, p, walk.Look(m, p))
}

// each goes through all points of all shapes that are asked, with their cavities.
func each(do func(s shape, p api.Pt, c cavity.Cavity)) {
	for _, s := range shapes() {
		for _, p := range s.ask {
			do(s, p, dig(s.m, p))
		}
	}
}

// hand is the shape of points and faults by their numbers: the triangles are such as have them for edges.
func hand(what string, l []api.Pt, real [][3]int, faults ...int) shape {
	var pairs [][2]int
	for i := 0; i < len(faults); i += 2 {
		pairs = append(pairs, ordered(faults[i], faults[i+1]))
	}
	return walled(what, l, real, pairs)
}

// tooth is a fault from the border into the midst of many points; hall are two long faults beside each other, with much beyond them.
func tooth() shape {
	l := pts(0, 0, 20, 0, 20, 20, 0, 20, 10, 11, 10, 0)
	return hand("a tooth", l, [][3]int{{0, 5, 4}, {5, 1, 4}, {1, 2, 4}, {2, 3, 4}, {3, 0, 4}}, 5, 4)
}

func hall() shape {
	l := pts(0, 0, 60, 0, 0, 4, 60, 4, 31, -9, 28, 13)
	return hand("a hall", l, [][3]int{{0, 1, 3}, {0, 3, 2}, {1, 0, 4}, {2, 3, 5}}, 0, 1, 2, 3)
}

// round are points on a circle, in mixed order.
func round() []api.Pt {
	return pts(25, 0, 24, 7, 20, 15, 15, 20, 7, 24, 0, 25, -7, 24, -25, 0, -15, -20, 0, -25, 20, -15)
}

// shapes are meshes, small and great, with no, some and many faults.
func shapes() []shape {
	d := dice(7)
	out := []shape{
		shapeOf("one triangle", pts(0, 0, 9, 0, 0, 9), 0, 0),
		shapeOf("one triangle of faults", pts(0, 0, 9, 0, 0, 9), 0, 1),
		shapeOf("a square", pts(4, 4, 0, 0, 4, 0, 0, 4), 0, 0),
		shapeOf("a square of faults", pts(4, 4, 0, 0, 4, 0, 0, 4), 0, 1),
		shapeOf("points on its sides", pts(0, 0, 2, 0, 4, 0, 1, 3, 6, 0, 3, 3, 5, 3, 4, 3), 2, 3),
		shapeOf("the greatest square", board(-far, far), 0, 0),
		shapeOf("the greatest board", board(-far, 0, far), 3, 3),
		shapeOf("a sliver", pts(-far, -far, far, far-1, far, far), 0, 0),
		shapeOf("nearly on a line", pts(-far, -far, 0, -1, far, far, -1, 0), 0, 4),
		shapeOf("a board", board(0, 2, 4, 6, 8), 0, 0),
		shapeOf("a board with faults", board(0, 2, 4, 6, 8), 4, 6),
		shapeOf("two rows", pts(0, 0, 2, 0, 4, 0, 6, 0, 8, 0, 1, 3, 3, 3, 5, 3, 7, 3, 9, 3), 0, 0),
		shapeOf("on a circle", round(), 0, 0),
		shapeOf("on a circle, with faults", round(), 3, 6),
		shapeOf("mixed, near", mixed(&d, 25, 6), 0, 0),
		shapeOf("mixed, some way off", mixed(&d, 30, 200), 0, 0),
		shapeOf("mixed, far", mixed(&d, 25, far), 0, 0),
		shapeOf("mixed, far, with faults", mixed(&d, 25, far), 3, 6),
		shapeOf("mixed, many faults", mixed(&d, 20, 100), 0, 2),
		tooth(),
		hall(),
	}
	for i := range 12 {
		out = append(out, shapeOf("mixed, with faults", mixed(&d, 10+2*i, 8+i*i), i%4, 4+i%5))
	}
	return out
}

// TestShapes: the meshes of these tests are sound, and no edge that is no fault could be flipped for a better one; they are asked of points with all kinds of cavities.
func TestShapes(t *testing.T) {
	for _, s := range shapes() {
		isSame(t, "Sound: "+s.what, s.m.Sound(), true)
		at := across(realOf(s.m))
		for e, a := range at {
			over, there := at[[2]int{e[1], e[0]}]
			isBad := there && !slices.Contains(s.faults, ordered(e[0], e[1])) && bad(s.m.Pts, e[0], e[1], a[1], over[1])
			isSame(t, "an edge that isn't Delaunay's: "+s.what, isBad, false, e)
		}
	}
	seen := map[string]int{}
	each(func(s shape, p api.Pt, c cavity.Cavity) {
		isFault := func(s cavity.Side) bool { return s.Fault }
		for what, is := range map[string]bool{
			"cut":           c.Cut,
			"a fault":       slices.ContainsFunc(c.Rim, isFault) && !c.Cut,
			"on an edge":    walk.Look(s.m, p).Kind == walk.OnEdge,
			"great":         len(c.Tris) > 5,
			"at the border": slices.ContainsFunc(c.Rim, func(x cavity.Side) bool { return !s.m.Real(x.Out) }),
		} {
			if is {
				seen[what]++
			}
		}
	})
	for _, what := range []string{"cut", "a fault", "on an edge", "great", "at the border"} {
		isSame(t, "some are asked", seen[what] > 30, true, what, seen[what])
	}
}

// realOf are a mesh's real triangles.
func realOf(m *mesh.Mesh) [][3]int {
	var out [][3]int
	for _, x := range m.All() {
		out = append(out, x.V)
	}
	return out
}

// digAt is the place of a point that lies in a triangle, if one takes it for that.
func digAt(u int) walk.Place {
	return walk.Place{Kind: walk.Inside, Tri: u}
}
