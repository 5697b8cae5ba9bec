package cavity_test

import (
	"slices"
	"testing"

	"isohyet/api"
	"isohyet/cavity"
	"isohyet/mesh"
	"isohyet/walk"
)

// A shape is a mesh that is a constrained Delaunay triangulation, the real triangles of which it was made, its faults, and points whose cavities may be asked.
type shape struct {
	what   string
	m      *mesh.Mesh
	real   [][3]int
	faults [][2]int
	ask    []api.Pt
}

// shapeOf is that of points. Its faults are edges of triangles that are flipped some times, one in so many: most of them aren't Delaunay's.
func shapeOf(what string, l []api.Pt, flips, oneIn int) shape {
	d := dice(len(l) + flips)
	real := sweep(l)
	for range flips {
		flip(l, real, func(b, c, a, over int) bool { return d.below(4) == 0 })
	}
	return walled(what, l, real, walls(&d, real, oneIn))
}

// walled is the shape of points and faults, all of which are edges of these triangles.
func walled(what string, l []api.Pt, real [][3]int, faults [][2]int) shape {
	d := dice(9)
	settle(l, real, faults)
	m := assemble(&d, l, real, faults)
	// Points that no triangle has, at places that are asked for, play no part.
	m.Add(pt(m.Pts[0].X, m.Pts[1].Y))
	m.Add(pt(1, 1))
	m.Add(m.Pts[0])
	return shape{what, m, real, faults, asked(&d, l, real)}
}

// asked are points a step beside others, between them, on their lines and circles, and some far away; none that there is already.
func asked(d *dice, l []api.Pt, real [][3]int) []api.Pt {
	ask := board(-far, -1, 0, 1, far)
	for _, p := range l {
		q := l[d.below(len(l))]
		ask = append(ask, pt(p.X+1, p.Y), pt(p.X-1, p.Y), pt(p.X, p.Y+1), pt(p.X+1, p.Y-1), pt((p.X+q.X)/2, (p.Y+q.Y)/2))
	}
	for _, v := range real {
		a, b, c := l[v[0]], l[v[1]], l[v[2]]
		ask = append(ask, pt((a.X+b.X)/2, (a.Y+b.Y)/2), pt((a.X+c.X)/2, (a.Y+c.Y)/2), pt((a.X+b.X+c.X)/3, (a.Y+b.Y+c.Y)/3))
		ask = append(ask, pt(a.X+b.X-c.X, a.Y+b.Y-c.Y), pt(b.X+c.X-a.X, b.Y+c.Y-a.Y), pt(2*a.X-b.X, 2*a.Y-b.Y))
	}
	return slices.DeleteFunc(ask, func(p api.Pt) bool {
		return min(p.X, p.Y) < -far || max(p.X, p.Y) > far || slices.Contains(l, p)
	})
}

// hand is the shape of points and faults by their numbers: the triangles are such as have them for edges.
func hand(what string, l []api.Pt, real [][3]int, faults ...int) shape {
	var pairs [][2]int
	for i := 0; i < len(faults); i += 2 {
		pairs = append(pairs, ordered(faults[i], faults[i+1]))
	}
	return walled(what, l, real, pairs)
}

// tooth is a fault from the border into the midst of many points; hall are two long faults beside each other, with much beyond them.
func tooth() shape {
	l := pts(0, 0, 20, 0, 20, 20, 0, 20, 10, 11, 10, 0)
	return hand("a tooth", l, [][3]int{{0, 5, 4}, {5, 1, 4}, {1, 2, 4}, {2, 3, 4}, {3, 0, 4}}, 5, 4)
}

func hall() shape {
	l := pts(0, 0, 60, 0, 0, 4, 60, 4, 31, -9, 28, 13)
	return hand("a hall", l, [][3]int{{0, 1, 3}, {0, 3, 2}, {1, 0, 4}, {2, 3, 5}}, 0, 1, 2, 3)
}

// shapes are meshes, small and great, with no, some and many faults.
func shapes() []shape {
	d := dice(7)
	out := []shape{
		shapeOf("one triangle", pts(0, 0, 4, 0, 0, 4), 0, 0),
		shapeOf("one triangle of faults", pts(0, 0, 4, 0, 0, 4), 0, 1),
		shapeOf("a square", pts(4, 4, 0, 0, 4, 0, 0, 4), 0, 0),
		shapeOf("a square of faults", pts(4, 4, 0, 0, 4, 0, 0, 4), 0, 1),
		shapeOf("points on its sides", pts(0, 0, 2, 0, 4, 0, 1, 3, 6, 0, 3, 3, 5, 3, 4, 3), 2, 3),
		shapeOf("the greatest square", board(-far, far), 0, 0),
		shapeOf("the greatest board", board(-far, 0, far), 3, 3),
		shapeOf("a sliver", pts(-far, -far, far, far-1, far, far), 0, 0),
		shapeOf("nearly on a line", pts(-far, -far, 0, -1, far, far, -1, 0), 0, 4),
		shapeOf("a board", board(0, 2, 4, 6, 8), 0, 0),
		shapeOf("a board with faults", board(0, 2, 4, 6, 8), 4, 6),
		shapeOf("a row above a point", pts(0, 0, 1, 0, 2, 0, 3, 0, 4, 0, 5, 0, 2, -1), 0, 5),
		shapeOf("on a circle", pts(25, 0, 24, 7, 20, 15, 15, 20, 7, 24, 0, 25, -7, 24, -25, 0, -15, -20, 0, -25, 20, -15), 3, 6),
		shapeOf("mixed, near", mixed(&d, 25, 6), 0, 0),
		shapeOf("mixed, far", mixed(&d, 25, far), 0, 0),
		shapeOf("mixed, far, with faults", mixed(&d, 25, far), 3, 6),
		shapeOf("mixed, many faults", mixed(&d, 20, 100), 0, 2),
		tooth(),
		hall(),
	}
	for i := range 12 {
		out = append(out, shapeOf("mixed, with faults", mixed(&d, 10+2*i, 8+i*i), i%4, 4+i%5))
	}
	return out
}

// TestShapes: the meshes of these tests are sound, and no edge that is no fault could be flipped for a better one.
func TestShapes(t *testing.T) {
	for _, s := range shapes() {
		isSame(t, "Sound: "+s.what, s.m.Sound(), true)
		isDelaunay(t, s.what, s.m.Pts, s.real, s.faults)
	}
}

// isDelaunay tells it, if triangles have an edge, that is no fault, and a point over against it within the other one's circle.
func isDelaunay(t *testing.T, what string, l []api.Pt, real [][3]int, faults [][2]int, of ...any) {
	t.Helper()
	at := across(real)
	for e, a := range at {
		over, there := at[[2]int{e[1], e[0]}]
		if there && !slices.Contains(faults, ordered(e[0], e[1])) && bad(l, e[0], e[1], a[1], over[1]) {
			t.Fatalf("%s %v: the edge %v isn't Delaunay's: %v", what, of, e, real)
		}
	}
}

// eachAsked goes through all points of a shape that are asked, with their places.
func eachAsked(s shape, do func(p api.Pt, at walk.Place)) {
	for _, p := range s.ask {
		do(p, walk.Look(s.m, p))
	}
}

// inConflict are, by the chapter's words and exact numbers, the triangles in conflict with a point.
func inConflict(m *mesh.Mesh, p api.Pt) []bool {
	out := make([]bool, len(m.Tris))
	for t, x := range m.Tris {
		g := slices.Index(x.V[:], mesh.Ghost)
		switch {
		case x.V[0] == mesh.Gone:
		case g >= 0:
			// As the real triangle has that edge.
			a, b := m.Pts[x.V[(g+2)%3]], m.Pts[x.V[(g+1)%3]]
			out[t] = turn(a, b, p) < 0 || between(p, a, b)
		default:
			out[t] = circle(m.Pts[x.V[0]], m.Pts[x.V[1]], m.Pts[x.V[2]], p) > 0
		}
	}
	return out
}

// inWords is a point's cavity, by the chapter's words and exact numbers.
func inWords(t *testing.T, m *mesh.Mesh, p api.Pt, at walk.Place) cavity.Cavity {
	t.Helper()
	in := inConflict(m, p)
	has := make([]bool, len(m.Tris))
	has[at.Tri] = true
	if at.Kind == walk.OnEdge {
		one, _, _ := m.Find(at.A, at.B)
		other, _, _ := m.Find(at.B, at.A)
		has[one], has[other] = true, true
	}
	for more := true; more; {
		more = false
		for u, x := range m.Tris {
			for i, n := range x.N {
				if has[u] && !x.F[i] && !has[n] && in[n] {
					has[n], more = true, true
				}
			}
		}
	}
	return rimmed(t, m, has, in)
}

// rimmed is the cavity of the triangles that it has, some being in conflict.
func rimmed(t *testing.T, m *mesh.Mesh, has, in []bool) cavity.Cavity {
	t.Helper()
	var out cavity.Cavity
	var l []cavity.Side
	for u, x := range m.Tris {
		if !has[u] {
			continue
		}
		out.Tris = append(out.Tris, u)
		for i := range 3 {
			a, b := x.V[(i+1)%3], x.V[(i+2)%3]
			n, j, _ := m.Find(b, a)
			if !has[n] {
				l = append(l, cavity.Side{A: a, B: b, Out: n, I: j, Fault: x.F[i]})
				out.Cut = out.Cut || x.F[i] && in[n]
			}
		}
	}
	least := slices.MinFunc(l, func(a, b cavity.Side) int { return a.A - b.A })
	for next := least.A; len(out.Rim) < len(l); {
		i := slices.IndexFunc(l, func(s cavity.Side) bool { return s.A == next })
		isSame(t, "a rim goes on", i >= 0, true, l)
		out.Rim = append(out.Rim, l[i])
		next = l[i].B
	}
	isSame(t, "a rim ends where it begins", out.Rim[len(l)-1].B, least.A, l)
	return out
}

// isCavity tells it, if a cavity isn't the one that is asked.
func isCavity(t *testing.T, what string, got, want cavity.Cavity, of ...any) {
	t.Helper()
	isList(t, "the triangles: "+what, got.Tris, want.Tris, of...)
	isList(t, "the rim: "+what, got.Rim, want.Rim, of...)
	isSame(t, "whether it is cut: "+what, got.Cut, want.Cut, of...)
}
