package tin_test

import (
	"slices"
	"testing"

	"isohyet/api"
	"isohyet/fault"
	"isohyet/grow"
	"isohyet/mesh"
)

// A shape is a sound mesh, and what it is called.
type shape struct {
	what string
	m    *mesh.Mesh
}

// shapeOf is that of points, with as many of the lines between two of them as faults as don't cross.
func shapeOf(what string, l []api.Pt, faults int) shape {
	m, _ := grow.Build(l)
	d := dice(len(l))
	for range faults {
		fault.Force(m, d.below(len(l)), d.below(len(l)))
	}
	// Points that no triangle has change nothing.
	m.Add(pt(1, 1))
	m.Add(m.Pts[0])
	return shape{what, m}
}

// turned are the triangles of three points that come in any order, behind others that no triangle has, so that each may be a triangle's first one.
func turned(what string, a, b, c api.Pt) []shape {
	var out []shape
	for _, v := range [][3]int{{1, 3, 4}, {1, 4, 3}, {3, 1, 4}, {3, 4, 1}, {4, 1, 3}, {4, 3, 1}} {
		l := make([]api.Pt, 6)
		l[v[0]], l[v[1]], l[v[2]] = a, b, c
		for _, w := range [][3]int{v, {v[1], v[2], v[0]}, {v[2], v[0], v[1]}} {
			m, _ := mesh.New(l, w[0], w[1], w[2])
			out = append(out, shape{what, m})
		}
	}
	return out
}

// shapes are meshes, small and great, with and without faults.
func shapes() []shape {
	d := dice(7)
	return slices.Concat(
		turned("one triangle", pt(0, 0), pt(9, 0), pt(3, 6)),
		turned("one triangle with an upright side", pt(2, 7), pt(2, -5), pt(-7, 1)),
		turned("the greatest triangle", pt(-far, -far), pt(far, -far), pt(-far, far)),
		turned("a sliver", pt(-far, -far), pt(far, far-1), pt(far, far)),
		[]shape{
			shapeOf("a square", board(0, 4), 0),
			shapeOf("the greatest board", board(-far, 0, far), 0),
			shapeOf("a board with faults", board(0, 2, 4, 6, 8), 9),
			shapeOf("mixed, near", mixed(&d, 40, 6), 0),
			shapeOf("mixed, with faults", mixed(&d, 40, 12), 30),
			shapeOf("mixed, some way off", mixed(&d, 40, 1000), 20),
			shapeOf("mixed, far", mixed(&d, 40, far), 0),
			shapeOf("mixed, far, with faults", mixed(&d, 40, far), 30),
		},
	)
}

// TestShapes: the meshes of these tests are sound; each point of a triangle is sometimes its first one, sometimes its second one, sometimes its third one.
func TestShapes(t *testing.T) {
	seen := map[[2]int]int{}
	for _, s := range shapes() {
		isSame(t, "Sound: "+s.what, s.m.Sound(), true)
		for _, x := range s.m.All() {
			least, most := slices.Index(x.V[:], slices.Min(x.V[:])), slices.Index(x.V[:], slices.Max(x.V[:]))
			seen[[2]int{least, most}]++
		}
	}
	isSame(t, "where the least and the greatest number stand", len(seen), 6)
}

// within are points in a real triangle, or on its border: its corners, those about its middle and about its sides' midsts, and some that are mixed from all three.
func within(d *dice, m *mesh.Mesh, u int) []api.Pt {
	v := m.Tris[u].V
	a, b, c := m.Pts[v[0]], m.Pts[v[1]], m.Pts[v[2]]
	ask := []api.Pt{a, b, c}
	for range 12 {
		ask = append(ask, weighed(a, b, c, d.below(7), d.below(7), d.below(7)))
	}
	for _, n := range [][3]int{{1, 1, 1}, {1, 1, 0}, {1, 0, 1}, {0, 1, 1}, {2, 1, 0}, {0, 1, 2}, {1, 0, 3}} {
		p := weighed(a, b, c, n[0], n[1], n[2])
		ask = append(ask, p, pt(p.X+1, p.Y), pt(p.X, p.Y+1), pt(p.X-1, p.Y-1))
	}
	return slices.DeleteFunc(ask, func(p api.Pt) bool { return !holds(a, b, c, p) })
}

// weighed is about where three points come to, if they count so many times.
func weighed(a, b, c api.Pt, i, j, k int) api.Pt {
	n := max(i+j+k, 1)
	return pt((i*a.X+j*b.X+k*c.X)/n, (i*a.Y+j*b.Y+k*c.Y)/n)
}

// holds tells whether p lies in a triangle that turns left, or on its border.
func holds(a, b, c, p api.Pt) bool {
	return left(a, b, p) && left(b, c, p) && left(c, a, p)
}

// left tells whether p lies to the left of a line, or on it.
func left(a, b, p api.Pt) bool {
	ahead, aside := whole(b.X-a.X), whole(b.Y-a.Y)
	return ahead.Mul(ahead, whole(p.Y-a.Y)).Cmp(aside.Mul(aside, whole(p.X-a.X))) >= 0
}

// steps are points on the line from a to b, both of them among these: those with whole coordinates that come first and last, and some between.
func steps(a, b api.Pt) []api.Pt {
	n := divisor(b.X-a.X, b.Y-a.Y)
	if n == 0 {
		return []api.Pt{a}
	}
	var out []api.Pt
	for _, i := range []int{0, 1, 2, 3, n / 7, n / 3, n / 2, n - n/5, n - 2, n - 1, n} {
		if 0 <= i && i <= n {
			out = append(out, pt(a.X+(b.X-a.X)/n*i, a.Y+(b.Y-a.Y)/n*i))
		}
	}
	return out
}

// divisor is the greatest one of both.
func divisor(a, b int) int {
	for b != 0 {
		a, b = b, a%b
	}
	return max(a, -a)
}
