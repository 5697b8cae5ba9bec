package fault_test

import (
	"math/big"
	"slices"
	"testing"

	"isohyet/api"
	"isohyet/mesh"
)

// leastFirst is a triangle, turned so that the least of its points stands first.
func leastFirst(v [3]int) [3]int {
	for v[0] != min(v[0], v[1], v[2]) {
		v = [3]int{v[1], v[2], v[0]}
	}
	return v
}

// byPoints puts triangles into an order that hangs on their points alone.
func byPoints(l [][3]int) [][3]int {
	var out [][3]int
	for _, v := range l {
		out = append(out, leastFirst(v))
	}
	slices.SortFunc(out, func(a, b [3]int) int { return slices.Compare(a[:], b[:]) })
	return out
}

// trisOf are a mesh's triangles, the ghosts with them, by their points.
func trisOf(m *mesh.Mesh) [][3]int {
	var out [][3]int
	for _, x := range m.Tris {
		if x.V[0] != mesh.Gone {
			out = append(out, x.V)
		}
	}
	return byPoints(out)
}

// realsOf are the real ones.
func realsOf(m *mesh.Mesh) [][3]int {
	return slices.DeleteFunc(trisOf(m), func(v [3]int) bool { return v[0] < 0 })
}

// faultsOf are a mesh's edges that are faults, in order.
func faultsOf(m *mesh.Mesh) [][2]int {
	var out [][2]int
	for e := range m.Edges() {
		if e.Fault {
			out = append(out, [2]int{e.A, e.B})
		}
	}
	return out
}

// inIt are the numbers of the points that are in a mesh.
func inIt(m *mesh.Mesh) []int {
	var out []int
	for v := range m.Pts {
		if m.At(v) >= 0 {
			out = append(out, v)
		}
	}
	return out
}

// inHull is twice the area of the least convex polygon of points.
func inHull(l []api.Pt) *big.Int {
	out := new(big.Int)
	for _, v := range sweep(l) {
		out.Add(out, area(l[v[0]], l[v[1]], l[v[2]]))
	}
	return out
}

// parts are the edges of which lines, each from one point to another one, are made: of each two neighbours among the points on it.
func parts(l []api.Pt, points []int, lines [][2]int) [][2]int {
	var out [][2]int
	for _, e := range lines {
		var row []int
		for _, i := range inOrder(l) {
			if slices.Contains(points, i) && on(l[i], l[e[0]], l[e[1]]) {
				row = append(row, i)
			}
		}
		for i := range row[1:] {
			out = append(out, ordered(row[i], row[i+1]))
		}
	}
	slices.SortFunc(out, func(a, b [2]int) int { return slices.Compare(a[:], b[:]) })
	return slices.Compact(out)
}

// isTriangulation tells it, if a mesh isn't a constrained Delaunay triangulation (DOC.md, P2) of just these of its points, by their numbers, and of faults on these lines.
func isTriangulation(t *testing.T, what string, m *mesh.Mesh, points []int, lines [][2]int, of ...any) {
	t.Helper()
	isSame(t, "Sound: "+what, m.Sound(), true, of...)
	isList(t, "the points in it: "+what, inIt(m), points, of...)
	var l []api.Pt
	for _, v := range points {
		l = append(l, m.Pts[v])
	}
	real := realsOf(m)
	filled := new(big.Int)
	for _, v := range real {
		filled.Add(filled, area(m.Pts[v[0]], m.Pts[v[1]], m.Pts[v[2]]))
	}
	isSame(t, "what real triangles fill: "+what, filled.Cmp(inHull(l)), 0, of...)
	faults := parts(m.Pts, points, lines)
	isList(t, "the faults: "+what, faultsOf(m), faults, of...)
	isDelaunay(t, what, m.Pts, real, faults, of...)
}

// isDelaunay tells it, if triangles have an edge, that is no fault, and a point over against it within the other one's circle. If they have none, they have no point at all, that they see, within their circles.
func isDelaunay(t *testing.T, what string, l []api.Pt, real [][3]int, faults [][2]int, of ...any) {
	t.Helper()
	at := across(real)
	for e, a := range at {
		over, there := at[[2]int{e[1], e[0]}]
		if there && bad(l, e[0], e[1], a[1], over[1]) && !slices.Contains(faults, ordered(e[0], e[1])) {
			t.Fatalf("%s %v: the edge %v isn't Delaunay's: %v", what, of, e, real)
		}
	}
}

// sees tells whether the line from x to q has no point in common with any of some lines, but where it ends; x lies on none of these, nor does q, but at their ends.
func sees(x, q api.Pt, lines [][2]api.Pt) bool {
	for _, e := range lines {
		a, b := e[0], e[1]
		if b == q {
			a, b = b, a
		}
		switch {
		case a == q:
			// A line that ends there, too, is in the way, if they go the same way.
			if on(b, x, q) || on(x, a, b) {
				return false
			}
		case on(a, x, q) || on(b, x, q) || turn(x, q, a)*turn(x, q, b) < 0 && turn(a, b, x)*turn(a, b, q) < 0:
			return false
		}
	}
	return true
}

// within are points strictly within a triangle, so many times as far from 0 as its points.
const times = 5

func within(a, b, c api.Pt) []api.Pt {
	var out []api.Pt
	for i := 1; i < times-1; i++ {
		for j := 1; i+j < times; j++ {
			k := times - i - j
			out = append(out, pt(i*a.X+j*b.X+k*c.X, i*a.Y+j*b.Y+k*c.Y))
		}
	}
	return out
}

// isUnseen tells it, if a real triangle of a mesh has, within its circle, a point that is seen from some of the points within it: P2's own words.
func isUnseen(t *testing.T, what string, m *mesh.Mesh, of ...any) {
	t.Helper()
	wide := func(v int) api.Pt { return pt(times*m.Pts[v].X, times*m.Pts[v].Y) }
	var lines [][2]api.Pt
	for _, e := range faultsOf(m) {
		lines = append(lines, [2]api.Pt{wide(e[0]), wide(e[1])})
	}
	for _, v := range realsOf(m) {
		a, b, c := m.Pts[v[0]], m.Pts[v[1]], m.Pts[v[2]]
		for _, q := range inIt(m) {
			if circle(a, b, c, m.Pts[q]) <= 0 {
				continue
			}
			for _, x := range within(a, b, c) {
				isSame(t, "a point in a circle is seen: "+what, sees(x, wide(q), lines), false, v, q, x, of)
			}
		}
	}
}
