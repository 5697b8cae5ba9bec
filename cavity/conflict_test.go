package cavity_test

import (
	"math"
	"slices"
	"testing"

	"isohyet/api"
	"isohyet/cavity"
	"isohyet/mesh"
)

// TestConflict: each triangle that isn't gone, and each point, those of the mesh, too.
func TestConflict(t *testing.T) {
	on := 0
	for _, s := range shapes() {
		was := s.m.Copy()
		for _, p := range slices.Concat(s.ask, s.m.Pts) {
			in := inConflict(s.m, p)
			for u, x := range s.m.Tris {
				if x.V[0] == mesh.Gone {
					continue
				}
				isSame(t, "Conflict: "+s.what, cavity.Conflict(s.m, u, p), in[u], p, u)
				if s.m.Real(u) && !slices.Contains(s.m.Pts, p) && circle(s.m.Pts[x.V[0]], s.m.Pts[x.V[1]], s.m.Pts[x.V[2]], p) == 0 {
					on++
				}
			}
		}
		isAsItWas(t, "Conflict: "+s.what, s.m, was)
	}
	isSame(t, "some points lie on circles", on > 100, true, on)
}

// TestConflictEverywhere: all points of a small board, and about it.
func TestConflictEverywhere(t *testing.T) {
	s := shapeOf("a board", board(-2, 0, 2), 0, 0)
	for x := -5; x <= 5; x++ {
		for y := -5; y <= 5; y++ {
			for u, in := range inConflict(s.m, pt(x, y)) {
				if s.m.Tris[u].V[0] != mesh.Gone {
					isSame(t, "Conflict", cavity.Conflict(s.m, u, pt(x, y)), in, x, y, u)
				}
			}
		}
	}
}

// number is that of the triangle that has an edge from a to b.
func number(t *testing.T, m *mesh.Mesh, a, b int) int {
	t.Helper()
	u, _, ok := m.Find(a, b)
	isSame(t, "there is an edge", ok, true, a, b)
	return u
}

// TestConflictInWords: a real triangle's circle, and a ghost's edge, with the points that are just not in conflict.
func TestConflictInWords(t *testing.T) {
	m, _ := mesh.New(pts(0, 0, 4, 0, 0, 4), 0, 1, 2)
	real, low, slope, left := number(t, m, 0, 1), number(t, m, 1, 0), number(t, m, 2, 1), number(t, m, 0, 2)
	for _, x := range []struct {
		what    string
		u       int
		yes, no []api.Pt
	}{
		{"a real one", real, pts(1, 1, 2, 0, 2, 2, 3, 3, 2, 4, 0, 1, 0, 3), pts(0, 0, 4, 0, 0, 4, 4, 4, 5, 0, -1, -1, 9, 9, -far, far)},
		{"a ghost below", low, pts(2, -1, -9, -1, 9, -1, 1, 0, 2, 0, 3, 0, far, -far), pts(0, 0, 4, 0, 5, 0, -1, 0, -far, 0, far, 0, 2, 1, 0, 4, 9, 1)},
		{"a ghost beside the slope", slope, pts(3, 3, 2, 2, 1, 3, 4, 1, 9, 0, far, far), pts(4, 0, 0, 4, 5, -1, -1, 5, 1, 1, 0, 0, 2, 1, -far, -far)},
		{"a ghost to the left", left, pts(-1, 2, -1, -9, -1, 9, 0, 1, 0, 3), pts(0, 0, 0, 4, 0, 5, 0, -1, 1, 1, 1, 9)},
	} {
		for _, p := range x.yes {
			isSame(t, "Conflict: "+x.what, cavity.Conflict(m, x.u, p), true, p)
		}
		for _, p := range x.no {
			isSame(t, "Conflict: "+x.what, cavity.Conflict(m, x.u, p), false, p)
		}
	}
}

// TestConflictFar: the greatest circle, a step to either side of it.
func TestConflictFar(t *testing.T) {
	m, _ := mesh.New(pts(-far, -far, far, -far, -far, far), 0, 1, 2)
	real := number(t, m, 0, 1)
	for _, x := range []struct {
		p    api.Pt
		want bool
	}{
		{pt(far, far), false},
		{pt(far-1, far), true},
		{pt(far, far-1), true},
		{pt(far-1, far-1), true},
		{pt(-far, far-1), true},
		{pt(-far, far), false},
		{pt(0, 0), true},
	} {
		isSame(t, "Conflict", cavity.Conflict(m, real, x.p), x.want, x.p)
	}
	out := number(t, m, 2, 1)
	isSame(t, "Conflict of a ghost, between the ends", cavity.Conflict(m, out, pt(0, 0)), true)
	isSame(t, "Conflict of a ghost, a step beyond", cavity.Conflict(m, out, pt(1, 0)), true)
	isSame(t, "Conflict of a ghost, a step within", cavity.Conflict(m, out, pt(0, -1)), false)
}

// TestConflictFaults: faults play no part in it.
func TestConflictFaults(t *testing.T) {
	for _, s := range shapes() {
		other := s.m.Copy()
		for u, x := range other.Tris {
			for i := range 3 {
				if n, j, ok := other.Find(x.V[(i+2)%3], x.V[(i+1)%3]); ok {
					other.Link(u, i, n, j, false)
				}
			}
		}
		for _, p := range s.ask {
			for u := range s.m.Tris {
				isSame(t, "Conflict: "+s.what, cavity.Conflict(s.m, u, p), cavity.Conflict(other, u, p), p, u)
			}
		}
	}
}

// TestConflictOfNone: of what is gone, and of what isn't there, nothing is said, but there is an answer, and always the same.
func TestConflictOfNone(t *testing.T) {
	for _, s := range shapes() {
		n := len(s.m.Tris)
		numbers := []int{-1, -2, -7, n, n + 1, math.MinInt, math.MaxInt}
		for u, x := range s.m.Tris {
			if x.V[0] == mesh.Gone {
				numbers = append(numbers, u)
			}
		}
		isSame(t, "some are gone", len(numbers) > 7, true)
		for _, u := range numbers {
			for _, p := range s.ask[:20] {
				isSame(t, "Conflict", cavity.Conflict(s.m, u, p), cavity.Conflict(s.m, u, p), u, p)
			}
		}
	}
}
