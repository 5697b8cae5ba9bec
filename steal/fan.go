package steal

import (
	"slices"

	"isohyet/api"
	"isohyet/cavity"
	"isohyet/mesh"
	"isohyet/spot"
)

// none stands where there is no triangle.
const none = -1

// fan are the triangles that have the point where side from begins and side to ends, from the one that has the first of these sides to the one that has the other one: by where they are among a cavity's, which rise.
func fan(m *mesh.Mesh, tris []int, from, to cavity.Side) []int {
	var out []int
	t, last := inner(m, from), inner(m, to)
	// No more of them than there are: what isn't sound may come to no end.
	for range tris {
		k, ok := slices.BinarySearch(tris, t)
		if !ok {
			break
		}
		out = append(out, k)
		if t == last {
			break
		}
		t = next(m, t, from.A)
	}
	return out
}

// inner is the triangle on the side of a rim where the point is.
func inner(m *mesh.Mesh, s cavity.Side) int {
	if !isThere(m, s.Out) || s.I < 0 || s.I > 2 {
		return none
	}
	return m.Tris[s.Out].N[s.I]
}

// next is the triangle beside t that comes next going round v, one of t's points, to the left.
func next(m *mesh.Mesh, t, v int) int {
	if !isThere(m, t) {
		return none
	}
	x := m.Tris[t]
	// The edge that ends at v has the point behind v over against it.
	return x.N[(slices.Index(x.V[:], v)+1)%3]
}

// centres are those of triangles.
func centres(m *mesh.Mesh, tris []int) []spot.Spot {
	var out []spot.Spot
	for _, t := range tris {
		var l [3]api.Pt
		if isThere(m, t) {
			for k, v := range m.Tris[t].V {
				l[k] = point(m, v)
			}
		}
		middle, _ := spot.Centre(l[0], l[1], l[2])
		out = append(out, middle)
	}
	return out
}

func isThere(m *mesh.Mesh, t int) bool {
	return t >= 0 && t < len(m.Tris)
}

// point is that of a number; Ghost has none.
func point(m *mesh.Mesh, v int) api.Pt {
	if v < 0 || v >= len(m.Pts) {
		return api.Pt{}
	}
	return m.Pts[v]
}
