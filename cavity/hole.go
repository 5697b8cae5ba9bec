package cavity

import (
	"isohyet/api"
	"isohyet/mesh"
	"isohyet/walk"
)

// none stands where there is no triangle, or no such edge.
const none = -1

// A hole is the triangles that are taken of a mesh: a list, as they came, and a map, which tells of each whether it is one of them.
type hole struct {
	m    *mesh.Mesh
	tris []int
	has  map[int]struct{}
}

// begin is the hole of the triangle of a place, and of that across the edge on which it is.
func begin(m *mesh.Mesh, at walk.Place) *hole {
	h := &hole{m: m, has: map[int]struct{}{}}
	h.take(at.Tri)
	if at.Kind == walk.OnEdge {
		h.take(across(m, at.Tri, at.A, at.B))
	}
	return h
}

// spread takes what is in conflict with a point beside what is taken, but across no fault.
func (h *hole) spread(p api.Pt) {
	// The list grows: what is taken here is gone through, too.
	for n := 0; n < len(h.tris); n++ {
		x := h.m.Tris[h.tris[n]]
		for i, u := range x.N {
			if !x.F[i] && !h.holds(u) && Conflict(h.m, u, p) {
				h.take(u)
			}
		}
	}
}

// take takes a triangle, if there is one of that number.
func (h *hole) take(t int) {
	if len(corners(h.m, t)) > 0 && !h.holds(t) {
		h.tris = append(h.tris, t)
		h.has[t] = struct{}{}
	}
}

func (h *hole) holds(t int) bool {
	_, ok := h.has[t]
	return ok
}

// rim are the edges across which lies what isn't taken, in order.
func (h *hole) rim() []Side {
	var out []Side
	for _, t := range h.tris {
		for i, u := range h.m.Tris[t].N {
			if !h.holds(u) {
				out = append(out, h.side(t, i))
			}
		}
	}
	return inRow(out)
}

// side is edge i of t.
func (h *hole) side(t, i int) Side {
	x := h.m.Tris[t]
	a, b := ends(x, i)
	u := x.N[i]
	return Side{A: a, B: b, Out: u, I: edge(h.m, u, b, a), Fault: x.F[i]}
}

// inRow are sides so that each begins where the one ahead ends, the least A first.
func inRow(l []Side) []Side {
	if len(l) == 0 {
		return nil
	}
	from := map[int]Side{}
	next := l[0].A
	for _, s := range l {
		from[s.A] = s
		next = min(next, s.A)
	}
	var out []Side
	// No more of them than there are: a rim that doesn't close may come to no end.
	for range l {
		s, ok := from[next]
		if !ok {
			break
		}
		out = append(out, s)
		next = s.B
	}
	return out
}

// across is the triangle on the other side of t's edge between two points, whichever way that goes.
func across(m *mesh.Mesh, t, a, b int) int {
	i := max(edge(m, t, a, b), edge(m, t, b, a))
	if i == none {
		return none
	}
	return m.Tris[t].N[i]
}

// edge is which of t's edges goes from a to b.
func edge(m *mesh.Mesh, t, a, b int) int {
	if t < 0 || t >= len(m.Tris) {
		return none
	}
	for i := range 3 {
		if from, to := ends(m.Tris[t], i); from == a && to == b {
			return i
		}
	}
	return none
}

// ends are those of edge i of a triangle, from which to which it goes.
func ends(x mesh.Tri, i int) (int, int) {
	return x.V[(i+1)%3], x.V[(i+2)%3]
}
