package fault

import (
	"isohyet/mesh"
	"isohyet/pred"
)

// none stands where a triangle has no such edge.
const none = -1

// A channel is the triangles through which a line goes, and the points beside it, to its left and to its right, in the order in which it comes by.
// A point is there more than once, if the line comes by others, that lie ahead of it, in between.
type channel struct {
	tris, left, right []int
}

// dig is the channel of the line from a to b, which is no edge, and on which no other point lies; false: in a mesh that isn't sound there may be none.
func dig(m *mesh.Mesh, a, b int) (channel, bool) {
	t, i, ok := gate(m, a, b)
	if !ok {
		return channel{}, false
	}
	right, left := ends(m.Tris[t], i)
	c := channel{tris: []int{t}, left: []int{left}, right: []int{right}}
	// No more triangles than there are: in a mesh that isn't sound it may go round for ever.
	for range m.Tris {
		u := m.Tris[t].N[i]
		j := edgeOf(m, u, left, right)
		if j == none || !m.Real(u) {
			break
		}
		c.tris = append(c.tris, u)
		v := m.Tris[u].V[j]
		if v == b {
			return c, true
		}
		if pred.Orient(point(m, a), point(m, b), point(m, v)) > 0 {
			left, i = v, (j+1)%3
			c.left = append(c.left, v)
		} else {
			right, i = v, (j+2)%3
			c.right = append(c.right, v)
		}
		t = u
	}
	return channel{}, false
}

// gate is the triangle that has a, and the edge over against a, by which the line from a to b leaves it.
func gate(m *mesh.Mesh, a, b int) (int, int, bool) {
	for t, k := range m.Around(a) {
		if m.Real(t) && crosses(m, a, b, m.Tris[t], k) {
			return t, k, true
		}
	}
	return 0, 0, false
}

// edgeOf is which of t's edges goes from a to b.
func edgeOf(m *mesh.Mesh, t, a, b int) int {
	if t < 0 || t >= len(m.Tris) {
		return none
	}
	for i := range 3 {
		if from, to := ends(m.Tris[t], i); from == a && to == b {
			return i
		}
	}
	return none
}
