package mesh

import (
	"cmp"
	"iter"
	"slices"
)

// An Edge is one of a mesh.
type Edge struct {
	A, B        int
	Fault, Hull bool
}

// At: a triangle that has a point; below 0: none.
func (m *Mesh) At(v int) int {
	// Ghosts have Ghost, but that is no point.
	if v < 0 {
		return none
	}
	return m.first(v)
}

// Find: the triangle with an edge that goes from one to another one.
func (m *Mesh) Find(a, b int) (int, int, bool) {
	for t := range m.Tris {
		if i := m.edge(t, a, b); i != none {
			return t, i, true
		}
	}
	return none, 0, false
}

// Real: is there a real triangle of that number?
func (m *Mesh) Real(t int) bool {
	return m.there(t) && min(m.Tris[t].V[0], m.Tris[t].V[1], m.Tris[t].V[2]) >= 0
}

// All: all real triangles.
func (m *Mesh) All() iter.Seq2[int, Tri] {
	return func(yield func(int, Tri) bool) {
		for t := range m.Tris {
			if m.Real(t) && !yield(t, m.Tris[t]) {
				return
			}
		}
	}
}

// Around: all triangles that have a point, going round to the left.
func (m *Mesh) Around(v int) iter.Seq2[int, int] {
	return m.round(v, m.At)
}

// Edges: all edges, each once.
func (m *Mesh) Edges() iter.Seq[Edge] {
	return func(yield func(Edge) bool) {
		for _, e := range m.edges() {
			if !yield(e) {
				return
			}
		}
	}
}

// Hull: the border's points.
func (m *Mesh) Hull() []int {
	h := m.border()
	if len(h) == 0 {
		return nil
	}
	least := slices.Index(h, slices.Min(h))
	return slices.Concat(h[least:], h[:least])
}

// first is the first triangle that has v, a point or Ghost.
func (m *Mesh) first(v int) int {
	for t := range m.Tris {
		if m.place(t, v) != none {
			return t
		}
	}
	return none
}

// place is where t has v, a point or Ghost.
func (m *Mesh) place(t, v int) int {
	if !m.there(t) {
		return none
	}
	return slices.Index(m.Tris[t].V[:], v)
}

// edge is which of t's edges goes from a to b.
func (m *Mesh) edge(t, a, b int) int {
	if !m.there(t) {
		return none
	}
	for i := range 3 {
		if from, to := m.Tris[t].ends(i); from == a && to == b {
			return i
		}
	}
	return none
}

// round goes round v, a point or Ghost, to the left, beginning where it is told to.
func (m *Mesh) round(v int, begin func(int) int) iter.Seq2[int, int] {
	return func(yield func(int, int) bool) {
		first := begin(v)
		t := first
		// No more triangles than there are: in a mesh that isn't sound the first one may never come again.
		for range m.Tris {
			k := m.place(t, v)
			if k == none {
				return
			}
			next := m.Tris[t].N[(k+1)%3]
			if !yield(t, k) || next == first {
				return
			}
			t = next
		}
	}
}

// edges are all edges of real triangles, in order.
func (m *Mesh) edges() []Edge {
	var out []Edge
	for _, x := range m.All() {
		for i := range 3 {
			a, b := x.ends(i)
			hull := !m.Real(x.N[i])
			// Of an edge's two triangles one has it from the lesser number on; on the border the only one may have it either way.
			if hull || a < b {
				out = append(out, Edge{A: min(a, b), B: max(a, b), Fault: x.F[i], Hull: hull})
			}
		}
	}
	slices.SortFunc(out, func(d, e Edge) int {
		return cmp.Or(cmp.Compare(d.A, e.A), cmp.Compare(d.B, e.B))
	})
	return out
}

// border is its points, going round to the left.
func (m *Mesh) border() []int {
	var out []int
	for t, k := range m.round(Ghost, m.first) {
		out = append(out, m.Tris[t].V[(k+1)%3])
	}
	// Ghost lies beyond the border: who goes round it to the left goes to the right round what lies within.
	slices.Reverse(out)
	return out
}
