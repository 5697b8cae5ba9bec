package mesh

import (
	"slices"

	"isohyet/pred"
)

// Sound: is all as it should be?
func (m *Mesh) Sound() bool {
	// Sound alone may be asked of what nobody made: no mesh at all among it.
	if m == nil {
		return false
	}
	ghosts := 0
	for t := range m.Tris {
		if m.Tris[t].gone() {
			continue
		}
		if !m.formed(t) || !m.linked(t) {
			return false
		}
		if m.place(t, Ghost) != none {
			ghosts++
		}
	}
	// Real triangles that are linked so, within a border that turns left and goes round once, cover what lies within it just once.
	// So their areas are right, no edge is there twice, and each point can be gone round: none of that is looked at by itself.
	h := m.border()
	return len(h) == ghosts && m.convex(h)
}

// formed tells whether t is real, or a ghost, as it should be.
func (m *Mesh) formed(t int) bool {
	x := &m.Tris[t]
	g := slices.Index(x.V[:], Ghost)
	if g == none {
		return m.turn(x.V[0], x.V[1], x.V[2]) > 0
	}
	return m.Real(x.N[g]) && !x.F[(g+1)%3] && !x.F[(g+2)%3]
}

// linked tells whether across each edge of t lies that edge, the other way round, which tells the same of it.
func (m *Mesh) linked(t int) bool {
	x := &m.Tris[t]
	for i, u := range x.N {
		a, b := x.ends(i)
		j := m.edge(u, b, a)
		if j == none || m.Tris[u].N[j] != t || m.Tris[u].F[j] != x.F[i] {
			return false
		}
	}
	return true
}

// convex tells whether a border goes on straight, or turns left, at each of its points, and goes round once.
func (m *Mesh) convex(h []int) bool {
	rounds := 0
	for i := range h {
		a, b, c := m.Pts[h[i]], m.Pts[h[(i+1)%len(h)]], m.Pts[h[(i+2)%len(h)]]
		if pred.Orient(a, b, c) <= 0 && !pred.Between(b, a, c) {
			return false
		}
		// What always turns left, each time by less than half a round, begins to rise just once a round.
		if a.Y >= b.Y && b.Y < c.Y {
			rounds++
		}
	}
	return rounds == 1
}
