package mesh_test

import (
	"math/big"
	"slices"

	"isohyet/api"
	"isohyet/mesh"
)

// soundInWords tells whether a mesh is sound, by the chapter's words, one after the other, with no thought of which of them follow from others.
func soundInWords(m *mesh.Mesh) bool {
	w := words{m: m}
	for t, x := range m.Tris {
		if x.V != [3]int{mesh.Gone, mesh.Gone, mesh.Gone} {
			w.there = append(w.there, t)
		}
	}
	return w.formed() && w.linked() && w.once() && w.ghostsRound() && w.convex() && w.filled() && w.around()
}

// words are those of a mesh: the numbers of the triangles that aren't gone.
type words struct {
	m     *mesh.Mesh
	there []int
}

// ghosts are the numbers of the triangles with Ghost.
func (w words) ghosts() []int {
	return slices.DeleteFunc(slices.Clone(w.there), func(t int) bool {
		return !slices.Contains(w.m.Tris[t].V[:], mesh.Ghost)
	})
}

// reals are the numbers of the others.
func (w words) reals() []int {
	return slices.DeleteFunc(slices.Clone(w.there), func(t int) bool {
		return slices.Contains(w.m.Tris[t].V[:], mesh.Ghost)
	})
}

// corners are the places of a real triangle's points.
func (w words) corners(t int) [3]api.Pt {
	v := w.m.Tris[t].V
	return [3]api.Pt{w.m.Pts[v[0]], w.m.Pts[v[1]], w.m.Pts[v[2]]}
}

// border are its edges, as real triangles have them.
func (w words) border() [][2]int {
	var out [][2]int
	for _, t := range w.ghosts() {
		x := w.m.Tris[t]
		g := slices.Index(x.V[:], mesh.Ghost)
		out = append(out, [2]int{x.V[(g+2)%3], x.V[(g+1)%3]})
	}
	return out
}

// formed: all triangles that aren't gone are real, turning left, or ghosts, with an edge that a real one has.
func (w words) formed() bool {
	edges := map[[2]int]bool{}
	for _, t := range w.reals() {
		v := w.m.Tris[t].V
		if slices.Contains(v[:], mesh.Gone) {
			return false
		}
		if c := w.corners(t); turn(c[0], c[1], c[2]) <= 0 {
			return false
		}
		for i := range v {
			edges[[2]int{v[i], v[(i+1)%3]}] = true
		}
	}
	for _, e := range w.border() {
		if !edges[e] {
			return false
		}
	}
	return true
}

// linked: across each edge lies the same, the other way round, as much a fault; edges of Ghost are none.
func (w words) linked() bool {
	for _, t := range w.there {
		x := w.m.Tris[t]
		for i := range 3 {
			a, b := x.V[(i+1)%3], x.V[(i+2)%3]
			if (a == mesh.Ghost || b == mesh.Ghost) && x.F[i] || !slices.Contains(w.there, x.N[i]) {
				return false
			}
			u, back := w.m.Tris[x.N[i]], false
			for j := range 3 {
				back = back || u.V[(j+1)%3] == b && u.V[(j+2)%3] == a && u.N[j] == t && u.F[j] == x.F[i]
			}
			if !back {
				return false
			}
		}
	}
	return true
}

// once: no two triangles have the same edge, the same way round.
func (w words) once() bool {
	seen := map[[2]int]bool{}
	for _, t := range w.there {
		v := w.m.Tris[t].V
		for i := range v {
			e := [2]int{v[i], v[(i+1)%3]}
			if seen[e] {
				return false
			}
			seen[e] = true
		}
	}
	return true
}

// together tells whether who begins at one of some triangles, and goes on across edges that have v, comes to all of them.
func (w words) together(l []int, v int) bool {
	seen := l[:1:1]
	for i := 0; i < len(seen); i++ {
		x := w.m.Tris[seen[i]]
		for k, u := range x.N {
			if x.V[k] != v && !slices.Contains(seen, u) {
				seen = append(seen, u)
			}
		}
	}
	return len(seen) == len(l)
}

// ghostsRound: there are ghosts, and they are one beside the other.
func (w words) ghostsRound() bool {
	l := w.ghosts()
	return len(l) > 0 && w.together(l, mesh.Ghost)
}

// convex: no point of the border lies to the right of an edge of it.
func (w words) convex() bool {
	for _, e := range w.border() {
		for _, f := range w.border() {
			if turn(w.m.Pts[e[0]], w.m.Pts[e[1]], w.m.Pts[f[0]]) < 0 {
				return false
			}
		}
	}
	return true
}

// filled: the real triangles' areas are that of the border's least convex polygon.
func (w words) filled() bool {
	left := new(big.Int)
	for _, t := range w.reals() {
		c := w.corners(t)
		left.Add(left, area2(c[0], c[1], c[2]))
	}
	var l []api.Pt
	for _, e := range w.border() {
		l = append(l, w.m.Pts[e[0]])
	}
	h := hullOf(l, false)
	for i := range h {
		left.Sub(left, area2(h[0], h[i], h[(i+1)%len(h)]))
	}
	return left.Sign() == 0
}

// around: of each point in the mesh all triangles that have it are one beside the other.
func (w words) around() bool {
	for v := range w.m.Pts {
		l := slices.DeleteFunc(slices.Clone(w.there), func(t int) bool {
			return !slices.Contains(w.m.Tris[t].V[:], v)
		})
		if len(l) > 0 && !w.together(l, v) {
			return false
		}
	}
	return true
}
