package walk

import (
	"isohyet/api"
	"isohyet/mesh"
	"isohyet/pred"
)

// Find: a point's place, by going from triangle to triangle; how many were looked at.
func Find(m *mesh.Mesh, p api.Pt, from, budget int) (Place, int) {
	t := begin(m, from)
	w := way{m, t, p}
	looked := 0
	// In a sound mesh a way comes to no triangle twice, so that this bound changes nothing; in others it might go round for ever.
	most := min(budget, len(m.Tris))
onward:
	for looked < most {
		looked++
		if !m.Real(t) {
			return Place{Kind: Outside, Tri: t}, looked
		}
		for i := range 3 {
			if side(m, t, i, p) < 0 && w.leaves(t, i) {
				t = m.Tris[t].N[i]
				continue onward
			}
		}
		return within(m, t, p), looked
	}
	return Look(m, p), looked
}

// begin is from, or the first real triangle, if from isn't a real one.
func begin(m *mesh.Mesh, from int) int {
	if m.Real(from) {
		return from
	}
	for t := range m.All() {
		return t
	}
	return none
}

// A way is the straight line to a point from one that lies within the triangle start.
// Who takes any edge that has the point beyond it may go round for ever, where a mesh isn't Delaunay's; who keeps to one line can't.
type way struct {
	m     *mesh.Mesh
	start int
	to    api.Pt
}

// leaves tells whether the way goes out of the real triangle t, through which it goes, across edge i.
func (w way) leaves(t, i int) bool {
	v := w.m.Tris[t].V
	return w.side(v[(i+1)%3]) < 0 && w.side(v[(i+2)%3]) > 0
}

// side tells on which side of the way the point v lies: 1, left, -1, right; 0: only where the way ends.
func (w way) side(v int) int {
	// It begins beside the first corner, off it by as little as can be toward the second one, by far less toward the third one.
	// So it goes through no other point, and where a corner doesn't tell, the next one does.
	for _, a := range w.m.Tris[w.start].V {
		if s := pred.Orient(w.m.Pts[a], w.to, w.m.Pts[v]); s != 0 {
			return s
		}
	}
	return 0
}
