package grow

import (
	"slices"

	"isohyet/cavity"
	"isohyet/mesh"
	"isohyet/walk"
)

// put changes the cavity of the point v, the place of which is at, for triangles that have v.
func put(m *mesh.Mesh, v int, at walk.Place) {
	// Both are asked ahead of what changes the mesh.
	parted := faultAt(m, at)
	c := cavity.Dig(m, m.Pts[v], at)
	for _, t := range c.Tris {
		m.Drop(t)
	}
	fill(m, v, c.Rim, parted)
}

// faultAt are the ends of the fault on which a place is; nothing, if it is on none.
func faultAt(m *mesh.Mesh, at walk.Place) []int {
	if at.Kind != walk.OnEdge {
		return nil
	}
	x := m.Tris[at.Tri]
	for i, a := range x.V {
		if a != at.A && a != at.B && x.F[i] {
			return []int{at.A, at.B}
		}
	}
	return nil
}

// fill makes a triangle for each side of a rim, of that side and v; edges from v to the points of parted are faults.
func fill(m *mesh.Mesh, v int, rim []cavity.Side, parted []int) {
	made := make([]int, len(rim))
	for i, s := range rim {
		made[i] = m.Make(s.A, s.B, v)
		m.Link(made[i], 2, s.Out, s.I, s.Fault)
	}
	for i, s := range rim {
		// Where one side ends the next one begins: their triangles have that point and v in common.
		next := made[(i+1)%len(rim)]
		m.Link(made[i], 0, next, 1, slices.Contains(parted, s.B))
	}
}
