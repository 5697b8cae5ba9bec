package fault

import (
	"slices"

	"isohyet/mesh"
	"isohyet/pred"
)

// An edge goes from one point to another one.
type edge struct{ from, to int }

// A place is where an edge is: of which triangle, and which one.
type place struct{ t, i int }

// A patch is a mesh with triangles taken out, for which others are put in.
type patch struct {
	m *mesh.Mesh
	// open are the edges, as their triangles have them, across which there is nothing.
	open map[edge]place
	// faults are the edges that are to be faults. The open ones can't tell it: a fault that ends in the midst of what is taken out loses the triangles on both its sides.
	faults map[edge]struct{}
}

// refill puts other triangles in the place of the channel of the line from a to b, so that this is an edge, and a fault.
func refill(m *mesh.Mesh, a, b int, c channel) {
	p := &patch{m, map[edge]place{}, map[edge]struct{}{}}
	p.take(c.tris)
	p.keep(a, b)
	p.fill(a, b, c.left)
	slices.Reverse(c.right)
	p.fill(b, a, c.right)
}

// take takes triangles out; the edges of others that lay across are open then.
func (p *patch) take(tris []int) {
	for _, t := range tris {
		p.unlink(t)
	}
	for _, t := range tris {
		x := p.m.Tris[t]
		p.m.Drop(t)
		// Those between two that are taken out were opened, too.
		for i := range 3 {
			from, to := ends(x, i)
			delete(p.open, edge{from, to})
		}
	}
}

// unlink opens the edges across from those of a triangle, and keeps in mind which are faults.
func (p *patch) unlink(t int) {
	x := p.m.Tris[t]
	for i, u := range x.N {
		from, to := ends(x, i)
		if j := edgeOf(p.m, u, to, from); j != none {
			p.open[edge{to, from}] = place{u, j}
		}
		if x.F[i] {
			p.keep(from, to)
		}
	}
}

// fill puts triangles in between the line from a to b and a row of points to its left, that goes from a to b.
func (p *patch) fill(a, b int, row []int) {
	if len(row) == 0 {
		return
	}
	k := p.nearest(a, b, row)
	p.fill(a, row[k], row[:k])
	p.fill(row[k], b, row[k+1:])
	p.put(a, b, row[k])
}

// nearest is which of a row has none of the others within its circle through a and b: the edges from that one to a and b cross none of the row's,
// since each of these points can be reached from the line, and a point that is there twice has another one, in between, within its circle.
func (p *patch) nearest(a, b int, row []int) int {
	k := 0
	from, to := point(p.m, a), point(p.m, b)
	for i := range row {
		if pred.Circle(from, to, point(p.m, row[k]), point(p.m, row[i])) > 0 {
			k = i
		}
	}
	return k
}

// put puts a triangle in, and links it to what is open across its edges; where there is nothing they are open.
func (p *patch) put(a, b, c int) {
	t := p.m.Make(a, b, c)
	for i := range 3 {
		from, to := ends(p.m.Tris[t], i)
		over := edge{to, from}
		if u, ok := p.open[over]; ok {
			p.m.Link(t, i, u.t, u.i, p.isFault(from, to))
			delete(p.open, over)
		} else {
			p.open[edge{from, to}] = place{t, i}
		}
	}
}

// keep keeps in mind that an edge is to be a fault.
func (p *patch) keep(a, b int) {
	p.faults[edge{min(a, b), max(a, b)}] = struct{}{}
}

func (p *patch) isFault(a, b int) bool {
	_, ok := p.faults[edge{min(a, b), max(a, b)}]
	return ok
}
