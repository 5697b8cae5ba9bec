package walk_test

import (
	"cmp"
	"math/big"
	"slices"
	"testing"

	"isohyet/api"
	"isohyet/mesh"
	"isohyet/walk"
)

const far = api.MaxCoord

func pt(x, y int) api.Pt {
	return api.Pt{X: x, Y: y}
}

// pts are the points of which these are x, y, x, y ..
func pts(coords ...int) []api.Pt {
	var out []api.Pt
	for i := 0; i < len(coords); i += 2 {
		out = append(out, pt(coords[i], coords[i+1]))
	}
	return out
}

// board are all points whose coordinates are any of those handed in.
func board(coords ...int) []api.Pt {
	var out []api.Pt
	for _, x := range coords {
		for _, y := range coords {
			out = append(out, pt(x, y))
		}
	}
	return out
}

// A dice tells numbers of mixed bits, always the same ones.
type dice uint64

// below is a number from 0 up to less than n.
func (d *dice) below(n int) int {
	*d = *d*6364136223846793005 + 1442695040888963407
	return int(*d>>31) % n
}

// mixed are n points at places of their own, no farther than most from 0 to either side.
func mixed(d *dice, n, most int) []api.Pt {
	var out []api.Pt
	for len(out) < n {
		p := pt(d.below(2*most+1)-most, d.below(2*most+1)-most)
		if !slices.Contains(out, p) {
			out = append(out, p)
		}
	}
	return out
}

// shuffle mixes up a list's order.
func shuffle[T any](d *dice, l []T) {
	for i := range l {
		j := d.below(i + 1)
		l[i], l[j] = l[j], l[i]
	}
}

// turn tells how three points turn, by exact numbers: what lies under each edge.
func turn(a, b, c api.Pt) int {
	sum := new(big.Int)
	for _, e := range [][2]api.Pt{{a, b}, {b, c}, {c, a}} {
		one, two := big.NewInt(int64(e[0].X)), big.NewInt(int64(e[0].Y))
		sum.Add(sum, one.Mul(one, big.NewInt(int64(e[1].Y))))
		sum.Sub(sum, two.Mul(two, big.NewInt(int64(e[1].X))))
	}
	return sum.Sign()
}

// sweep are triangles, turning left, that fill the least convex polygon of points (at places of their own, not all on a line).
func sweep(l []api.Pt) [][3]int {
	order := make([]int, len(l))
	for i := range order {
		order[i] = i
	}
	slices.SortFunc(order, func(i, j int) int {
		return cmp.Or(cmp.Compare(l[i].X, l[j].X), cmp.Compare(l[i].Y, l[j].Y))
	})
	first := 2
	for turn(l[order[0]], l[order[1]], l[order[first]]) == 0 {
		first++
	}
	rim := slices.Clone(order[:first])
	if turn(l[order[0]], l[order[1]], l[order[first]]) < 0 {
		slices.Reverse(rim)
	}
	var out [][3]int
	for i := range rim[1:] {
		out = append(out, [3]int{rim[i], rim[i+1], order[first]})
	}
	rim = append(rim, order[first])
	for _, v := range order[first+1:] {
		sees := func(i int) bool {
			n := len(rim)
			return turn(l[rim[(i+n)%n]], l[rim[(i+1)%n]], l[v]) < 0
		}
		from, to := 0, 0
		for !sees(from) || sees(from-1) {
			from++
		}
		rim = slices.Concat(rim[from:], rim[:from])
		for ; sees(to); to++ {
			out = append(out, [3]int{rim[to+1], rim[to], v})
		}
		rim = slices.Concat(rim[:1], []int{v}, rim[to:])
	}
	return out
}

// flip changes, times often, two triangles' edge for their other one, where it can be: so that long and thin ones come about.
func flip(d *dice, l []api.Pt, real [][3]int, times int) {
	for range times {
		x, y := &real[d.below(len(real))], &real[d.below(len(real))]
		for i := range 3 {
			for j := range 3 {
				a, b, c, over := x[i], x[(i+1)%3], x[(i+2)%3], y[j]
				fits := y[(j+1)%3] == c && y[(j+2)%3] == b
				if fits && turn(l[a], l[b], l[over]) > 0 && turn(l[a], l[over], l[c]) > 0 {
					*x, *y = [3]int{a, b, over}, [3]int{a, over, c}
				}
			}
		}
	}
}

// ghosts are those of real triangles: of each edge that only one of them has.
func ghosts(real [][3]int) [][3]int {
	there := map[[2]int]bool{}
	for _, v := range real {
		for i := range v {
			there[[2]int{v[i], v[(i+1)%3]}] = true
		}
	}
	var out [][3]int
	for _, v := range real {
		for i := range v {
			if a, b := v[i], v[(i+1)%3]; !there[[2]int{b, a}] {
				out = append(out, [3]int{b, a, mesh.Ghost})
			}
		}
	}
	return out
}

// assemble is a mesh of these triangles, and their ghosts, in mixed order, with some between that are gone; some edges are faults.
func assemble(d *dice, l []api.Pt, real [][3]int) *mesh.Mesh {
	m, _ := mesh.New(l, real[0][0], real[0][1], real[0][2])
	for t := range m.Tris {
		m.Drop(t)
	}
	gone := [3]int{mesh.Gone, 0, 0}
	all := append(slices.Concat(real, ghosts(real)), gone, gone, gone)
	shuffle(d, all)
	for i, v := range all {
		m.Make(v[i%3], v[(i+1)%3], v[(i+2)%3])
	}
	for t, v := range all {
		if v == gone {
			m.Drop(t)
		}
	}
	for t, x := range m.Tris {
		for i := range 3 {
			a, b := x.V[(i+1)%3], x.V[(i+2)%3]
			if u, j, ok := m.Find(b, a); ok && t < u {
				m.Link(t, i, u, j, min(a, b) >= 0 && d.below(3) == 0)
			}
		}
	}
	return m
}

// A shape is a sound mesh, and points of which the place may be asked.
type shape struct {
	what string
	m    *mesh.Mesh
	ask  []api.Pt
}

// shapeOf is that of points, with triangles that fill them, flipped, if it is asked, some times.
func shapeOf(what string, l []api.Pt, flips int) shape {
	d := dice(5)
	real := sweep(l)
	flip(&d, l, real, flips)
	return shaped(what, assemble(&d, l, real))
}

// shaped is a shape whose points to ask are the mesh's, those a step beside them, those midway between them, and some far away.
func shaped(what string, m *mesh.Mesh) shape {
	// Points that no triangle has, at places that are asked for, play no part.
	m.Add(pt(m.Pts[0].X, m.Pts[1].Y))
	m.Add(pt(1, 1))
	m.Add(m.Pts[0])
	d := dice(9)
	ask := append(board(-far, -1, 0, 1, far), m.Pts...)
	for _, p := range m.Pts {
		q := m.Pts[d.below(len(m.Pts))]
		ask = append(ask, pt(p.X+1, p.Y), pt(p.X-1, p.Y), pt(p.X, p.Y+1), pt(p.X+1, p.Y-1), pt((p.X+q.X)/2, (p.Y+q.Y)/2))
	}
	for _, x := range m.Tris {
		if a, b, c := x.V[0], x.V[1], x.V[2]; min(a, b, c) >= 0 {
			ask = append(ask, pt((m.Pts[a].X+m.Pts[b].X)/2, (m.Pts[a].Y+m.Pts[b].Y)/2))
			ask = append(ask, pt((m.Pts[a].X+m.Pts[b].X+m.Pts[c].X)/3, (m.Pts[a].Y+m.Pts[b].Y+m.Pts[c].Y)/3))
		}
	}
	ask = slices.DeleteFunc(ask, func(p api.Pt) bool { return min(p.X, p.Y) < -far || max(p.X, p.Y) > far })
	return shape{what, m, ask}
}

// whirl is a triangle within another one, turned, so that one may go round it for ever, by edges that have its midst strictly beyond them: to the left, or, mirrored, to the right; where triangles' points begin is as the dice says.
func whirl(d *dice, mirrored bool) shape {
	l := pts(12, 0, -6, 10, -6, -10, 6, -1, -2, 6, -4, -4)
	real := [][3]int{{3, 4, 5}}
	for i := range 3 {
		next := (i + 1) % 3
		real = append(real, [3]int{i, next, 3 + i}, [3]int{next, 3 + next, 3 + i})
	}
	if mirrored {
		for i := range l {
			l[i].X = -l[i].X
		}
		for i := range real {
			slices.Reverse(real[i][:])
		}
	}
	return shaped("a whirl", assemble(d, l, real))
}

// shapes are sound meshes, small and great, most of them not Delaunay's.
func shapes() []shape {
	d := dice(7)
	out := []shape{
		shapeOf("one triangle", pts(0, 0, 4, 0, 0, 4), 0),
		shapeOf("a square", pts(4, 4, 0, 0, 4, 0, 0, 4), 0),
		shapeOf("points on its sides", pts(0, 0, 2, 0, 4, 0, 1, 3, 6, 0, 3, 3, 5, 3, 4, 3), 0),
		shapeOf("the greatest square", board(-far, far), 0),
		shapeOf("a sliver", pts(-far, -far, far, far-1, far, far), 0),
		shapeOf("nearly on a line", pts(-far, -far, 0, -1, far, far, -1, 0), 0),
		shapeOf("a board", board(0, 1, 2, 3, 4), 0),
		shapeOf("a board, flipped", board(0, 3, 6, 9, 12), 2000),
		shapeOf("a row above a point", pts(0, 0, 1, 0, 2, 0, 3, 0, 4, 0, 5, 0, 2, -1), 0),
		shapeOf("mixed, near", mixed(&d, 25, 6), 0),
		shapeOf("mixed, flipped", mixed(&d, 40, 300), 5000),
		shapeOf("mixed, far, flipped", mixed(&d, 30, far), 5000),
	}
	for i := range 40 {
		out = append(out, whirl(&d, i%2 == 1))
	}
	return out
}

// tri is the number of the triangle that has the edge from a to b.
func tri(t *testing.T, m *mesh.Mesh, a, b int) int {
	t.Helper()
	u, _, ok := m.Find(a, b)
	isSame(t, "there is an edge", ok, true, a, b)
	return u
}

// inWords is p's place, by the chapter's words and exact numbers, with 0 as its Tri, and all triangles that may be that, rising.
func inWords(m *mesh.Mesh, p api.Pt) (walk.Place, []int) {
	for v, q := range m.Pts {
		if l := having(m, v, v); p == q && len(l) > 0 {
			return walk.Place{Kind: walk.OnPoint, A: v}, l
		}
	}
	for e := range m.Edges() {
		if between(p, m.Pts[e.A], m.Pts[e.B]) {
			return walk.Place{Kind: walk.OnEdge, A: e.A, B: e.B}, having(m, e.A, e.B)
		}
	}
	var beyond []int
	for t, x := range m.Tris {
		g := slices.Index(x.V[:], mesh.Ghost)
		switch {
		case x.V[0] == mesh.Gone:
		case g >= 0:
			// As the real triangle has that edge.
			if turn(m.Pts[x.V[(g+2)%3]], m.Pts[x.V[(g+1)%3]], p) < 0 {
				beyond = append(beyond, t)
			}
		case inside(m, x, p):
			return walk.Place{Kind: walk.Inside}, []int{t}
		}
	}
	return walk.Place{Kind: walk.Outside}, beyond
}

// having are the real triangles that have the points a and b.
func having(m *mesh.Mesh, a, b int) []int {
	var out []int
	for t, x := range m.Tris {
		if slices.Min(x.V[:]) >= 0 && slices.Contains(x.V[:], a) && slices.Contains(x.V[:], b) {
			out = append(out, t)
		}
	}
	return out
}

// between tells whether p lies on the line from a to b, at neither end.
func between(p, a, b api.Pt) bool {
	if turn(a, b, p) != 0 || p == a || p == b {
		return false
	}
	return min(a.X, b.X) <= p.X && p.X <= max(a.X, b.X) && min(a.Y, b.Y) <= p.Y && p.Y <= max(a.Y, b.Y)
}

// inside tells whether p lies strictly within a real triangle: to the left of each edge.
func inside(m *mesh.Mesh, x mesh.Tri, p api.Pt) bool {
	a, b, c := m.Pts[x.V[0]], m.Pts[x.V[1]], m.Pts[x.V[2]]
	return turn(a, b, p) > 0 && turn(b, c, p) > 0 && turn(c, a, p) > 0
}

// isSame tells it, if an answer isn't the one that is asked.
func isSame[T comparable](t *testing.T, what string, got, want T, of ...any) {
	t.Helper()
	if got != want {
		t.Fatalf("%s %v: got %v, want %v", what, of, got, want)
	}
}

// isAsItWas tells it, if a mesh isn't like its copy any more.
func isAsItWas(t *testing.T, what string, m, was *mesh.Mesh) {
	t.Helper()
	if !slices.Equal(m.Pts, was.Pts) || !slices.Equal(m.Tris, was.Tris) {
		t.Fatalf("%s: the mesh was changed: %v, %v", what, m.Pts, m.Tris)
	}
}
