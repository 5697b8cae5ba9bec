package mesh_test

import (
	"math"
	"slices"
	"testing"

	"isohyet/api"
	"isohyet/mesh"
)

func TestExample(t *testing.T) {
	m, ok := mesh.New(pts(0, 0, 1, 0, 0, 1), 0, 1, 2)
	isSame(t, "New", ok, true)
	isSame(t, "triangles", len(m.Tris), 4)
	real := 0
	for range m.All() {
		real++
	}
	isSame(t, "real ones", real, 1)
	isSame(t, "edges", len(edges(m)), 3)
}

// TestWays: real triangles go round to the left; edge i lies across from point i, and so does what is beyond it.
func TestWays(t *testing.T) {
	m, _ := mesh.New(pts(0, 0, 1, 0, 0, 1), 0, 1, 2)
	for u, x := range m.All() {
		isSame(t, "goes round to the left", turn(m.Pts[x.V[0]], m.Pts[x.V[1]], m.Pts[x.V[2]]), 1)
		for i := range 3 {
			from, to := x.V[(i+1)%3], x.V[(i+2)%3]
			g := m.Tris[x.N[i]]
			k := slices.Index(g.V[:], mesh.Ghost)
			isSame(t, "beyond it the edge the other way round", [2]int{g.V[(k+1)%3], g.V[(k+2)%3]}, [2]int{to, from})
			isSame(t, "across from Ghost lies the real one", g.N[k], u)
			at, j, ok := m.Find(from, to)
			isSame(t, "Find", at == u && j == i && ok, true)
		}
	}
	isList(t, "Hull", m.Hull(), []int{0, 1, 2})
}

// TestNew: of any three points of a list, in whatever order.
func TestNew(t *testing.T) {
	for _, l := range [][]api.Pt{board(0, 1, 2), board(-far, far-1, far), board(-far, 0, far), pts(3, 3, 3, 3, 4, 5, 3, 3)} {
		for a := range l {
			for b := range l {
				for c := range l {
					m, ok := mesh.New(l, a, b, c)
					isSame(t, "New's bool", ok, turn(l[a], l[b], l[c]) != 0, l, a, b, c)
					isSame(t, "New's mesh", m != nil, ok, l, a, b, c)
					if ok {
						isNew(t, m, l, a, b, c)
					}
				}
			}
		}
	}
}

// isNew tells it, if a mesh isn't that of one triangle, and three ghosts.
func isNew(t *testing.T, m *mesh.Mesh, l []api.Pt, a, b, c int) {
	t.Helper()
	isList(t, "New's points", m.Pts, l)
	isSame(t, "New's triangles", len(m.Tris), 4)
	isSame(t, "Sound of New", m.Sound() && soundInWords(m), true, m.Tris)
	real := 0
	for _, x := range m.Tris {
		if x.F != [3]bool{} {
			t.Fatal("New has faults", m.Tris)
		}
		if !slices.Contains(x.V[:], mesh.Ghost) {
			real++
			got, want := x.V, [3]int{a, b, c}
			slices.Sort(got[:])
			slices.Sort(want[:])
			isSame(t, "New's real triangle", got, want)
		}
	}
	isSame(t, "New's real triangles", real, 1)
	for v := range l {
		isSame(t, "the others aren't in it", m.At(v) >= 0, v == a || v == b || v == c)
	}
}

// TestNewOfStrange: of numbers that no point has nothing is said, but there is an answer.
func TestNewOfStrange(t *testing.T) {
	l := pts(0, 0, 1, 0, 0, 1)
	for _, v := range strange(len(l)) {
		for _, abc := range [][3]int{{v, 0, 1}, {0, v, 1}, {0, 1, v}, {v, v, v}} {
			m, ok := mesh.New(l, abc[0], abc[1], abc[2])
			isSame(t, "New", m == nil && !ok, true, abc)
		}
	}
	m, ok := mesh.New(nil, 0, 0, 0)
	isSame(t, "New of no points", m == nil && !ok, true)
	m, ok = mesh.New(l, 1, 1, 2)
	isSame(t, "New of one point twice", m == nil && !ok, true)
}

// TestFarther: of coordinates beyond MaxCoord nothing is said, but there is an answer, and always the same.
func TestFarther(t *testing.T) {
	l := board(math.MinInt, -far-1, 0, far+1, math.MaxInt)
	for a := range l {
		for b := range l {
			for c := range l {
				m, ok := mesh.New(l, a, b, c)
				_, again := mesh.New(l, a, b, c)
				isSame(t, "New", again, ok, l[a], l[b], l[c])
				if ok {
					isSame(t, "Sound", m.Sound(), m.Sound(), l[a], l[b], l[c])
				}
			}
		}
	}
}

// TestNewKeepsNothing: who writes into the list that was handed in doesn't change the mesh, nor the other way round.
func TestNewKeepsNothing(t *testing.T) {
	l := pts(0, 0, 1, 0, 0, 1, 7, 7)
	m, _ := mesh.New(l[:3], 0, 1, 2)
	m.Add(pt(8, 8))
	isSame(t, "what lies behind the list's end", l[3], pt(7, 7))
	l[1] = pt(5, 5)
	isList(t, "the mesh's points", m.Pts, pts(0, 0, 1, 0, 0, 1, 8, 8))
	m.Pts[0] = pt(9, 9)
	isSame(t, "the list's points", l[0], pt(0, 0))
}

func TestAdd(t *testing.T) {
	for _, s := range shapes() {
		m := s.mesh()
		was := slices.Clone(m.Tris)
		for i, p := range append(s.pts[:2:2], pt(-far, far), pt(17, -4)) {
			isSame(t, "Add: "+s.what, m.Add(p), len(s.pts)+i)
			isSame(t, "the point that came", m.Pts[len(s.pts)+i], p)
			isSame(t, "isn't in it", m.At(len(s.pts)+i), -1)
		}
		isList(t, "the points that were there", m.Pts[:len(s.pts)], s.pts)
		isList(t, "the triangles", m.Tris, was)
		isSame(t, "Sound", m.Sound(), true)
	}
}

func TestMake(t *testing.T) {
	none := [3]int{-1, -1, -1}
	for _, s := range shapes() {
		m := s.mesh()
		was := slices.Clone(m.Tris)
		for _, v := range [][3]int{{0, 1, 2}, {2, mesh.Ghost, 1}, {0, 0, 0}, {-7, math.MaxInt, math.MinInt}} {
			n := len(m.Tris)
			isSame(t, "Make, where none is gone: "+s.what, m.Make(v[0], v[1], v[2]), n)
			isSame(t, "how many there are then", len(m.Tris), n+1)
			isSame(t, "what is made", m.Tris[n], mesh.Tri{V: v, N: none})
		}
		isList(t, "the others", m.Tris[:len(was)], was)
	}
}

// TestMakeAgain: each that is gone comes again, clean, ahead of new ones.
func TestMakeAgain(t *testing.T) {
	d := dice(17)
	for _, s := range shapes() {
		m := s.mesh()
		all := len(m.Tris)
		for range 20 {
			gone := map[int]bool{}
			for range 1 + d.below(all) {
				u := d.below(all)
				m.Drop(u)
				gone[u] = true
			}
			for left := len(gone); left > 0; left-- {
				u := m.Make(0, 1, mesh.Ghost)
				isSame(t, "Make: one that was gone: "+s.what, gone[u], true, u)
				delete(gone, u)
				isSame(t, "what is made", m.Tris[u], mesh.Tri{V: [3]int{0, 1, mesh.Ghost}, N: [3]int{-1, -1, -1}})
				m.Link(u, d.below(3), d.below(all), d.below(3), true)
			}
			isSame(t, "no more than there were: "+s.what, len(m.Tris), all)
		}
		isSame(t, "Make, where none is gone any more", m.Make(0, 1, 2), all)
	}
}

func TestDrop(t *testing.T) {
	for _, s := range shapes() {
		for u := range s.mesh().Tris {
			m := s.mesh()
			was := slices.Clone(m.Tris)
			m.Drop(u)
			isSame(t, "Drop: "+s.what, m.Tris[u].V, [3]int{mesh.Gone, mesh.Gone, mesh.Gone}, u)
			isSame(t, "Real", m.Real(u), false, u)
			isSame(t, "Sound", m.Sound(), false, u)
			isSame(t, "how many there are then", len(m.Tris), len(was))
			m.Drop(u)
			isSame(t, "Make behind two Drops: "+s.what, m.Make(was[u].V[0], was[u].V[1], was[u].V[2]), u)
			isSame(t, "Make once more: "+s.what, m.Make(0, 1, 2), len(was))
			m.Drop(len(was))
			isSame(t, "Sound with nothing across: "+s.what, m.Sound(), false, u)
			relink(m, u, was[u])
			isList(t, "all as it was", m.Tris[:len(was)], was, u)
			isSame(t, "Sound: "+s.what, m.Sound(), true, u)
		}
	}
}

// relink links a triangle as it was linked.
func relink(m *mesh.Mesh, u int, was mesh.Tri) {
	for i, o := range was.N {
		a, b := was.V[(i+1)%3], was.V[(i+2)%3]
		for j := range 3 {
			if v := m.Tris[o].V; v[(j+1)%3] == b && v[(j+2)%3] == a {
				m.Link(u, i, o, j, was.F[i])
			}
		}
	}
}

// TestDropOfNone: what isn't there, or is gone, changes nothing.
func TestDropOfNone(t *testing.T) {
	for _, s := range shapes() {
		m := s.mesh()
		was := loose(m)
		for _, u := range strange(len(m.Tris)) {
			m.Drop(u)
		}
		isList(t, "the triangles: "+s.what, m.Tris, was.Tris)
		isList(t, "the points: "+s.what, m.Pts, was.Pts)
	}
}

func TestLink(t *testing.T) {
	m := shapes()[3].mesh()
	for _, fault := range []bool{true, false} {
		for u := range m.Tris {
			for o := range m.Tris {
				for i := range 3 {
					for j := range 3 {
						if u == o && i == j {
							continue
						}
						want := slices.Clone(m.Tris)
						want[u].N[i], want[u].F[i] = o, fault
						want[o].N[j], want[o].F[j] = u, fault
						m.Link(u, i, o, j, fault)
						isList(t, "Link", m.Tris, want, u, i, o, j)
					}
				}
			}
		}
	}
}

// TestLinkOfNone: of edges, and of triangles, that aren't there nothing is linked.
func TestLinkOfNone(t *testing.T) {
	for _, s := range small() {
		m := s.mesh()
		was := slices.Clone(m.Tris)
		for _, i := range []int{-1, 3, 4, -3, math.MinInt, math.MaxInt} {
			m.Link(0, i, 1, 0, true)
			m.Link(0, 0, 1, i, true)
			m.Link(0, i, 1, i, true)
		}
		for _, u := range strange(len(m.Tris)) {
			m.Link(u, 0, 1, 0, true)
			m.Link(0, 0, u, 0, true)
		}
		isList(t, "the triangles: "+s.what, m.Tris, was)
	}
}

// TestCopy: it is alike, and goes its own way.
func TestCopy(t *testing.T) {
	for _, s := range shapes() {
		m := s.mesh()
		was := loose(m)
		first, second := m.Copy(), m.Copy()
		isList(t, "Copy's points: "+s.what, first.Pts, was.Pts)
		isList(t, "Copy's triangles: "+s.what, first.Tris, was.Tris)
		spoil(first)
		isSame(t, "the one that was copied: "+s.what, m.Sound(), true)
		isList(t, "the points: "+s.what, m.Pts, was.Pts)
		isList(t, "the triangles: "+s.what, m.Tris, was.Tris)
		spoil(m)
		isSame(t, "the other one: "+s.what, second.Sound(), true)
		isList(t, "the other one's points: "+s.what, second.Pts, was.Pts)
		isList(t, "the other one's triangles: "+s.what, second.Tris, was.Tris)
	}
}

// spoil changes all that a mesh has.
func spoil(m *mesh.Mesh) {
	n := len(m.Tris)
	m.Add(pt(-4711, 4711))
	m.Make(0, 0, 0)
	m.Link(0, 0, n, 0, true)
	for u := range n {
		m.Link(u, 1, n, 1, true)
		m.Drop(u)
	}
	for i := range m.Pts {
		m.Pts[i] = pt(-4711, 4711)
	}
}

// TestSameCalls: the same calls make the same mesh, with the same answers.
func TestSameCalls(t *testing.T) {
	for _, s := range shapes() {
		a, b := s.mesh(), s.mesh()
		isList(t, "the triangles: "+s.what, a.Tris, b.Tris)
		isList(t, "Hull: "+s.what, a.Hull(), b.Hull())
		isList(t, "Edges: "+s.what, edges(a), edges(b))
		for v := range a.Pts {
			isList(t, "Around: "+s.what, around(a, v), around(b, v), v)
		}
	}
}

// put puts a point into a real triangle that has it within: three in the place of one.
func put(m *mesh.Mesh, u, v int) {
	was := m.Tris[u]
	m.Drop(u)
	var made [3]int
	for i := range 3 {
		made[i] = m.Make(v, was.V[(i+1)%3], was.V[(i+2)%3])
	}
	for i, u := range made {
		m.Link(u, 1, made[(i+1)%3], 2, false)
		o, j, _ := m.Find(was.V[(i+2)%3], was.V[(i+1)%3])
		m.Link(u, 0, o, j, was.F[i])
	}
}

// holder is a real triangle that has a point within.
func holder(m *mesh.Mesh, p api.Pt) int {
	for u, x := range m.All() {
		a, b, c := m.Pts[x.V[0]], m.Pts[x.V[1]], m.Pts[x.V[2]]
		if turn(a, b, p) > 0 && turn(b, c, p) > 0 && turn(c, a, p) > 0 {
			return u
		}
	}
	return -1
}

// TestGrowing: a mesh into which many points come is sound at each step.
func TestGrowing(t *testing.T) {
	d := dice(19)
	for _, most := range []int{20, 1000, far / 4} {
		m, _ := mesh.New(pts(-4*most, -3*most, 4*most, -3*most, 0, 4*most), 0, 1, 2)
		m.Link(0, 0, m.Tris[0].N[0], slices.Index(m.Tris[m.Tris[0].N[0]].V[:], mesh.Ghost), true)
		for range 150 {
			p := pt(d.below(2*most+1)-most, d.below(2*most+1)-most)
			if u := holder(m, p); u >= 0 {
				put(m, u, m.Add(p))
			}
			isSame(t, "Sound", m.Sound(), true, len(m.Pts))
		}
		isSame(t, "Sound in words", soundInWords(m), true)
		isList(t, "Hull", m.Hull(), []int{0, 1, 2})
		faults, hull := 0, 0
		for e := range m.Edges() {
			if e.Fault {
				faults++
			}
			if e.Hull {
				hull++
			}
		}
		isSame(t, "faults and edges of the border", [2]int{faults, hull}, [2]int{1, 3})
		isSame(t, "as many edges as there must be", len(edges(m)), 3*len(m.Pts)-6)
	}
}
