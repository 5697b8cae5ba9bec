package mesh_test

import (
	"cmp"
	"math"
	"slices"
	"testing"

	"isohyet/api"
	"isohyet/mesh"
)

// allOf are the triangles of a mesh that has none that are gone, by their points.
func allOf(m *mesh.Mesh) [][3]int {
	var out [][3]int
	for _, x := range m.Tris {
		out = append(out, x.V)
	}
	return out
}

// inIt tells of each point whether a triangle has it.
func inIt(m *mesh.Mesh) []bool {
	out := make([]bool, len(m.Pts))
	for _, x := range m.Tris {
		for _, v := range x.V {
			if v >= 0 {
				out[v] = true
			}
		}
	}
	return out
}

// strange are numbers that no point, and no triangle, of a mesh of n has.
func strange(n int) []int {
	return []int{mesh.Ghost, mesh.Gone, -3, n, n + 1, math.MinInt, math.MaxInt}
}

func TestAt(t *testing.T) {
	for _, s := range shapes() {
		m := s.mesh()
		for v, is := range inIt(m) {
			at := m.At(v)
			if !is {
				isSame(t, "At of a point that isn't in it: "+s.what, at, -1, v)
			} else if at < 0 || at >= len(m.Tris) || !slices.Contains(m.Tris[at].V[:], v) {
				t.Fatal("At:", s.what, v, at)
			}
		}
		for _, v := range strange(len(m.Pts)) {
			isSame(t, "At of no point: "+s.what, m.At(v), -1, v)
		}
	}
}

func TestFind(t *testing.T) {
	for _, s := range shapes() {
		m := s.mesh()
		at := byEdge(allOf(m))
		for a := -3; a < len(m.Pts)+2; a++ {
			for b := -3; b < len(m.Pts)+2; b++ {
				u, i, ok := m.Find(a, b)
				if is := at[[2]int{a, b}]; len(is) == 0 {
					isSame(t, "Find of no edge: "+s.what, [2]int{u, i}, [2]int{-1, 0}, a, b)
					isSame(t, "Find of no edge: "+s.what, ok, false, a, b)
				} else {
					isSame(t, "Find: "+s.what, place{u, i}, is[0], a, b)
					isSame(t, "Find: "+s.what, ok, true, a, b)
				}
			}
		}
		for _, v := range strange(len(m.Pts)) {
			for _, w := range strange(len(m.Pts)) {
				u, i, ok := m.Find(v, w)
				isSame(t, "Find of no points", [2]int{u, i}, [2]int{-1, 0}, v, w)
				isSame(t, "Find of no points", ok, false, v, w)
			}
		}
	}
}

// TestOfGone: what is gone is no triangle, nor has it an edge, or a point.
func TestOfGone(t *testing.T) {
	for _, s := range shapes() {
		m := s.mesh()
		more := []int{m.Make(0, 1, 2), m.Make(1, 2, 0), m.Make(2, 0, 1)}
		for _, u := range more {
			m.Drop(u)
			isSame(t, "Real of one that is gone", m.Real(u), false)
		}
		isSame(t, "Sound with some that are gone: "+s.what, m.Sound(), true)
		u, i, ok := m.Find(mesh.Gone, mesh.Gone)
		isSame(t, "Find of what is gone", [2]int{u, i}, [2]int{-1, 0})
		isSame(t, "Find of what is gone", ok, false)
		isSame(t, "At of what is gone", m.At(mesh.Gone), -1)
		for u := range m.All() {
			isSame(t, "All has one that is gone", u < len(m.Tris)-len(more), true)
		}
		for range m.Around(mesh.Gone) {
			t.Fatal("Around of what is gone")
		}
	}
}

func TestReal(t *testing.T) {
	for _, s := range shapes() {
		m := s.mesh()
		for u, x := range m.Tris {
			isSame(t, "Real: "+s.what, m.Real(u), !slices.Contains(x.V[:], mesh.Ghost), u)
		}
		for _, u := range strange(len(m.Tris)) {
			isSame(t, "Real of none: "+s.what, m.Real(u), false, u)
		}
	}
}

// numbered is a real triangle, and its number.
type numbered struct {
	t int
	x mesh.Tri
}

func TestAll(t *testing.T) {
	for _, s := range shapes() {
		m := s.mesh()
		// One that is gone ahead of others.
		m.Make(0, 1, 2)
		swap(m, 0, len(m.Tris)-1)
		m.Drop(0)
		var want, got []numbered
		for u, x := range m.Tris {
			if min(x.V[0], x.V[1], x.V[2]) >= 0 {
				want = append(want, numbered{u, x})
			}
		}
		for u, x := range m.All() {
			got = append(got, numbered{u, x})
		}
		isList(t, "All: "+s.what, got, want)
		isSame(t, "as many as there are: "+s.what, len(got), len(s.real))
	}
}

// spot is a triangle, and where it has a point.
type spot struct{ t, k int }

func around(m *mesh.Mesh, v int) []spot {
	var out []spot
	for u, k := range m.Around(v) {
		out = append(out, spot{u, k})
	}
	return out
}

func TestAround(t *testing.T) {
	for _, s := range shapes() {
		m := s.mesh()
		for v := range m.Pts {
			var want, sorted []spot
			for u, x := range m.Tris {
				if k := slices.Index(x.V[:], v); k >= 0 {
					want = append(want, spot{u, k})
				}
			}
			got := around(m, v)
			sorted = slices.Clone(got)
			slices.SortFunc(sorted, func(a, b spot) int { return cmp.Compare(a.t, b.t) })
			isList(t, "all Around, by their numbers: "+s.what, sorted, want, v)
			isLeft(t, s.what, m, v, got)
		}
		for _, v := range strange(len(m.Pts)) {
			isList(t, "Around of no point: "+s.what, around(m, v), nil, v)
		}
	}
}

// isLeft tells it, if Around doesn't begin at At, or doesn't go on to the left: to what lies beyond the edge that comes to v.
func isLeft(t *testing.T, what string, m *mesh.Mesh, v int, got []spot) {
	t.Helper()
	if len(got) == 0 {
		isSame(t, "Around of a point that isn't in it: "+what, m.At(v), -1, v)
		return
	}
	isSame(t, "Around begins at At: "+what, got[0].t, m.At(v), v)
	for i, a := range got {
		b := got[(i+1)%len(got)]
		last, next := m.Tris[a.t].V[(a.k+2)%3], m.Tris[b.t].V[(b.k+1)%3]
		isSame(t, "Around goes to the left: "+what, next, last, v, a, b)
		if c := m.Tris[b.t].V[(b.k+2)%3]; next >= 0 && c >= 0 {
			isSame(t, "Around turns to the left: "+what, turn(m.Pts[v], m.Pts[next], m.Pts[c]), 1, v, a, b)
		}
	}
}

func edges(m *mesh.Mesh) []mesh.Edge {
	var out []mesh.Edge
	for e := range m.Edges() {
		out = append(out, e)
	}
	return out
}

func TestEdges(t *testing.T) {
	for _, s := range shapes() {
		at := byEdge(s.real)
		var want []mesh.Edge
		for a := range s.pts {
			for b := a + 1; b < len(s.pts); b++ {
				n := len(at[[2]int{a, b}]) + len(at[[2]int{b, a}])
				if n > 0 {
					want = append(want, mesh.Edge{A: a, B: b, Fault: slices.Contains(s.faults, [2]int{a, b}), Hull: n == 1})
				}
			}
		}
		isList(t, "Edges: "+s.what, edges(s.mesh()), want)
	}
}

func TestHull(t *testing.T) {
	for _, s := range shapes() {
		m := s.mesh()
		var in []api.Pt
		for v, is := range inIt(m) {
			if is {
				in = append(in, m.Pts[v])
			}
		}
		h := m.Hull()
		isSame(t, "Hull begins with the least number: "+s.what, h[0], slices.Min(h))
		var got []api.Pt
		for _, v := range h {
			got = append(got, m.Pts[v])
		}
		// The same points, from the same one on.
		want := hullOf(in, true)
		from := slices.Index(want, got[0])
		if from < 0 {
			t.Fatal("Hull:", s.what, h)
		}
		isList(t, "Hull: "+s.what, got, slices.Concat(want[from:], want[:from]))
		for i, a := range h {
			u, k, ok := m.Find(h[(i+1)%len(h)], a)
			isSame(t, "beyond Hull there are ghosts: "+s.what, ok && m.Tris[u].V[k] == mesh.Ghost, true, a)
		}
	}
}

// leave goes through what an iterator hands on, and leaves it behind n; how many there were.
func leave(n int, through func(func() bool)) int {
	got := 0
	through(func() bool {
		got++
		return got < n
	})
	return got
}

// TestLeaving: each iterator can be left at any time, and gone through again.
func TestLeaving(t *testing.T) {
	for _, s := range small() {
		m := s.mesh()
		was := loose(m)
		ways := map[string]func(func() bool){
			"All":    func(on func() bool) { m.All()(func(int, mesh.Tri) bool { return on() }) },
			"Edges":  func(on func() bool) { m.Edges()(func(mesh.Edge) bool { return on() }) },
			"Around": func(on func() bool) { m.Around(m.Hull()[0])(func(int, int) bool { return on() }) },
		}
		for what, through := range ways {
			all := leave(math.MaxInt, through)
			for n := 1; n <= all; n++ {
				isSame(t, what+" left: "+s.what, leave(n, through), n)
			}
			isSame(t, what+" again: "+s.what, leave(math.MaxInt, through), all)
		}
		isList(t, "the triangles", m.Tris, was.Tris)
	}
}

// TestGoingThroughTwice: an iterator that was answered is good for more than once, one within another, too.
func TestGoingThroughTwice(t *testing.T) {
	for _, s := range small() {
		m := s.mesh()
		all, es, round := m.All(), m.Edges(), m.Around(m.Hull()[0])
		var n, want [3]int
		for range all {
			want[0]++
			for range all {
				n[0]++
			}
		}
		for range es {
			want[1]++
			for range es {
				n[1]++
			}
		}
		for range round {
			want[2]++
			for range round {
				n[2]++
			}
		}
		for i := range n {
			isSame(t, "gone through again: "+s.what, n[i], want[i]*want[i], i)
		}
	}
}

// TestAskingChangesNothing: the same is answered again, in memory of its own.
func TestAskingChangesNothing(t *testing.T) {
	for _, s := range shapes() {
		m := s.mesh()
		was := loose(m)
		h, e := m.Hull(), edges(m)
		want := slices.Clone(h)
		for v := range m.Pts {
			m.At(v)
			m.Find(v, mesh.Ghost)
			around(m, v)
		}
		for i := range h {
			h[i] = -4711
		}
		isList(t, "Hull again: "+s.what, m.Hull(), want)
		isList(t, "Edges again: "+s.what, edges(m), e)
		isList(t, "the points: "+s.what, m.Pts, was.Pts)
		isList(t, "the triangles: "+s.what, m.Tris, was.Tris)
	}
}

// TestOfUnsound: of meshes that aren't sound nothing is said, but what is asked of them ends.
func TestOfUnsound(t *testing.T) {
	d := dice(13)
	for _, s := range shapes() {
		m := s.mesh()
		for range 100 {
			m.Drop(d.below(len(m.Tris)))
			m.Make(d.below(9)-3, d.below(len(m.Pts)), d.below(len(m.Pts))+2)
			m.Link(d.below(len(m.Tris)), d.below(3), d.below(len(m.Tris)), d.below(3), d.below(2) == 0)
			for v := -3; v < len(m.Pts)+3; v++ {
				m.At(v)
				m.Find(v, d.below(len(m.Pts)))
				around(m, v)
			}
			m.Hull()
			edges(m)
			isSame(t, "Sound: "+s.what, m.Sound(), false)
		}
	}
}
