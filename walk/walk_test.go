package walk_test

import (
	"math"
	"slices"
	"testing"

	"isohyet/api"
	"isohyet/mesh"
	"isohyet/walk"
)

// TestShapes: the meshes of these tests are sound.
func TestShapes(t *testing.T) {
	for _, s := range shapes() {
		isSame(t, "Sound: "+s.what, s.m.Sound(), true)
	}
}

func TestKinds(t *testing.T) {
	isSame(t, "kinds", [4]int{walk.Inside, walk.OnEdge, walk.OnPoint, walk.Outside}, [4]int{0, 1, 2, 3})
}

// strange are numbers that no real triangle of a mesh has: none's, ghosts', and those of what is gone.
func strange(m *mesh.Mesh) []int {
	n := len(m.Tris)
	out := []int{-1, -2, -7, n, n + 1, math.MinInt, math.MaxInt}
	for u, x := range m.Tris {
		if slices.Min(x.V[:]) < 0 {
			out = append(out, u)
		}
	}
	return out
}

func TestHolds(t *testing.T) {
	for _, s := range shapes() {
		was := s.m.Copy()
		for _, p := range s.ask {
			place, l := inWords(s.m, p)
			for u := range s.m.All() {
				isSame(t, "Holds: "+s.what, walk.Holds(s.m, u, p), place.Kind != walk.Outside && slices.Contains(l, u), u, p)
			}
		}
		isAsItWas(t, "Holds: "+s.what, s.m, was)
	}
}

// TestHoldsInWords: within, on each edge, at each point, and on the lines that go on from the edges.
func TestHoldsInWords(t *testing.T) {
	m, _ := mesh.New(pts(0, 0, 4, 0, 0, 4), 0, 1, 2)
	for u := range m.All() {
		for _, p := range pts(1, 1, 2, 0, 0, 2, 2, 2, 0, 0, 4, 0, 0, 4, 3, 1) {
			isSame(t, "Holds", walk.Holds(m, u, p), true, p)
		}
		for _, p := range pts(5, 0, -1, 0, 0, 5, 0, -1, 5, -1, -1, 5, 3, 2, 2, 3, 4, 4, -1, -1, -1, 2, 2, -1) {
			isSame(t, "Holds", walk.Holds(m, u, p), false, p)
		}
	}
}

// TestHoldsOfNone: of what is no real triangle nothing is said, but there is an answer, and always the same.
func TestHoldsOfNone(t *testing.T) {
	for _, s := range shapes() {
		for _, u := range strange(s.m) {
			for _, p := range s.ask[:20] {
				isSame(t, "Holds", walk.Holds(s.m, u, p), walk.Holds(s.m, u, p), u, p)
			}
		}
	}
}

func TestLook(t *testing.T) {
	for _, s := range shapes() {
		was := s.m.Copy()
		for _, p := range s.ask {
			want, l := inWords(s.m, p)
			want.Tri = l[0]
			isSame(t, "Look: "+s.what, walk.Look(s.m, p), want, p)
		}
		isAsItWas(t, "Look: "+s.what, s.m, was)
	}
}

// TestLookEverywhere: all points of a small board, and about it, in a mesh of many triangles.
func TestLookEverywhere(t *testing.T) {
	d := dice(13)
	s := shapeOf("mixed", mixed(&d, 12, 5), 300)
	for x := -7; x <= 7; x++ {
		for y := -7; y <= 7; y++ {
			want, l := inWords(s.m, pt(x, y))
			want.Tri = l[0]
			isSame(t, "Look", walk.Look(s.m, pt(x, y)), want, x, y)
		}
	}
}

// TestLookInWords: two triangles, and four ghosts, whatever their numbers.
func TestLookInWords(t *testing.T) {
	l := pts(0, 0, 4, 0, 4, 4, 0, 4, 9, 9)
	for seed := range 50 {
		d := dice(seed)
		m := assemble(&d, l, [][3]int{{0, 1, 3}, {1, 2, 3}})
		m.Add(pt(1, 1))
		first, second := tri(t, m, 1, 3), tri(t, m, 3, 1)
		low, right, high, left := tri(t, m, 1, 0), tri(t, m, 2, 1), tri(t, m, 3, 2), tri(t, m, 0, 3)
		for _, x := range []struct {
			p    api.Pt
			want walk.Place
		}{
			{pt(1, 1), walk.Place{Kind: walk.Inside, Tri: first}},
			{pt(3, 3), walk.Place{Kind: walk.Inside, Tri: second}},
			{pt(2, 2), walk.Place{Kind: walk.OnEdge, Tri: min(first, second), A: 1, B: 3}},
			{pt(2, 0), walk.Place{Kind: walk.OnEdge, Tri: first, A: 0, B: 1}},
			{pt(0, 1), walk.Place{Kind: walk.OnEdge, Tri: first, A: 0, B: 3}},
			{pt(4, 2), walk.Place{Kind: walk.OnEdge, Tri: second, A: 1, B: 2}},
			{pt(1, 4), walk.Place{Kind: walk.OnEdge, Tri: second, A: 2, B: 3}},
			{pt(0, 0), walk.Place{Kind: walk.OnPoint, Tri: first}},
			{pt(4, 0), walk.Place{Kind: walk.OnPoint, Tri: min(first, second), A: 1}},
			{pt(4, 4), walk.Place{Kind: walk.OnPoint, Tri: second, A: 2}},
			{pt(0, 4), walk.Place{Kind: walk.OnPoint, Tri: min(first, second), A: 3}},
			{pt(2, -1), walk.Place{Kind: walk.Outside, Tri: low}},
			{pt(9, 4), walk.Place{Kind: walk.Outside, Tri: right}},
			{pt(9, 0), walk.Place{Kind: walk.Outside, Tri: right}},
			{pt(2, 5), walk.Place{Kind: walk.Outside, Tri: high}},
			{pt(-1, 0), walk.Place{Kind: walk.Outside, Tri: left}},
			{pt(9, 9), walk.Place{Kind: walk.Outside, Tri: min(right, high)}},
			{pt(-1, -1), walk.Place{Kind: walk.Outside, Tri: min(low, left)}},
		} {
			isSame(t, "Look", walk.Look(m, x.p), x.want, x.p)
		}
	}
}
