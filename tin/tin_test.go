package tin_test

import (
	"math"
	"slices"
	"testing"

	"isohyet/api"
	"isohyet/mesh"
	"isohyet/steal"
	"isohyet/tin"
)

// eachHeld goes through the real triangles of all shapes, with points in them and on their borders.
func eachHeld(do func(s shape, u int, p api.Pt)) {
	d := dice(11)
	for _, s := range shapes() {
		for u := range s.m.All() {
			for _, p := range within(&d, s.m, u) {
				do(s, u, p)
			}
		}
	}
}

// eachOn goes through lines between points, at places of their own, of all shapes, edges and others, with points on them, and both ends.
func eachOn(do func(s shape, a, b int, p api.Pt)) {
	for _, s := range shapes() {
		for a, from := range s.m.Pts {
			for b, to := range s.m.Pts {
				if from == to {
					continue
				}
				for _, p := range steps(from, to) {
					do(s, a, b, p)
				}
			}
		}
	}
}

// TestTriangle: shares of the triangle's points alone, without those that are 0, by their numbers; they come to the point.
func TestTriangle(t *testing.T) {
	asked := map[int]int{}
	eachHeld(func(s shape, u int, p api.Pt) {
		got := tin.Triangle(s.m, u, p)
		v := s.m.Tris[u].V
		isPoint(t, "Triangle: "+s.what, s.m, p, v[:], got)
		asked[len(got)]++
	})
	isSame(t, "at points, on sides and within", min(asked[1], asked[2], asked[3]) > 300, true, asked)
}

// TestTriangleInWords: within, on each side, at each corner, whatever order the points have.
func TestTriangleInWords(t *testing.T) {
	for _, s := range turned("one triangle", pt(1, 0), pt(7, 0), pt(1, 6)) {
		var v [3]int
		for i, p := range s.m.Pts {
			if k := slices.Index([]api.Pt{pt(1, 0), pt(7, 0), pt(1, 6)}, p); k >= 0 {
				v[k] = i
			}
		}
		for u := range s.m.All() {
			for _, x := range []struct {
				p       api.Pt
				a, b, c int // sixths
			}{
				{pt(3, 1), 3, 2, 1}, {pt(3, 2), 2, 2, 2}, {pt(2, 4), 1, 1, 4},
				{pt(2, 0), 5, 1, 0}, {pt(4, 0), 3, 3, 0}, {pt(1, 2), 4, 0, 2}, {pt(4, 3), 0, 3, 3}, {pt(6, 1), 0, 5, 1},
				{pt(1, 0), 6, 0, 0}, {pt(7, 0), 0, 6, 0}, {pt(1, 6), 0, 0, 6},
			} {
				all := slices.Concat(shares(v[0], x.a, 6), shares(v[1], x.b, 6), shares(v[2], x.c, 6))
				slices.SortFunc(all, func(a, b steal.Share) int { return a.V - b.V })
				want := slices.DeleteFunc(all, func(s steal.Share) bool { return len(s.W.Num.Mag) == 0 })
				isShares(t, "Triangle", tin.Triangle(s.m, u, x.p), want, x.p, s.m.Tris[u].V)
			}
		}
	}
}

// TestTriangleEverywhere: all points of a square's two triangles.
func TestTriangleEverywhere(t *testing.T) {
	s := shapeOf("a square", board(0, 4), 0)
	counted := 0
	for u := range s.m.All() {
		for _, p := range board(0, 1, 2, 3, 4) {
			v := s.m.Tris[u].V
			if !holds(s.m.Pts[v[0]], s.m.Pts[v[1]], s.m.Pts[v[2]], p) {
				continue
			}
			for _, x := range tin.Triangle(s.m, u, p) {
				isSame(t, "a point of the triangle", slices.Contains(v[:], x.V), true, p, u)
				counted++
			}
		}
	}
	// Of each triangle three are at its corners, nine on its sides, and three within.
	isSame(t, "how many shares", counted, 2*(3*1+9*2+3*3))
}

// TestLine: shares of both ends alone, without those that are 0, the lesser number first; they come to the point.
func TestLine(t *testing.T) {
	asked := map[int]int{}
	eachOn(func(s shape, a, b int, p api.Pt) {
		got := tin.Line(s.m, a, b, p)
		isPoint(t, "Line: "+s.what, s.m, p, []int{a, b}, got)
		isShares(t, "Line back: "+s.what, tin.Line(s.m, b, a, p), got, a, b, p)
		asked[len(got)]++
	})
	isSame(t, "at ends and between", min(asked[1], asked[2]) > 3000, true, asked)
}

// TestLineInWords: a third of the way, and others, in each direction; at both ends.
func TestLineInWords(t *testing.T) {
	l := []api.Pt{pt(0, 0), pt(3, 0), pt(0, 3), pt(6, -9), pt(-far, far), pt(far, far), pt(far, -far)}
	m, _ := mesh.New(l, 0, 1, 2)
	for _, x := range []struct {
		what string
		a, b int
		p    api.Pt
		want []steal.Share
	}{
		{"a third of the way", 0, 1, pt(1, 0), shares(0, 2, 3, 1, 1, 3)},
		{"a third of the way, from the greater number on", 1, 0, pt(2, 0), shares(0, 1, 3, 1, 2, 3)},
		{"up", 0, 2, pt(0, 1), shares(0, 2, 3, 2, 1, 3)},
		{"down", 2, 0, pt(0, 1), shares(0, 2, 3, 2, 1, 3)},
		{"left and up", 1, 2, pt(1, 2), shares(1, 1, 3, 2, 2, 3)},
		{"steep", 0, 3, pt(2, -3), shares(0, 2, 3, 3, 1, 3)},
		{"no edge", 3, 1, pt(5, -6), shares(1, 1, 3, 3, 2, 3)},
		{"at the beginning", 0, 1, pt(0, 0), shares(0, 1, 1)},
		{"at the end", 0, 1, pt(3, 0), shares(1, 1, 1)},
		{"at the lower end", 0, 2, pt(0, 0), shares(0, 1, 1)},
		{"at the upper end", 2, 0, pt(0, 3), shares(2, 1, 1)},
		{"at one end of a slope", 1, 2, pt(3, 0), shares(1, 1, 1)},
		{"at the other end of it", 1, 2, pt(0, 3), shares(2, 1, 1)},
		{"a step along the greatest line", 4, 5, pt(1-far, far), shares(4, 1<<32-1, 1<<32, 5, 1, 1<<32)},
		{"a step short of its end", 5, 6, pt(far, 1-far), shares(5, 1, 1<<32, 6, 1<<32-1, 1<<32)},
		{"the greatest slope's midst", 6, 4, pt(0, 0), shares(4, 1, 2, 6, 1, 2)},
	} {
		isShares(t, "Line: "+x.what, tin.Line(m, x.a, x.b, x.p), x.want)
	}
}

// TestSideOfTriangle: on a side both calls answer the same.
func TestSideOfTriangle(t *testing.T) {
	for _, s := range shapes() {
		for u, x := range s.m.All() {
			for i := range 3 {
				a, b := x.V[(i+1)%3], x.V[(i+2)%3]
				for _, p := range steps(s.m.Pts[a], s.m.Pts[b]) {
					isShares(t, "both: "+s.what, tin.Line(s.m, a, b, p), tin.Triangle(s.m, u, p), p, x.V)
				}
			}
		}
	}
}

// TestLineOfOnePoint: its share is 1, also if two numbers have its place.
func TestLineOfOnePoint(t *testing.T) {
	s := shapeOf("a square", board(0, 4), 0)
	for v, p := range s.m.Pts {
		isShares(t, "Line", tin.Line(s.m, v, v, p), shares(v, 1, 1), v)
	}
	last := len(s.m.Pts) - 1
	isPoint(t, "Line", s.m, s.m.Pts[0], []int{0, last}, tin.Line(s.m, 0, last, s.m.Pts[0]))
}

// TestOwnAnswers: no call changes the mesh; who writes into an answer changes neither that nor what is answered next.
func TestOwnAnswers(t *testing.T) {
	for _, s := range shapes() {
		was := s.m.Copy()
		d := dice(5)
		for u, x := range s.m.All() {
			for _, p := range within(&d, s.m, u) {
				first := tin.Triangle(s.m, u, p)
				clear(tin.Triangle(s.m, u, p))
				isShares(t, "Triangle: "+s.what, tin.Triangle(s.m, u, p), first, u, p)
			}
			a := s.m.Pts[x.V[0]]
			first := tin.Line(s.m, x.V[0], x.V[1], a)
			clear(tin.Line(s.m, x.V[0], x.V[1], a))
			isShares(t, "Line: "+s.what, tin.Line(s.m, x.V[0], x.V[1], a), first, x.V)
		}
		isAsItWas(t, s.what, s.m, was)
	}
}

// isAnswer tells it, if the same calls don't answer the same: of what is handed in nothing is said.
func isAnswer(t *testing.T, what string, m *mesh.Mesh, a, b int, p api.Pt) {
	t.Helper()
	isShares(t, "Triangle: "+what, tin.Triangle(m.Copy(), a, p), tin.Triangle(m, a, p), a, p)
	isShares(t, "Line: "+what, tin.Line(m.Copy(), a, b, p), tin.Line(m, a, b, p), a, b, p)
}

// TestOthers: of ghosts, of triangles and points that aren't there, and of points beyond a triangle or beside a line, nothing is said, but there is an answer, and always the same.
func TestOthers(t *testing.T) {
	numbers := []int{math.MinInt, -3, mesh.Gone, mesh.Ghost, 0, 1, 2, 3, 7, 1000, math.MaxInt}
	for _, s := range shapes() {
		was := s.m.Copy()
		for _, p := range board(math.MinInt, -far-1, 0, 3, math.MaxInt) {
			for _, a := range append(numbers, len(s.m.Tris), len(s.m.Pts)) {
				for _, b := range append(numbers, len(s.m.Pts)-1, len(s.m.Pts)) {
					isAnswer(t, s.what, s.m, a, b, p)
				}
			}
		}
		isAsItWas(t, s.what, s.m, was)
	}
}

// TestNotSound: of meshes that aren't sound nothing is said, but there is an answer, and always the same: of triangles on a line, or of points that aren't there, and of points anywhere.
func TestNotSound(t *testing.T) {
	m, _ := mesh.New([]api.Pt{pt(0, 0), pt(4, 0), pt(0, 4), pt(8, 0), pt(math.MinInt, math.MaxInt), pt(0, 0)}, 0, 1, 2)
	m.Drop(1)
	for _, v := range [][3]int{{0, 1, 3}, {0, 0, 0}, {0, 5, 1}, {2, 1, 0}, {7, 8, 9}, {0, 1, 6}, {4, 1, 2}, {math.MaxInt, 1, 2}, {mesh.Ghost, mesh.Ghost, 1}, {mesh.Gone, 1, 2}} {
		m.Make(v[0], v[1], v[2])
	}
	for u := range m.Tris {
		for _, p := range board(math.MinInt, -1, 0, 2, 4, math.MaxInt) {
			for b := range m.Pts {
				isAnswer(t, "not sound", m, u, b, p)
			}
		}
	}
}
