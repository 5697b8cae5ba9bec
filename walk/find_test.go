package walk_test

import (
	"math"
	"slices"
	"testing"

	"isohyet/api"
	"isohyet/mesh"
	"isohyet/walk"
)

// walks are all ways to go on in a mesh, toward one point, across edges that have it strictly beyond them: from each triangle to those beside it.
func walks(m *mesh.Mesh, p api.Pt) [][]int {
	out := make([][]int, len(m.Tris))
	for t, x := range m.Tris {
		for i := range 3 {
			if slices.Min(x.V[:]) >= 0 && turn(m.Pts[x.V[(i+1)%3]], m.Pts[x.V[(i+2)%3]], p) < 0 {
				out[t] = append(out[t], x.N[i])
			}
		}
	}
	return out
}

// onward are the triangles to which one may go from any of these.
func onward(on [][]int, l []int) []int {
	var out []int
	for _, t := range l {
		out = append(out, on[t]...)
	}
	slices.Sort(out)
	return slices.Compact(out)
}

// isWalked tells it, if a place isn't where some walk of so many triangles, from one on, ends.
func isWalked(t *testing.T, what string, on [][]int, from int, place walk.Place, looked int) {
	t.Helper()
	l := []int{from}
	for n := 1; n < looked; n++ {
		l = onward(on, l)
	}
	isSame(t, "no walk comes there: "+what, slices.Contains(l, place.Tri), true, from, place, looked)
	isSame(t, "the walk doesn't end there: "+what, len(on[place.Tri]), 0, from, place, looked)
}

// reals is how many real triangles there are, and the first one.
func reals(m *mesh.Mesh) (int, int) {
	n, first := 0, -1
	for t := range m.All() {
		if n == 0 {
			first = t
		}
		n++
	}
	return n, first
}

// TestFind: from each triangle, with budgets that are greater than needed.
func TestFind(t *testing.T) {
	for _, s := range shapes() {
		was := s.m.Copy()
		all, _ := reals(s.m)
		for _, p := range s.ask {
			want, l := inWords(s.m, p)
			on := walks(s.m, p)
			for from := range s.m.All() {
				got, looked := walk.Find(s.m, p, from, 1000000)
				isSame(t, "Find's triangle may be that: "+s.what, slices.Contains(l, got.Tri), true, p, from, got)
				want.Tri = got.Tri
				isSame(t, "Find: "+s.what, got, want, p, from)
				isSame(t, "how many were looked at, each once: "+s.what, looked > 0 && looked <= all+1, true, p, from, looked)
				isWalked(t, s.what, on, from, got, looked)
			}
		}
		isAsItWas(t, "Find: "+s.what, s.m, was)
	}
}

// TestFindEnds: whatever the budget, whether or not one may go round for ever.
func TestFindEnds(t *testing.T) {
	endless := 0
	for _, s := range shapes() {
		for _, p := range s.ask {
			on := walks(s.m, p)
			for from := range s.m.All() {
				l := []int{from}
				for range len(s.m.Tris) {
					l = onward(on, l)
				}
				if len(l) == 0 {
					continue
				}
				endless++
				place, looked := walk.Find(s.m, p, from, math.MaxInt)
				again, lookedAgain := walk.Find(s.m, p, from, looked)
				isSame(t, "Find: "+s.what, again, place, p, from)
				isSame(t, "how many were looked at: "+s.what, lookedAgain, looked, p, from)
			}
		}
	}
	isSame(t, "there are such meshes", endless > 100, true, endless)
}

// TestFindBudget: as far as the budget goes, and then as Look.
func TestFindBudget(t *testing.T) {
	for _, s := range shapes() {
		for _, p := range s.ask {
			look := walk.Look(s.m, p)
			for from := range s.m.All() {
				place, needed := walk.Find(s.m, p, from, math.MaxInt)
				for _, budget := range []int{math.MinInt, -7, -1, 0, 1, 2, 3, needed - 1, needed, needed + 1} {
					want, looked := place, needed
					if budget < needed {
						want, looked = look, max(budget, 0)
					}
					got, n := walk.Find(s.m, p, from, budget)
					isSame(t, "Find: "+s.what, got, want, p, from, budget)
					isSame(t, "how many were looked at: "+s.what, n, looked, p, from, budget)
				}
			}
		}
	}
}

// TestFindFromNone: what is no real triangle is as the first real one.
func TestFindFromNone(t *testing.T) {
	for _, s := range shapes() {
		_, first := reals(s.m)
		for _, from := range strange(s.m) {
			for _, p := range s.ask {
				for _, budget := range []int{0, 1, 2, 50} {
					want, looked := walk.Find(s.m, p, first, budget)
					got, n := walk.Find(s.m, p, from, budget)
					isSame(t, "Find: "+s.what, got, want, p, from, budget)
					isSame(t, "how many were looked at: "+s.what, n, looked, p, from, budget)
				}
			}
		}
	}
}

// TestFindAtOnce: from a triangle that holds the point there is nowhere to go, though another one, that comes first, may hold it, too.
func TestFindAtOnce(t *testing.T) {
	others := 0
	for _, s := range shapes() {
		for _, p := range s.ask {
			look := walk.Look(s.m, p)
			for from := range s.m.All() {
				if !walk.Holds(s.m, from, p) {
					continue
				}
				want := look
				want.Tri = from
				got, looked := walk.Find(s.m, p, from, 1)
				isSame(t, "Find: "+s.what, got, want, p, from)
				isSame(t, "how many were looked at: "+s.what, looked, 1, p, from)
				if from != look.Tri {
					others++
				}
			}
		}
	}
	isSame(t, "some aren't Look's", others > 100, true, others)
}

// TestFindInWords: along a row of triangles, and out of it, where there is one way only.
func TestFindInWords(t *testing.T) {
	m := shapeOf("a row above a point", pts(0, 0, 10, 0, 20, 0, 30, 0, 40, 0, 50, 0, 25, -100), 0).m
	// row is the triangle between the points v and v+1, above 6.
	row := func(v int) int { return tri(t, m, v+1, v) }
	for _, x := range []struct {
		p      api.Pt
		from   int
		place  walk.Place
		looked int
	}{
		{pt(5, -1), row(0), walk.Place{Kind: walk.Inside, Tri: row(0)}, 1},
		{pt(5, -1), row(4), walk.Place{Kind: walk.Inside, Tri: row(0)}, 5},
		{pt(45, -1), row(0), walk.Place{Kind: walk.Inside, Tri: row(4)}, 5},
		{pt(15, 0), row(3), walk.Place{Kind: walk.OnEdge, Tri: row(1), A: 1, B: 2}, 3},
		{pt(20, 0), row(0), walk.Place{Kind: walk.OnPoint, Tri: row(1), A: 2}, 2},
		{pt(20, 0), row(4), walk.Place{Kind: walk.OnPoint, Tri: row(2), A: 2}, 3},
		{pt(25, -100), row(4), walk.Place{Kind: walk.OnPoint, Tri: row(4), A: 6}, 1},
		{pt(90, -1), row(2), walk.Place{Kind: walk.Outside, Tri: tri(t, m, 5, 6)}, 4},
		{pt(-9, 0), row(0), walk.Place{Kind: walk.Outside, Tri: tri(t, m, 6, 0)}, 2},
	} {
		got, looked := walk.Find(m, x.p, x.from, 50)
		isSame(t, "Find", got, x.place, x.p, x.from)
		isSame(t, "how many were looked at", looked, x.looked, x.p, x.from)
	}
}

// TestSameCalls: the same calls have the same answers, in a copy, too.
func TestSameCalls(t *testing.T) {
	for _, s := range shapes() {
		other := s.m.Copy()
		for _, p := range s.ask {
			isSame(t, "Look: "+s.what, walk.Look(other, p), walk.Look(s.m, p), p)
			for from := range s.m.All() {
				place, looked := walk.Find(s.m, p, from, 100)
				again, n := walk.Find(other, p, from, 100)
				isSame(t, "Find: "+s.what, again, place, p, from)
				isSame(t, "how many were looked at: "+s.what, n, looked, p, from)
			}
		}
	}
}

// TestFarther: of coordinates beyond MaxCoord nothing is said, but there is an answer, and always the same.
func TestFarther(t *testing.T) {
	for _, s := range shapes() {
		for _, p := range board(math.MinInt, -far-1, 3, far+1, math.MaxInt) {
			isSame(t, "Look: "+s.what, walk.Look(s.m, p), walk.Look(s.m, p), p)
			for from := range s.m.All() {
				place, looked := walk.Find(s.m, p, from, math.MaxInt)
				again, n := walk.Find(s.m, p, from, math.MaxInt)
				isSame(t, "Find: "+s.what, again, place, p, from)
				isSame(t, "how many were looked at: "+s.what, n, looked, p, from)
			}
		}
	}
}
