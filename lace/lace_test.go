package lace_test

import (
	"cmp"
	"math"
	"math/big"
	"slices"
	"testing"

	"isohyet/api"
	"isohyet/cavity"
	"isohyet/clip"
	"isohyet/frac"
	"isohyet/lace"
	"isohyet/mesh"
	"isohyet/spot"
	"isohyet/steal"
)

// begins are the points of a rim, in its order.
func begins(c cavity.Cavity) []int {
	var out []int
	for _, s := range c.Rim {
		out = append(out, s.A)
	}
	return out
}

// TestSides: of each point, by the chapter's words, with mesh and cavity as they were.
func TestSides(t *testing.T) {
	each(func(s shape, p api.Pt, c cavity.Cavity) {
		was := s.m.Copy()
		isShares(t, "Sides: "+s.what, lace.Sides(s.m, p, c), begins(c), laced(s.m, p, c), p)
		isAsItWas(t, s.what, s.m, was)
		again := dig(s.m, p)
		isList(t, "the cavity's triangles: "+s.what, c.Tris, again.Tris, p)
		isList(t, "the cavity's rim: "+s.what, c.Rim, again.Rim, p)
	})
}

// TestSidesAreRatios: of the point, the rim's one, and the corners that steal tells.
func TestSidesAreRatios(t *testing.T) {
	each(func(s shape, p api.Pt, c cavity.Cavity) {
		cell := steal.Cell(s.m, p, c)
		for i, x := range lace.Sides(s.m, p, c) {
			last := (i + len(cell) - 1) % len(cell)
			isFrac(t, "Sides: "+s.what, x.W, rat(lace.Ratio(p, s.m.Pts[x.V], cell[last], cell[i])), p, x.V)
		}
	})
}

// TestEverywhere: all points of small boards, with all kinds of faults.
func TestEverywhere(t *testing.T) {
	d := dice(13)
	asked := 0
	for n := range 40 {
		s := shapeOf("small", mixed(&d, 4+n/4, 5), n%3, n%5)
		for _, p := range board(-4, -3, -2, -1, 0, 1, 2, 3, 4) {
			if !s.isWithin(p) {
				continue
			}
			asked++
			c := dig(s.m, p)
			l := lace.Sides(s.m, p, c)
			isShares(t, "Sides", l, begins(c), laced(s.m, p, c), p, n)
			isPoint(t, "small", s.m, p, l)
		}
	}
	isSame(t, "there are some", asked > 500, true, asked)
}

// isPoint tells it, if a ratio is below 0, or none is above, or if the shares aren't 1 in all, above 0, by V rising, or aren't the point.
func isPoint(t *testing.T, what string, m *mesh.Mesh, p api.Pt, l []steal.Share) {
	t.Helper()
	above := 0
	for _, x := range l {
		isSame(t, "not below 0: "+what, frac.Sign(x.W) >= 0, true, p, x)
		above += frac.Sign(x.W)
	}
	isSame(t, "one is above 0: "+what, above > 0, true, p, l)
	sum, x, y := ratio(0), ratio(0), ratio(0)
	last := -1
	for _, a := range steal.Normal(l) {
		isSame(t, "above 0: "+what, frac.Sign(a.W), 1, p, a)
		isSame(t, "rising: "+what, a.V > last, true, p, a)
		last = a.V
		sum.Add(sum, rat(a.W))
		x.Add(x, mul(rat(a.W), ratio(m.Pts[a.V].X)))
		y.Add(y, mul(rat(a.W), ratio(m.Pts[a.V].Y)))
	}
	isSame(t, "1 in all: "+what, sum.Cmp(ratio(1)), 0, p, sum)
	isSame(t, "the point: "+what, x.Cmp(ratio(p.X)) == 0 && y.Cmp(ratio(p.Y)) == 0, true, p, x, y)
}

// TestShares: no ratio is below 0, one of them is above, and their shares times the points are the point, whatever faults there are.
func TestShares(t *testing.T) {
	each(func(s shape, p api.Pt, c cavity.Cavity) {
		isPoint(t, s.what, s.m, p, lace.Sides(s.m, p, c))
	})
}

// common is how long the border of two points' cells is, as many times as they are away from each other: it lies on the line that stands upright on the midst of the way from p to q; of each other point what isn't nearer to that is kept.
func common(p, q api.Pt, others []api.Pt) *big.Rat {
	from, to := ratio(-1), ratio(1)
	// As many times as they are away, no corner of what is asked here is farther off.
	most := new(big.Rat).SetInt(new(big.Int).Lsh(whole(1), 200))
	from.Mul(from, most)
	to.Mul(to, most)
	for _, r := range others {
		if r == p || r == q {
			continue
		}
		ahead := less(whole(q.X-p.X), whole(r.X-p.X), whole(q.Y-p.Y), whole(p.Y-r.Y))
		left := area(p, q, r)
		room := sub(square(p, r), new(big.Rat).SetInt(ahead))
		if left.Sign() == 0 {
			if room.Sign() < 0 {
				return ratio(0)
			}
			continue
		}
		end := quo(room, mul(ratio(2), new(big.Rat).SetInt(left)))
		if left.Sign() > 0 && end.Cmp(to) < 0 {
			to = end
		}
		if left.Sign() < 0 && end.Cmp(from) > 0 {
			from = end
		}
	}
	if to.Cmp(from) <= 0 {
		return ratio(0)
	}
	return sub(to, from)
}

// ofEach are ratios by their points' numbers; 0 of those that have none.
func ofEach(m *mesh.Mesh, l []steal.Share) []*big.Rat {
	out := make([]*big.Rat, len(m.Pts))
	for v := range out {
		out[v] = ratio(0)
	}
	for _, x := range l {
		out[x.V].Add(out[x.V], rat(x.W))
	}
	return out
}

// TestWithoutFaults: the ratio is how long the border of both cells is, by the distance of both; it is 0 of all points that aren't on the rim.
func TestWithoutFaults(t *testing.T) {
	asked := 0
	for _, s := range shapes() {
		if len(s.faults) > 0 {
			continue
		}
		for _, p := range s.ask {
			asked++
			got := ofEach(s.m, lace.Sides(s.m, p, dig(s.m, p)))
			for v, q := range s.l {
				want := common(p, q, s.l)
				isSame(t, "the border: "+s.what, got[v].Cmp(want), 0, p, q, got[v], want)
			}
		}
	}
	isSame(t, "there are some", asked > 300, true, asked)
}

// border is the square of how long the side of a cell is that is as near to p as to q; 0, if there is none.
func border(cell []spot.Spot, p, q api.Pt) *big.Rat {
	var on []spot.Spot
	for _, s := range cell {
		if frac.Sign(clip.Value(clip.Nearer(p, q), s)) == 0 {
			on = append(on, s)
		}
	}
	if len(on) < 2 {
		return ratio(0)
	}
	return rat(spot.Dist2(on[0], on[1]))
}

// TestCells: so it is with the cells of package clip, the point's and the other one's.
func TestCells(t *testing.T) {
	asked := 0
	for _, s := range shapes() {
		if len(s.faults) > 0 || slices.ContainsFunc(s.l, func(p api.Pt) bool { return max(p.X, -p.X, p.Y, -p.Y) > 1000 }) {
			continue
		}
		for i, p := range s.ask {
			if i%7 > 0 {
				continue
			}
			asked++
			cell := clip.Cell(p, s.l, clip.Box(1<<40))
			got := ofEach(s.m, lace.Sides(s.m, p, dig(s.m, p)))
			for v, q := range s.l {
				others := slices.Delete(slices.Clone(s.l), v, v+1)
				its := clip.Cell(q, append(others, p), clip.Box(1<<40))
				want := border(cell, p, q)
				isSame(t, "both have the border: "+s.what, border(its, p, q).Cmp(want), 0, p, q)
				isSame(t, "the border: "+s.what, mul(mul(got[v], got[v]), square(p, q)).Cmp(want), 0, p, q, got[v], want)
			}
		}
	}
	isSame(t, "there are some", asked > 50, true, asked)
}

// TestWhicheverTriangles: the same points in another order, of which many lie on circles: the shares don't hang on which triangles they make.
func TestWhicheverTriangles(t *testing.T) {
	d := dice(21)
	differ := 0
	for _, l := range [][]api.Pt{board(0, 2, 4, 6), round(), mixed(&d, 20, 4), mixed(&d, 16, far)} {
		one := shapeOf("one", l, 0, 0)
		of := func(s shape, p api.Pt) map[api.Pt]*big.Rat {
			out := map[api.Pt]*big.Rat{}
			for _, a := range steal.Normal(lace.Sides(s.m, p, dig(s.m, p))) {
				out[s.m.Pts[a.V]] = rat(a.W)
			}
			return out
		}
		for range 6 {
			l = slices.Clone(l)
			shuffle(&d, l)
			other := shapeOf("other", l, 3, 0)
			if !slices.Equal(corners(one.m), corners(other.m)) {
				differ++
			}
			for _, p := range one.ask {
				got, want := of(other, p), of(one, p)
				isSame(t, "how many", len(got), len(want), p, l)
				for q, w := range want {
					isSame(t, "the share", got[q] != nil && got[q].Cmp(w) == 0, true, p, q, got[q], w)
				}
			}
		}
	}
	isSame(t, "some make other triangles", differ > 10, true, differ)
}

// corners are the points of a mesh's real triangles, in whatever order those and the points came.
func corners(m *mesh.Mesh) [][3]api.Pt {
	byPlace := func(a, b api.Pt) int { return cmp.Or(cmp.Compare(a.X, b.X), cmp.Compare(a.Y, b.Y)) }
	var out [][3]api.Pt
	for _, v := range realOf(m) {
		l := [3]api.Pt{m.Pts[v[0]], m.Pts[v[1]], m.Pts[v[2]]}
		slices.SortFunc(l[:], byPlace)
		out = append(out, l)
	}
	slices.SortFunc(out, func(a, b [3]api.Pt) int { return slices.CompareFunc(a[:], b[:], byPlace) })
	return out
}

// TestInWords: the chapter's example, and others that are worked out by hand: one triangle, whose shares are its own, a row, of which Laplace's shares are other ones than Sibson's, and a hall of faults, beyond which nothing counts.
func TestInWords(t *testing.T) {
	square := shapeOf("a square", pts(0, 0, 4, 0, 4, 4, 0, 4), 0, 0).m
	one := shapeOf("one triangle", pts(0, 0, 6, 0, 0, 6), 0, 0).m
	row := shapeOf("on a side's line", pts(0, 0, 2, 0, 4, 0, 4, 4, 0, 4), 0, 0).m
	for _, x := range []struct {
		what   string
		m      *mesh.Mesh
		p      api.Pt
		rim    []int
		ratios []*big.Rat
		shares []*big.Rat
	}{
		{"the midst of a square", square, pt(2, 2), []int{0, 1, 2, 3},
			rats(1, 1, 1, 1, 1, 1, 1, 1), rats(1, 4, 1, 4, 1, 4, 1, 4)},
		{"beside the midst", square, pt(1, 2), []int{0, 1, 2, 3},
			rats(7, 4, 7, 12, 7, 12, 7, 4), rats(3, 8, 1, 8, 1, 8, 3, 8)},
		{"one triangle", one, pt(1, 2), []int{0, 1, 2},
			rats(13, 4, 13, 12, 13, 6), rats(1, 2, 1, 6, 1, 3)},
		{"above a row", row, pt(2, 2), []int{0, 1, 2, 3, 4},
			rats(1, 2, 1, 1, 1, 2, 1, 1, 1, 1), rats(1, 8, 1, 4, 1, 8, 1, 4, 1, 4)},
		{"in a hall", hall().m, pt(30, 1), []int{0, 1, 3, 2},
			rats(301, 20, 301, 20, 301, 60, 301, 60), rats(3, 8, 3, 8, 1, 8, 1, 8)},
	} {
		c := dig(x.m, x.p)
		isList(t, "the rim: "+x.what, begins(c), x.rim)
		got := lace.Sides(x.m, x.p, c)
		isShares(t, "Sides: "+x.what, got, x.rim, x.ratios)
		isShares(t, "Normal: "+x.what, steal.Normal(got), slices.Sorted(slices.Values(x.rim)), x.shares)
	}
}

// rats are numbers of which each is one divided by the next one.
func rats(l ...int) []*big.Rat {
	var out []*big.Rat
	for i := 0; i < len(l); i += 2 {
		out = append(out, rat(of(l[i], l[i+1])))
	}
	return out
}

// TestOwnAnswers: who writes into an answer changes neither what was handed in nor what is answered next.
func TestOwnAnswers(t *testing.T) {
	each(func(s shape, p api.Pt, c cavity.Cavity) {
		sides := lace.Sides(s.m, p, c)
		clear(lace.Sides(s.m, p, c))
		isAlike(t, "Sides: "+s.what, lace.Sides(s.m, p, c), sides, p)
	})
}

// isAnswer tells it, if the same call doesn't answer the same: of what is handed in nothing is said.
func isAnswer(t *testing.T, what string, m *mesh.Mesh, p api.Pt, c cavity.Cavity) {
	t.Helper()
	isAlike(t, "Sides: "+what, lace.Sides(m.Copy(), p, c), lace.Sides(m, p, c), p, c)
}

// TestOtherCavities: of points on the border or beyond it, at points, on faults, of a cavity that is another point's, and of what is none, nothing is said, but there is an answer, and always the same.
func TestOtherCavities(t *testing.T) {
	numbers := []int{math.MinInt, -3, -2, -1, 0, 1, 2, 3, 5, 70, 1000, math.MaxInt}
	d := dice(3)
	any := func() int { return numbers[d.below(len(numbers))] }
	for _, s := range shapes() {
		was := s.m.Copy()
		places := slices.Concat(s.l, board(-far, -1, 0, 3, far), board(math.MinInt, far+1, math.MaxInt))
		for _, p := range places {
			isAnswer(t, s.what, s.m, p, dig(s.m, p))
			isAnswer(t, s.what, s.m, p, dig(s.m, places[d.below(len(places))]))
			isAnswer(t, s.what, s.m, p, cavity.Cavity{})
			c := cavity.Cavity{Tris: []int{any(), any(), any()}, Cut: true}
			for range d.below(5) {
				c.Rim = append(c.Rim, cavity.Side{A: any(), B: any(), Out: any(), I: any()}, cavity.Side{A: d.below(3), B: d.below(3), Out: d.below(4), I: d.below(3)})
			}
			isAnswer(t, s.what, s.m, p, c)
		}
		isAsItWas(t, s.what, s.m, was)
	}
}

// TestNotSound: of meshes that aren't sound nothing is said, but there is an answer, and always the same: of triangles with nothing across, of those beside themselves, and of those whose points aren't there.
func TestNotSound(t *testing.T) {
	const g = mesh.Ghost
	m, _ := mesh.New(pts(0, 0, 4, 0, 0, 4, 4, 4), 0, 1, 2)
	m.Drop(1)
	for _, v := range [][3]int{{1, 3, 2}, {3, 1, 2}, {0, 0, 0}, {7, 8, 9}, {0, 1, 4}, {g, g, 1}, {g, g, g}, {0, g, 9}, {-5, 1, 2}, {mesh.Gone, 1, 2}} {
		m.Link(0, 0, m.Make(v[0], v[1], v[2]), 1, v[0] > 3)
	}
	m.Link(2, 1, 2, 2, false)
	m.Link(3, 0, 3, 0, false)
	for _, p := range board(-1, 0, 1, 2, 3, 5) {
		for u, x := range m.Tris {
			isAnswer(t, "not sound", m, p, cavity.Dig(m, p, digAt(u)))
			for i := range 3 {
				a, b := x.V[(i+1)%3], x.V[(i+2)%3]
				isAnswer(t, "not sound", m, p, cavity.Cavity{Rim: []cavity.Side{{A: b, B: a, Out: u, I: i}, {A: a, B: b, Out: x.N[i], I: i}}})
			}
		}
	}
}
