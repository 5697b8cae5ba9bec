package steal_test

import (
	"cmp"
	"math"
	"math/big"
	"slices"
	"testing"

	"isohyet/api"
	"isohyet/cavity"
	"isohyet/clip"
	"isohyet/frac"
	"isohyet/mag"
	"isohyet/mesh"
	"isohyet/num"
	"isohyet/spot"
	"isohyet/steal"
)

// begins are the points of a rim, in its order.
func begins(c cavity.Cavity) []int {
	var out []int
	for _, s := range c.Rim {
		out = append(out, s.A)
	}
	return out
}

// TestCellAndAreas: of each point, by the chapter's words, with mesh and cavity as they were.
func TestCellAndAreas(t *testing.T) {
	each(func(s shape, p api.Pt, c cavity.Cavity) {
		was := s.m.Copy()
		isCell(t, "Cell: "+s.what, steal.Cell(s.m, p, c), cornersOf(s.m, p, c), p)
		isShares(t, "Areas: "+s.what, steal.Areas(s.m, p, c), begins(c), taken(t, s.m, p, c), p)
		isAsItWas(t, s.what, s.m, was)
		again := dig(s.m, p)
		isList(t, "the cavity's triangles: "+s.what, c.Tris, again.Tris, p)
		isList(t, "the cavity's rim: "+s.what, c.Rim, again.Rim, p)
	})
}

// TestEverywhere: all points of small boards, with all kinds of faults.
func TestEverywhere(t *testing.T) {
	d := dice(13)
	asked := 0
	for n := range 40 {
		s := shapeOf("small", mixed(&d, 4+n/4, 5), n%3, n%5)
		for _, p := range board(-4, -3, -2, -1, 0, 1, 2, 3, 4) {
			if !s.isWithin(p) {
				continue
			}
			asked++
			c := dig(s.m, p)
			isCell(t, "Cell", steal.Cell(s.m, p, c), cornersOf(s.m, p, c), p, n)
			isShares(t, "Areas", steal.Areas(s.m, p, c), begins(c), taken(t, s.m, p, c), p, n)
		}
	}
	isSame(t, "there are some", asked > 500, true, asked)
}

// TestAreas: none is below 0, they add up to the cell's; the shares are 1 in all, above 0, by V rising, and the points times these are the point, whatever faults there are.
func TestAreas(t *testing.T) {
	each(func(s shape, p api.Pt, c cavity.Cavity) {
		areas := steal.Areas(s.m, p, c)
		var all []frac.Frac
		for _, x := range areas {
			isSame(t, "not below 0: "+s.what, frac.Sign(x.W) >= 0, true, p, x)
			all = append(all, x.W)
		}
		isFrac(t, "the cell's area: "+s.what, spot.Area2(steal.Cell(s.m, p, c)...), rat(frac.Sum(all...)), p)
		sum, x, y := ratio(0), ratio(0), ratio(0)
		last := -1
		for _, a := range steal.Normal(areas) {
			isSame(t, "above 0: "+s.what, frac.Sign(a.W), 1, p, a)
			isSame(t, "rising: "+s.what, a.V > last, true, p, a)
			last = a.V
			sum.Add(sum, rat(a.W))
			x.Add(x, mul(rat(a.W), ratio(s.m.Pts[a.V].X)))
			y.Add(y, mul(rat(a.W), ratio(s.m.Pts[a.V].Y)))
		}
		isSame(t, "1 in all: "+s.what, sum.Cmp(ratio(1)), 0, p, sum)
		isSame(t, "the point: "+s.what, x.Cmp(ratio(p.X)) == 0 && y.Cmp(ratio(p.Y)) == 0, true, p, x, y)
	})
}

// TestWithoutFaults: what is taken is what lies of the others' cells in that of the point.
func TestWithoutFaults(t *testing.T) {
	asked := 0
	for _, s := range shapes() {
		if len(s.faults) > 0 || slices.ContainsFunc(s.l, func(p api.Pt) bool { return max(p.X, -p.X, p.Y, -p.Y) > 1000 }) {
			continue
		}
		for i, p := range s.ask {
			if i%4 > 0 {
				continue
			}
			asked++
			c := dig(s.m, p)
			cell := clip.Cell(p, s.l, clip.Box(1<<40))
			isFrac(t, "the cell: "+s.what, spot.Area2(steal.Cell(s.m, p, c)...), rat(spot.Area2(cell...)), p)
			got := map[int]*big.Rat{}
			for _, a := range steal.Areas(s.m, p, c) {
				got[a.V] = rat(a.W)
			}
			for v, q := range s.l {
				others := slices.Delete(slices.Clone(s.l), v, v+1)
				want := rat(spot.Area2(clip.Cell(q, others, cell)...))
				has := got[v]
				if has == nil {
					has = ratio(0)
				}
				isSame(t, "what is taken: "+s.what, has.Cmp(want), 0, p, q, has, want)
			}
		}
	}
	isSame(t, "there are some", asked > 100, true, asked)
}

// TestWhicheverTriangles: the same points in another order, of which many lie on circles: the shares don't hang on which triangles they make.
func TestWhicheverTriangles(t *testing.T) {
	d := dice(21)
	differ := 0
	for _, l := range [][]api.Pt{board(0, 2, 4, 6), round(), mixed(&d, 20, 4), mixed(&d, 16, far)} {
		one := shapeOf("one", l, 0, 0)
		of := func(s shape, p api.Pt) map[api.Pt]*big.Rat {
			out := map[api.Pt]*big.Rat{}
			for _, a := range steal.Normal(steal.Areas(s.m, p, dig(s.m, p))) {
				out[s.m.Pts[a.V]] = rat(a.W)
			}
			return out
		}
		for range 6 {
			l = slices.Clone(l)
			shuffle(&d, l)
			other := shapeOf("other", l, 3, 0)
			if !slices.Equal(corners(one.m), corners(other.m)) {
				differ++
			}
			for _, p := range one.ask {
				got, want := of(other, p), of(one, p)
				isSame(t, "how many", len(got), len(want), p, l)
				for q, w := range want {
					isSame(t, "the share", got[q] != nil && got[q].Cmp(w) == 0, true, p, q, got[q], w)
				}
			}
		}
	}
	isSame(t, "some make other triangles", differ > 10, true, differ)
}

// corners are the points of a mesh's real triangles, in whatever order those and the points came.
func corners(m *mesh.Mesh) [][3]api.Pt {
	byPlace := func(a, b api.Pt) int { return cmp.Or(cmp.Compare(a.X, b.X), cmp.Compare(a.Y, b.Y)) }
	var out [][3]api.Pt
	for _, v := range realOf(m) {
		l := [3]api.Pt{m.Pts[v[0]], m.Pts[v[1]], m.Pts[v[2]]}
		slices.SortFunc(l[:], byPlace)
		out = append(out, l)
	}
	slices.SortFunc(out, func(a, b [3]api.Pt) int { return slices.CompareFunc(a[:], b[:], byPlace) })
	return out
}

// TestInWords: the chapter's example, and others that are worked out by hand: one triangle, whose shares are its own, and a hall of faults, beyond which nothing counts.
func TestInWords(t *testing.T) {
	square := shapeOf("a square", pts(0, 0, 4, 0, 4, 4, 0, 4), 0, 0).m
	one := shapeOf("one triangle", pts(0, 0, 6, 0, 0, 6), 0, 0).m
	row := shapeOf("on a side's line", pts(0, 0, 2, 0, 4, 0, 4, 4, 0, 4), 0, 0).m
	for _, x := range []struct {
		what   string
		m      *mesh.Mesh
		p      api.Pt
		rim    []int
		cell   []frac.Frac
		areas  []frac.Frac
		shares []frac.Frac
	}{
		{"the midst of a square", square, pt(2, 2), []int{0, 1, 2, 3},
			[]frac.Frac{of(2, 1), of(0, 1), of(4, 1), of(2, 1), of(2, 1), of(4, 1), of(0, 1), of(2, 1)},
			[]frac.Frac{of(4, 1), of(4, 1), of(4, 1), of(4, 1)},
			[]frac.Frac{of(1, 4), of(1, 4), of(1, 4), of(1, 4)}},
		{"beside the midst", square, pt(1, 2), []int{0, 1, 2, 3},
			[]frac.Frac{of(2, 1), of(1, 4), of(19, 6), of(2, 1), of(2, 1), of(15, 4), of(-3, 2), of(2, 1)},
			[]frac.Frac{of(49, 8), of(49, 24), of(49, 24), of(49, 8)},
			[]frac.Frac{of(3, 8), of(1, 8), of(1, 8), of(3, 8)}},
		{"one triangle", one, pt(1, 2), []int{0, 1, 2},
			[]frac.Frac{of(3, 1), of(-1, 4), of(31, 6), of(31, 6), of(-7, 2), of(3, 1)},
			[]frac.Frac{of(169, 8), of(169, 24), of(169, 12)},
			[]frac.Frac{of(1, 2), of(1, 6), of(1, 3)}},
		{"above a row", row, pt(2, 2), []int{0, 1, 2, 3, 4},
			[]frac.Frac{of(1, 1), of(1, 1), of(3, 1), of(1, 1), of(4, 1), of(2, 1), of(2, 1), of(4, 1), of(0, 1), of(2, 1)},
			nil, nil},
		{"in a hall", hall().m, pt(30, 1), []int{0, 1, 3, 2},
			[]frac.Frac{of(30, 1), of(-899, 2), of(901, 20), of(2, 1), of(30, 1), of(305, 2), of(299, 20), of(2, 1)},
			nil, []frac.Frac{of(3, 8), of(3, 8), of(1, 8), of(1, 8)}},
	} {
		c := dig(x.m, x.p)
		isList(t, "the rim: "+x.what, begins(c), x.rim)
		var cell []corner
		for i := 0; i < len(x.cell); i += 2 {
			cell = append(cell, corner{rat(x.cell[i]), rat(x.cell[i+1])})
		}
		isCell(t, "Cell: "+x.what, steal.Cell(x.m, x.p, c), cell)
		if x.areas != nil {
			isShares(t, "Areas: "+x.what, steal.Areas(x.m, x.p, c), x.rim, rats(x.areas...))
		}
		if x.shares != nil {
			isShares(t, "Normal: "+x.what, steal.Normal(steal.Areas(x.m, x.p, c)), slices.Sorted(slices.Values(x.rim)), rats(x.shares...))
		}
	}
}

func rats(l ...frac.Frac) []*big.Rat {
	var out []*big.Rat
	for _, a := range l {
		out = append(out, rat(a))
	}
	return out
}

// share is one of a point, a divided by b.
func share(v, a, b int) steal.Share {
	return steal.Share{V: v, W: of(a, b)}
}

// copied are shares of which no number is the same memory.
func copied(l []steal.Share) []steal.Share {
	var out []steal.Share
	for _, s := range l {
		s.W.Num.Mag, s.W.Den = slices.Clone(s.W.Num.Mag), slices.Clone(s.W.Den)
		out = append(out, s)
	}
	return out
}

// isUnchanged tells it, if shares aren't word by word what they were.
func isUnchanged(t *testing.T, what string, l, was []steal.Share) {
	t.Helper()
	for i, s := range l {
		isSame(t, "the point was changed: "+what, s.V, was[i].V)
		isSame(t, "the sign was changed: "+what, s.W.Num.Minus, was[i].W.Num.Minus)
		isList(t, "the number was changed: "+what, s.W.Num.Mag, was[i].W.Num.Mag)
		isList(t, "what divides it was changed: "+what, s.W.Den, was[i].W.Den)
	}
}

// TestNormal: any numbers, of any points, in any order.
func TestNormal(t *testing.T) {
	odd := frac.Frac{Num: num.Num{Minus: true, Mag: mag.Mag{6, 0}}, Den: mag.Mag{4, 0}}
	zero := frac.Frac{Num: num.Num{Minus: true, Mag: mag.Mag{0, 0}}, Den: mag.Mag{0}}
	five := frac.Frac{Num: num.Num{Mag: mag.Mag{5}}}
	for _, x := range []struct {
		what string
		l    []steal.Share
		want []steal.Share
	}{
		{"one", []steal.Share{share(3, 2, 7)}, []steal.Share{share(3, 1, 1)}},
		{"one below 0", []steal.Share{share(3, -2, 7)}, []steal.Share{share(3, 1, 1)}},
		{"two", []steal.Share{share(7, 1, 1), share(2, 3, 1)}, []steal.Share{share(2, 3, 4), share(7, 1, 4)}},
		{"a 0", []steal.Share{share(7, 1, 2), share(5, 0, 1), share(2, 1, 3)}, []steal.Share{share(2, 2, 5), share(7, 3, 5)}},
		{"one below 0 among others", []steal.Share{share(1, 3, 1), share(0, -1, 1)}, []steal.Share{share(0, -1, 2), share(1, 3, 2)}},
		{"less than 0 in all", []steal.Share{share(1, -3, 1), share(0, 1, 1)}, []steal.Share{share(0, -1, 2), share(1, 3, 2)}},
		{"one point twice", []steal.Share{share(4, 1, 1), share(1, 2, 1), share(4, 3, 1), share(4, 2, 1)}, []steal.Share{share(1, 1, 4), share(4, 1, 8), share(4, 3, 8), share(4, 1, 4)}},
		{"one point twice, 1 in all", []steal.Share{share(4, 2, 3), share(4, 1, 3)}, []steal.Share{share(4, 2, 3), share(4, 1, 3)}},
		{"any numbers of points", []steal.Share{share(math.MaxInt, 1, 1), share(math.MinInt, 1, 1), share(-1, 2, 1)}, []steal.Share{share(math.MinInt, 1, 4), share(-1, 1, 2), share(math.MaxInt, 1, 4)}},
		{"not in lowest terms, not right", []steal.Share{{V: 2, W: odd}, {V: 1, W: zero}, {V: 0, W: five}, {V: 0}}, []steal.Share{share(0, 10, 7), share(2, -3, 7)}},
		{"0 in all, of nothing", nil, nil},
	} {
		was := copied(x.l)
		isAlike(t, "Normal: "+x.what, steal.Normal(x.l), x.want)
		isUnchanged(t, x.what, x.l, was)
	}
}

// TestNormalOfMany: great numbers, and long lists, whose points rise, those of one in their order.
func TestNormalOfMany(t *testing.T) {
	d := dice(5)
	for n := 1; n < 60; n++ {
		var l, order []steal.Share
		all := ratio(0)
		for range n {
			w := frac.Mul(of(d.below(far)-far/8, 1+d.below(far)), of(d.below(4), 1+d.below(far)))
			l = append(l, steal.Share{V: d.below(n) - 3, W: w})
			all.Add(all, rat(w))
		}
		if all.Sign() == 0 {
			continue
		}
		for v := -3; v < n; v++ {
			for _, s := range l {
				if s.V == v && frac.Sign(s.W) != 0 {
					order = append(order, s)
				}
			}
		}
		points, want := parted(order)
		for _, w := range want {
			w.Quo(w, all)
		}
		isShares(t, "Normal", steal.Normal(l), points, want, n)
	}
}

// TestNormalOfNothing: of what is 0 in all nothing is said, but there is an answer, and always the same.
func TestNormalOfNothing(t *testing.T) {
	for _, l := range [][]steal.Share{nil, {}, {share(1, 0, 1)}, {{}, {}}, {share(1, 1, 1), share(2, -1, 1)}, {share(1, 1, 2), share(1, 1, 3), share(0, -5, 6)}} {
		isAlike(t, "Normal", steal.Normal(l), steal.Normal(l), l)
	}
}

// TestOwnAnswers: who writes into an answer changes neither what was handed in nor what is answered next.
func TestOwnAnswers(t *testing.T) {
	each(func(s shape, p api.Pt, c cavity.Cavity) {
		cell, areas := steal.Cell(s.m, p, c), steal.Areas(s.m, p, c)
		shares := steal.Normal(areas)
		clear(steal.Cell(s.m, p, c))
		clear(steal.Areas(s.m, p, c))
		clear(steal.Normal(areas))
		for i, x := range steal.Cell(s.m, p, c) {
			isSame(t, "Cell: "+s.what, spot.Same(x, cell[i]), true, p)
		}
		isAlike(t, "Areas: "+s.what, steal.Areas(s.m, p, c), areas, p)
		isAlike(t, "Normal: "+s.what, steal.Normal(areas), shares, p)
	})
}

// isAnswer tells it, if the same calls don't answer the same: of what is handed in nothing is said.
func isAnswer(t *testing.T, what string, m *mesh.Mesh, p api.Pt, c cavity.Cavity) {
	t.Helper()
	one, other := steal.Cell(m, p, c), steal.Cell(m.Copy(), p, c)
	isSame(t, "how many: "+what, len(one), len(other), p, c)
	for i := range one {
		isSame(t, "Cell: "+what, spot.Same(one[i], other[i]), true, p, c)
	}
	areas := steal.Areas(m, p, c)
	isAlike(t, "Areas: "+what, steal.Areas(m.Copy(), p, c), areas, p, c)
	isAlike(t, "Normal: "+what, steal.Normal(areas), steal.Normal(areas), p, c)
}

// TestOtherCavities: of points on the border or beyond it, at points, on faults, of a cavity that is another point's, and of what is none, nothing is said, but there is an answer, and always the same.
func TestOtherCavities(t *testing.T) {
	numbers := []int{math.MinInt, -3, -2, -1, 0, 1, 2, 3, 5, 70, 1000, math.MaxInt}
	d := dice(3)
	any := func() int { return numbers[d.below(len(numbers))] }
	for _, s := range shapes() {
		was := s.m.Copy()
		places := slices.Concat(s.l, board(-far, -1, 0, 3, far), board(math.MinInt, far+1, math.MaxInt))
		for _, p := range places {
			isAnswer(t, s.what, s.m, p, dig(s.m, p))
			isAnswer(t, s.what, s.m, p, dig(s.m, places[d.below(len(places))]))
			isAnswer(t, s.what, s.m, p, cavity.Cavity{})
			c := cavity.Cavity{Tris: []int{any(), any(), any()}, Cut: true}
			for range d.below(5) {
				c.Rim = append(c.Rim, cavity.Side{A: any(), B: any(), Out: any(), I: any()}, cavity.Side{A: d.below(3), B: d.below(3), Out: d.below(4), I: d.below(3)})
			}
			isAnswer(t, s.what, s.m, p, c)
			slices.Sort(c.Tris)
			isAnswer(t, s.what, s.m, p, c)
		}
		isAsItWas(t, s.what, s.m, was)
	}
}

// TestNotSound: of meshes that aren't sound nothing is said, but there is an answer, and always the same: of triangles with nothing across, of those beside themselves, and of those whose points aren't there.
func TestNotSound(t *testing.T) {
	const g = mesh.Ghost
	m, _ := mesh.New(pts(0, 0, 4, 0, 0, 4, 4, 4), 0, 1, 2)
	m.Drop(1)
	for _, v := range [][3]int{{1, 3, 2}, {3, 1, 2}, {0, 0, 0}, {7, 8, 9}, {0, 1, 4}, {g, g, 1}, {g, g, g}, {0, g, 9}, {-5, 1, 2}, {mesh.Gone, 1, 2}} {
		m.Link(0, 0, m.Make(v[0], v[1], v[2]), 1, v[0] > 3)
	}
	m.Link(2, 1, 2, 2, false)
	m.Link(3, 0, 3, 0, false)
	var all []int
	for u := range m.Tris {
		all = append(all, u)
	}
	for _, p := range board(-1, 0, 1, 2, 3, 5) {
		for u, x := range m.Tris {
			isAnswer(t, "not sound", m, p, cavity.Dig(m, p, digAt(u)))
			for i := range 3 {
				a, b := x.V[(i+1)%3], x.V[(i+2)%3]
				isAnswer(t, "not sound", m, p, cavity.Cavity{Tris: all, Rim: []cavity.Side{{A: b, B: a, Out: u, I: i}, {A: a, B: b, Out: x.N[i], I: i}}})
			}
		}
	}
}
