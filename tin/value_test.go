package tin_test

import (
	"math"
	"math/big"
	"slices"
	"testing"

	"isohyet/api"
	"isohyet/frac"
	"isohyet/mag"
	"isohyet/num"
	"isohyet/steal"
	"isohyet/tin"
)

// valued is the sum of shares times heights, by exact numbers.
func valued(l []steal.Share, z []int) *big.Rat {
	out := new(big.Rat)
	for _, s := range l {
		addTimes(out, z[s.V], s.W)
	}
	return out
}

func TestValueInWords(t *testing.T) {
	for _, x := range []struct {
		what     string
		l        []steal.Share
		z        []int
		sum, len int
	}{
		{"no shares", nil, nil, 0, 1},
		{"no shares, but heights", nil, []int{7}, 0, 1},
		{"one of one", shares(0, 1, 1), []int{7}, 7, 1},
		{"one of many", shares(2, 1, 1), []int{7, 8, -9}, -9, 1},
		{"a third of the way", shares(0, 2, 3, 1, 1, 3), []int{10, 0}, 20, 3},
		{"three", shares(0, 1, 2, 1, 1, 3, 2, 1, 6), []int{10, 0, 60}, 15, 1},
		{"to both sides of 0", shares(0, 1, 2, 1, 1, 2), []int{-5, 5}, 0, 1},
		{"not a whole number", shares(0, 1, 2, 3, 1, 2), []int{1, 100, 100, -2}, -1, 2},
		{"not 1 in all", shares(0, 1, 2, 1, 5, 2), []int{3, 4}, 23, 2},
		{"less than 0", shares(0, -1, 2, 1, 3, 2), []int{3, 5}, 6, 1},
		{"0", shares(0, 0, 1, 1, 1, 1), []int{3, 5}, 5, 1},
		{"not rising", shares(2, 1, 4, 0, 3, 4), []int{4, 9, 8}, 5, 1},
		{"one twice", shares(1, 1, 4, 1, 1, 2), []int{9, 4}, 3, 1},
	} {
		isFrac(t, "Value: "+x.what, tin.Value(x.l, x.z), rat(of(x.sum, x.len)))
	}
}

// TestValue: against exact numbers, whatever their order.
func TestValue(t *testing.T) {
	d := dice(3)
	ends := []int{math.MinInt, -far, -1, 0, 1, far, math.MaxInt}
	for n := range 60 {
		var l []steal.Share
		z := make([]int, 30)
		for i := range z {
			z[i] = d.below(2*far+1) - far
			if n%3 == 0 {
				z[i] = ends[d.below(len(ends))]
			}
		}
		for range n % 20 {
			l = append(l, steal.Share{V: d.below(30), W: of(d.below(1<<40)-1<<39, 1+d.below(1<<40))})
		}
		want := valued(l, z)
		wasL, wasZ := slices.Clone(l), slices.Clone(z)
		isFrac(t, "Value", tin.Value(l, z), want, l, z)
		isShares(t, "the shares were changed", l, wasL)
		isSame(t, "the heights were changed", slices.Equal(z, wasZ), true)
		slices.Reverse(l)
		isFrac(t, "Value, the other way round", tin.Value(l, z), want, l, z)
	}
}

// TestValueOfLoose: numbers that aren't in lowest terms, nor right, count as what they are.
func TestValueOfLoose(t *testing.T) {
	minus := func(m ...uint64) num.Num { return num.Num{Minus: true, Mag: m} }
	l := []steal.Share{
		{V: 0},
		{V: 1, W: frac.Frac{Num: minus(0, 0), Den: mag.Mag{6}}},
		{V: 2, W: frac.Frac{Num: minus(6, 0), Den: mag.Mag{4, 0}}},
		{V: 0, W: frac.Frac{Num: num.Num{Mag: mag.Mag{2, 0}}, Den: mag.Mag{0, 0}}},
		{V: 1, W: frac.Frac{Num: num.Num{Mag: mag.Mag{0, 9}}, Den: mag.Mag{0, 6, 0}}},
	}
	isFrac(t, "Value", tin.Value(l, []int{5, 7, 3}), whole(16))
	isFrac(t, "Value", tin.Value(l[:2], []int{5, 7}), whole(0))
	isSame(t, "the number was changed", len(l[4].W.Den), 3)
}

// TestPlanes: heights on a plane are told as the plane has them, in triangles and on lines.
func TestPlanes(t *testing.T) {
	for _, x := range [][3]int{{0, 0, 0}, {0, 0, -far}, {1, 0, 0}, {0, -1, 1}, {3, -2, 5}, {-70, 900, 1}} {
		height := func(p api.Pt) int { return x[0]*p.X + x[1]*p.Y + x[2] }
		d := dice(2)
		for _, s := range shapes() {
			var z []int
			for _, p := range s.m.Pts {
				z = append(z, height(p))
			}
			for u, y := range s.m.All() {
				for _, p := range within(&d, s.m, u) {
					isFrac(t, "Value of Triangle: "+s.what, tin.Value(tin.Triangle(s.m, u, p), z), whole(height(p)), p, u)
				}
				for _, p := range steps(s.m.Pts[y.V[0]], s.m.Pts[y.V[1]]) {
					isFrac(t, "Value of Line: "+s.what, tin.Value(tin.Line(s.m, y.V[0], y.V[1], p), z), whole(height(p)), p, y.V)
				}
			}
		}
	}
}

// TestValueOfOthers: of numbers that have no height nothing is said, but there is an answer, and always the same.
func TestValueOfOthers(t *testing.T) {
	for _, v := range []int{math.MinInt, -2, -1, 0, 2, 3, 4, math.MaxInt} {
		l := shares(v, 1, 2, 1, 1, 2)
		for _, z := range [][]int{nil, {}, {1}, {1, 2, 3}} {
			isFrac(t, "Value", tin.Value(l, z), rat(tin.Value(l, z)), v, z)
		}
	}
}
