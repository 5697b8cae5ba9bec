package spot_test

import (
	"math/big"
	"slices"
	"testing"

	"isohyet/frac"
	"isohyet/spot"
)

// under is twice the area of a polygon: the sum of what lies under each of its sides, less what lies under those back.
func under(l ...spot.Spot) *big.Rat {
	out := new(big.Rat)
	for i, s := range l {
		next := l[(i+1)%len(l)]
		width := sub(rat(s.X), rat(next.X))
		out.Add(out, mul(width, add(rat(s.Y), rat(next.Y))))
	}
	return out
}

func corners(coords ...int) []spot.Spot {
	var out []spot.Spot
	for i := 0; i < len(coords); i += 2 {
		out = append(out, spot.Of(pt(coords[i], coords[i+1])))
	}
	return out
}

func TestArea2InWords(t *testing.T) {
	for _, x := range []struct {
		what string
		l    []spot.Spot
		want int
	}{
		{"nothing", nil, 0},
		{"a point", corners(3, 4), 0},
		{"a line", corners(3, 4, -2, 7), 0},
		{"a line of three", corners(0, 0, 2, 2, 1, 1), 0},
		{"a triangle to the left", corners(0, 0, 4, 0, 0, 3), 12},
		{"a triangle to the right", corners(0, 0, 0, 3, 4, 0), -12},
		{"a square", corners(5, 5, 8, 5, 8, 8, 5, 8), 18},
		{"one that isn't convex", corners(0, 0, 4, 0, 1, 1, 0, 4), 8},
		{"two, to either side", corners(0, 0, 2, 2, 2, 0, 0, 2), 0},
		{"twice round", corners(0, 0, 1, 0, 0, 1, 0, 0, 1, 0, 0, 1), 2},
		{"a corner twice", corners(0, 0, 4, 0, 4, 0, 0, 3), 12},
	} {
		isFrac(t, "Area2: "+x.what, spot.Area2(x.l...), whole(x.want))
	}
	isFrac(t, "Area2", spot.Area2(at(of(1, 2), of(0, 1)), at(of(7, 6), of(1, 5)), at(of(1, 2), of(1, 1))), big.NewRat(2, 3))
	isFrac(t, "Area2", spot.Area2(corners(-far, -far, far, -far, far, far, -far, far)...), mul(whole(1<<33), whole(1<<32)))
}

func TestArea2OfThree(t *testing.T) {
	for _, l := range [][]spot.Spot{board(odd()[2:]...), small()} {
		triples(l, func(a, b, c spot.Spot) { isFrac(t, "Area2", spot.Area2(a, b, c), under(a, b, c)) })
	}
}

// TestArea2OfMany: of any number of corners, wherever it begins, and the other way round.
func TestArea2OfMany(t *testing.T) {
	l := append(board(odd()...), small()...)
	for n := range 30 {
		for from := 0; from+n <= len(l); from += 13 {
			some := slices.Clone(l[from : from+n])
			want := under(some...)
			isFrac(t, "Area2", spot.Area2(some...), want)
			if n > 0 {
				isFrac(t, "Area2 from the next one on", spot.Area2(append(some[1:n:n], some[0])...), want)
			}
			slices.Reverse(some)
			isFrac(t, "Area2 the other way round", spot.Area2(some...), new(big.Rat).Neg(want))
		}
	}
}

func TestSideInWords(t *testing.T) {
	a, b := spot.Of(pt(1, 0)), spot.Of(pt(3, 1))
	for _, x := range []struct {
		s    spot.Spot
		want int
	}{
		{spot.Of(pt(1, 1)), 1}, {spot.Of(pt(1, -1)), -1}, {spot.Of(pt(9, 5)), 1}, {spot.Of(pt(-9, -6)), -1},
		{a, 0}, {b, 0}, {spot.Of(pt(5, 2)), 0}, {spot.Of(pt(-1, -1)), 0}, {at(of(2, 1), of(1, 2)), 0},
		{at(of(2, 1), of(1000001, 2000000)), 1}, {at(of(2, 1), of(999999, 2000000)), -1},
	} {
		isSame(t, "Side", spot.Side(a, b, x.s), x.want, x.s)
		isSame(t, "Side of the line back", spot.Side(b, a, x.s), -x.want, x.s)
		isSame(t, "Side of a line of one point", spot.Side(a, a, x.s), 0, x.s)
	}
}

func TestSide(t *testing.T) {
	for _, l := range [][]spot.Spot{board(odd()[2:]...), small()} {
		triples(l, func(a, b, s spot.Spot) { isSame(t, "Side", spot.Side(a, b, s), under(a, b, s).Sign(), a, b, s) })
	}
}

// share tells where s lies on the line from a to b: 0 at a, 1 at b; false: it doesn't lie on all the line through them.
func share(s, a, b spot.Spot) (*big.Rat, bool) {
	wayX, wayY := sub(rat(b.X), rat(a.X)), sub(rat(b.Y), rat(a.Y))
	fromX, fromY := sub(rat(s.X), rat(a.X)), sub(rat(s.Y), rat(a.Y))
	t := new(big.Rat)
	if wayX.Sign() != 0 {
		t.Quo(fromX, wayX)
	} else if wayY.Sign() != 0 {
		t.Quo(fromY, wayY)
	}
	return t, mul(t, wayX).Cmp(fromX) == 0 && mul(t, wayY).Cmp(fromY) == 0
}

func TestOn(t *testing.T) {
	for _, l := range [][]spot.Spot{board(odd()[2:]...), small()} {
		triples(l, func(s, a, b spot.Spot) {
			at, ok := share(s, a, b)
			isSame(t, "On", spot.On(s, a, b), ok && at.Sign() >= 0 && at.Cmp(whole(1)) <= 0, s, a, b)
		})
	}
}

func TestOnInWords(t *testing.T) {
	a, b := at(of(1, 2), of(1, 3)), at(of(5, 2), of(4, 3))
	bit := of(1, 1<<60)
	for _, x := range []struct {
		what string
		s    spot.Spot
		want bool
	}{
		{"at the beginning", a, true},
		{"at the end", b, true},
		{"in the midst", spot.Along(a, b, of(1, 2)), true},
		{"just behind the beginning", spot.Along(a, b, bit), true},
		{"just ahead of the beginning", spot.Along(a, b, frac.Neg(bit)), false},
		{"just ahead of the end", spot.Along(b, a, bit), true},
		{"just behind the end", spot.Along(b, a, frac.Neg(bit)), false},
		{"beside it", at(of(3, 2), frac.Add(of(5, 6), bit)), false},
		{"across from an end", at(of(1, 2), of(4, 3)), false},
		{"nowhere near", spot.Of(pt(far, -far)), false},
	} {
		isSame(t, "On, "+x.what, spot.On(x.s, a, b), x.want)
		isSame(t, "On the line back, "+x.what, spot.On(x.s, b, a), x.want)
		isSame(t, "On a line of one point, "+x.what, spot.On(x.s, a, a), spot.Same(x.s, a))
	}
}

// TestOnUprightLines: lines on which one coordinate tells nothing.
func TestOnUprightLines(t *testing.T) {
	third := of(1, 3)
	for n := -6; n <= 6; n++ {
		s := of(n, 2)
		want := -2 <= n && n <= 3
		isSame(t, "On", spot.On(at(third, s), at(third, of(-1, 1)), at(third, of(3, 2))), want, n)
		isSame(t, "On", spot.On(at(s, third), at(of(3, 2), third), at(of(-1, 1), third)), want, n)
	}
}
