package spot_test

import (
	"math/big"
	"testing"

	"isohyet/api"
	"isohyet/frac"
	"isohyet/spot"
)

// places are lists of points, of which those of each are taken together.
func places() [][]api.Pt {
	return [][]api.Pt{pts(-2, -1, 0, 1, 2), pts(-far, -far+1, far-1, far), pts(-far, -1, 0, 1, far), mixed(20)}
}

// turns tells whether three points lie on no line.
func turns(a, b, c api.Pt) bool {
	return under(spot.Of(a), spot.Of(b), spot.Of(c)).Sign() != 0
}

// isCentre tells it, if what is told of three points isn't just as far from each: only one point is, if there is one.
func isCentre(t *testing.T, a, b, c api.Pt) {
	t.Helper()
	got, ok := spot.Centre(a, b, c)
	isSame(t, "Centre", ok, turns(a, b, c), a, b, c)
	if !ok {
		isSame(t, "Centre of a line", frac.Sign(got.X) == 0 && frac.Sign(got.Y) == 0, true, a, b, c)
		return
	}
	isSpot(t, "Centre", got, rat(got.X), rat(got.Y))
	want := dist2(got, spot.Of(a))
	for _, p := range []api.Pt{b, c} {
		if dist2(got, spot.Of(p)).Cmp(want) != 0 {
			t.Fatal("Centre of", a, b, c, "isn't as far from each:", rat(got.X), rat(got.Y))
		}
	}
}

func TestCentre(t *testing.T) {
	for _, l := range places() {
		triples(l, func(a, b, c api.Pt) { isCentre(t, a, b, c) })
	}
}

func TestCentreInWords(t *testing.T) {
	for _, x := range []struct {
		a, b, c api.Pt
		x, y    *big.Rat
	}{
		{pt(0, 0), pt(2, 0), pt(0, 2), whole(1), whole(1)},
		{pt(0, 2), pt(2, 0), pt(0, 0), whole(1), whole(1)},
		{pt(10, 20), pt(13, 20), pt(10, 22), big.NewRat(23, 2), whole(21)},
		{pt(-5, 0), pt(3, 4), pt(4, -3), whole(0), whole(0)},
		{pt(0, 0), pt(3, 0), pt(1, 1), big.NewRat(3, 2), big.NewRat(-1, 2)},
		{pt(0, 0), pt(5, 1), pt(2, 3), big.NewRat(5, 2), big.NewRat(1, 2)},
		{pt(-far, -far), pt(far, -far), pt(far, far), whole(0), whole(0)},
	} {
		got, ok := spot.Centre(x.a, x.b, x.c)
		isSame(t, "Centre", ok, true, x.a, x.b, x.c)
		isSpot(t, "Centre", got, x.x, x.y)
	}
}

// TestCentreOfLines: beside a false there is the zero Spot, of three points, of two and of one.
func TestCentreOfLines(t *testing.T) {
	for _, l := range [][3]api.Pt{
		{pt(0, 0), pt(1, 1), pt(3, 3)}, {pt(7, 1), pt(7, 1), pt(7, 1)}, {pt(7, 1), pt(7, 1), pt(2, 2)},
		{pt(7, 1), pt(2, 2), pt(7, 1)}, {pt(2, 2), pt(7, 1), pt(7, 1)}, {pt(-far, far), pt(0, 0), pt(far, -far)},
	} {
		got, ok := spot.Centre(l[0], l[1], l[2])
		isSame(t, "Centre", ok, false, l)
		zero := got.X.Num.Mag == nil && got.X.Den == nil && got.Y.Num.Mag == nil && got.Y.Den == nil
		isSame(t, "the zero Spot", zero && !got.X.Num.Minus && !got.Y.Num.Minus, true, l)
	}
}

// TestFarCentres: the farthest ones, of points nearly on a line.
func TestFarCentres(t *testing.T) {
	isCentre(t, pt(-far, -far), pt(far-1, far), pt(0, 0))
	isCentre(t, pt(-far, -far), pt(1, 0), pt(far, far))
	got, _ := spot.Centre(pt(-far, 0), pt(far, 0), pt(0, 1))
	isSpot(t, "Centre", got, whole(0), big.NewRat(1-1<<62, 2))
}

// isShares tells it, if shares aren't 1 in all, or don't come to s: only these three do, where there are some.
func isShares(t *testing.T, a, b, c api.Pt, s spot.Spot) {
	t.Helper()
	got := spot.Shares(a, b, c, s)
	all, x, y := new(big.Rat), new(big.Rat), new(big.Rat)
	for i, p := range []api.Pt{a, b, c} {
		w := rat(got[i])
		isFrac(t, "Shares", got[i], w)
		all.Add(all, w)
		x.Add(x, mul(w, whole(p.X)))
		y.Add(y, mul(w, whole(p.Y)))
	}
	if all.Cmp(whole(1)) != 0 || x.Cmp(rat(s.X)) != 0 || y.Cmp(rat(s.Y)) != 0 {
		t.Fatal("Shares of", a, b, c, s, got)
	}
}

func TestShares(t *testing.T) {
	spots := append(board(odd()[1:]...), at(of(1, 3), of(-2, 7)), spot.Of(pt(far, -far)))
	for _, l := range places() {
		n := 0
		triples(l, func(a, b, c api.Pt) {
			if !turns(a, b, c) {
				return
			}
			n++
			switch n % 3 {
			case 0:
				isShares(t, a, b, c, spots[n/3%len(spots)])
			case 1:
				isShares(t, a, b, c, spot.Of(l[n/3%len(l)]))
			default:
				mid, _ := spot.Centre(a, b, c)
				isShares(t, a, b, c, mid)
			}
		})
	}
}

func TestSharesInWords(t *testing.T) {
	a, b, c := pt(1, 1), pt(5, 1), pt(1, 9)
	for _, x := range []struct {
		s    spot.Spot
		want [3]frac.Frac
	}{
		{spot.Of(a), [3]frac.Frac{of(1, 1), of(0, 1), of(0, 1)}},
		{spot.Of(b), [3]frac.Frac{of(0, 1), of(1, 1), of(0, 1)}},
		{spot.Of(c), [3]frac.Frac{of(0, 1), of(0, 1), of(1, 1)}},
		{spot.Of(pt(3, 1)), [3]frac.Frac{of(1, 2), of(1, 2), of(0, 1)}},
		{spot.Of(pt(2, 3)), [3]frac.Frac{of(1, 2), of(1, 4), of(1, 4)}},
		{at(of(7, 3), of(11, 3)), [3]frac.Frac{of(1, 3), of(1, 3), of(1, 3)}},
		{spot.Of(pt(5, 9)), [3]frac.Frac{of(-1, 1), of(1, 1), of(1, 1)}},
		{spot.Of(pt(-3, 1)), [3]frac.Frac{of(2, 1), of(-1, 1), of(0, 1)}},
	} {
		left, right := spot.Shares(a, b, c, x.s), spot.Shares(c, b, a, x.s)
		for i := range x.want {
			isFrac(t, "Shares", left[i], rat(x.want[i]))
			isFrac(t, "Shares of those that turn right", right[2-i], rat(x.want[i]))
		}
	}
}
