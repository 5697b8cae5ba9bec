package pred_test

import (
	"math"
	"math/big"
	"testing"

	"isohyet/api"
	"isohyet/num"
	"isohyet/pred"
)

func TestExamples(t *testing.T) {
	a, b, c := pt(0, 0), pt(2, 0), pt(0, 2)
	isSame(t, "Circle", pred.Circle(a, b, c, pt(2, 2)), 0)
	isSame(t, "Circle", pred.Circle(a, b, c, pt(1, 1)), 1)
	isSame(t, "Circle", pred.Circle(a, b, c, pt(3, 2)), -1)
}

// TestLeftIsToTheLeft: x goes to the right and y up, so that from the east to the north it is a turn left.
func TestLeftIsToTheLeft(t *testing.T) {
	a, east, north := pt(0, 0), pt(3, 0), pt(0, 5)
	isSame(t, "Orient", pred.Orient(a, east, north), 1)
	isSame(t, "Orient", pred.Orient(a, north, east), -1)
	isSame(t, "Orient", pred.Orient(a, east, pt(-7, 0)), 0)
	isNum(t, "Area2", pred.Area2(a, east, north), whole(15))
	isNum(t, "Area2", pred.Area2(a, north, east), whole(-15))
}

// isTurn tells it, if what is told of how three points turn isn't as their area.
func isTurn(t *testing.T, a, b, c api.Pt) {
	t.Helper()
	want := area2(a, b, c)
	isSame(t, "Orient", pred.Orient(a, b, c), want.Sign(), a, b, c)
	isNum(t, "Area2", pred.Area2(a, b, c), want)
}

func TestTurns(t *testing.T) {
	for _, l := range [][]api.Pt{small(5), great(), square(-far, -1, 0, 1, far), mixed(30)} {
		triples(l, func(a, b, c api.Pt) { isTurn(t, a, b, c) })
	}
}

// TestNearlyOnALine: a step of 1 beside the longest lines.
func TestNearlyOnALine(t *testing.T) {
	a, b := pt(-far, -far), pt(far, far)
	for n := -far; n <= far; n += far / 4 {
		isSame(t, "Orient", pred.Orient(a, b, pt(n, n)), 0, pt(n, n))
		if n > -far {
			isSame(t, "Orient", pred.Orient(a, b, pt(n, n-1)), -1, pt(n, n-1))
			isSame(t, "Orient", pred.Orient(a, b, pt(n-1, n)), 1, pt(n-1, n))
		}
	}
	greatest := new(big.Int).Lsh(whole(1), 64)
	isNum(t, "Area2", pred.Area2(a, pt(far, -far), b), greatest)
	isNum(t, "Area2", pred.Area2(b, pt(far, -far), a), new(big.Int).Neg(greatest))
}

func TestDist2(t *testing.T) {
	isNum(t, "Dist2", pred.Dist2(pt(1, 1), pt(4, 5)), whole(25))
	isNum(t, "Dist2", pred.Dist2(pt(-far, far), pt(far, -far)), new(big.Int).Lsh(whole(1), 65))
	for _, l := range [][]api.Pt{small(5), great(), mixed(30)} {
		for _, a := range l {
			for _, b := range l {
				isNum(t, "Dist2", pred.Dist2(a, b), dist2(a, b))
			}
		}
	}
}

// power is, times some number above 0, how much nearer d is to the midst of the circle through a, b, c than they are,
// in squares: from the midst that Cramer's rule gives.
func power(a, b, c, d api.Pt) *big.Int {
	bx, by := across(a, b)
	cx, cy := across(a, c)
	dx, dy := across(a, d)
	area := det(bx, by, cx, cy)
	midX, midY := det(dist2(a, b), by, dist2(a, c), cy), det(bx, dist2(a, b), cx, dist2(a, c))
	// With a at 0, and the midst at half of midX, midY by area: what d times that is, less its own square.
	out := new(big.Int).Mul(dx, midX)
	out.Add(out, new(big.Int).Mul(dy, midY))
	return out.Sub(out, new(big.Int).Mul(dist2(a, d), area))
}

// isCircle tells it, if Circle isn't as the midst has it; a, b, c that don't turn left are nobody's.
func isCircle(t *testing.T, a, b, c, d api.Pt) {
	t.Helper()
	if area2(a, b, c).Sign() > 0 {
		isSame(t, "Circle", pred.Circle(a, b, c, d), power(a, b, c, d).Sign(), a, b, c, d)
	}
}

func TestCircles(t *testing.T) {
	for _, l := range [][]api.Pt{small(4), great(), square(-far, 0, 1, far), mixed(14)} {
		fours(l, func(a, b, c, d api.Pt) { isCircle(t, a, b, c, d) })
	}
}

// rounds are points that lie on one circle about 0, whose radius is 65 times by.
func rounds(by int) []api.Pt {
	var out []api.Pt
	for _, p := range [][2]int{{16, 63}, {25, 60}, {33, 56}, {39, 52}, {0, 65}} {
		for _, q := range [][2]int{p, {p[1], p[0]}} {
			x, y := q[0]*by, q[1]*by
			out = append(out, pt(x, y), pt(-x, y), pt(x, -y), pt(-x, -y))
		}
	}
	return out
}

// TestGreatRounds: points on one circle about 0 and a step of 1 beside it, from the smallest to the greatest one.
func TestGreatRounds(t *testing.T) {
	for _, by := range []int{1, 1000, far / 65} {
		l := rounds(by)
		radius2 := dist2(pt(0, 0), pt(0, 65*by))
		for i, a := range l {
			b, c := l[(i+7)%len(l)], l[(i+18)%len(l)]
			if area2(a, b, c).Sign() < 0 {
				b, c = c, b
			}
			if area2(a, b, c).Sign() == 0 {
				continue
			}
			for _, p := range l {
				for _, d := range []api.Pt{p, pt(p.X+1, p.Y), pt(p.X-1, p.Y), pt(p.X, p.Y+1), pt(p.X, p.Y-1)} {
					isSame(t, "Circle", pred.Circle(a, b, c, d), radius2.Cmp(dist2(pt(0, 0), d)), a, b, c, d)
				}
			}
		}
	}
}

// TestFlatCircles: circles that go far beyond all that may be, of points nearly on a line.
func TestFlatCircles(t *testing.T) {
	a, b, c := pt(-far, -far), pt(1, 0), pt(far, far)
	isSame(t, "turn", pred.Orient(a, b, c), 1)
	for _, p := range append(great(), pt(0, 0), pt(1, 0), pt(1, 1), pt(0, 1), pt(2, 1), pt(-1, 0)) {
		isCircle(t, a, b, c, p)
	}
	isSame(t, "Circle", pred.Circle(a, b, c, pt(0, 0)), 1)
	isSame(t, "Circle", pred.Circle(a, b, c, pt(2, 0)), -1)
}

// TestWhereCirclesBegin: which of the three comes first plays no part; the three are on their circle themselves.
func TestWhereCirclesBegin(t *testing.T) {
	l := append(mixed(8), great()...)
	fours(l, func(a, b, c, d api.Pt) {
		if pred.Orient(a, b, c) <= 0 {
			return
		}
		got := pred.Circle(a, b, c, d)
		isSame(t, "Circle from b", pred.Circle(b, c, a, d), got, a, b, c, d)
		isSame(t, "Circle from c", pred.Circle(c, a, b, d), got, a, b, c, d)
		if d == a || d == b || d == c {
			isSame(t, "Circle of its own", got, 0, a, b, c, d)
		}
	})
}

// TestNumbersAreNew: who writes into one answer's words doesn't change another answer.
func TestNumbersAreNew(t *testing.T) {
	a, b, c := pt(-far, -far), pt(far, -far), pt(3, far)
	for _, ask := range []func() num.Num{
		func() num.Num { return pred.Area2(a, b, c) },
		func() num.Num { return pred.Area2(c, b, a) },
		func() num.Num { return pred.Dist2(a, c) },
	} {
		first, second := ask(), ask()
		for i := range first.Mag[:cap(first.Mag)] {
			first.Mag[:cap(first.Mag)][i] ^= 0x5555
		}
		if num.Cmp(second, ask()) != 0 || num.Cmp(first, second) == 0 {
			t.Fatal(first, second)
		}
	}
}

// told is all that the calls answer of four points.
type told struct {
	turn, round                 int
	on, between, crosses, meets bool
	area, dist                  int
}

func tell(a, b, c, d api.Pt) told {
	area, _ := num.Int(pred.Area2(a, b, c))
	dist, _ := num.Int(pred.Dist2(a, d))
	return told{
		turn: pred.Orient(a, b, c), round: pred.Circle(a, b, c, d),
		on: pred.On(a, b, c), between: pred.Between(a, b, c),
		crosses: pred.Crosses(a, b, c, d), meets: pred.Meets(a, b, c, d),
		area: area, dist: dist,
	}
}

// TestFarther: of coordinates beyond what may be nothing is said, but there is an answer, and always the same.
func TestFarther(t *testing.T) {
	fours(square(math.MinInt, -far-1, 0, math.MaxInt), func(a, b, c, d api.Pt) {
		isSame(t, "an answer", tell(a, b, c, d), tell(a, b, c, d), a, b, c, d)
	})
}
