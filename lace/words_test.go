package lace_test

import (
	"math"
	"math/big"
	"slices"
	"testing"

	"isohyet/api"
	"isohyet/cavity"
	"isohyet/frac"
	"isohyet/mag"
	"isohyet/mesh"
	"isohyet/num"
	"isohyet/spot"
	"isohyet/steal"
)

// of is a divided by b.
func of(a, b int) frac.Frac {
	out, _ := frac.Make(num.Of(a), num.Of(b))
	return out
}

// rat is a number as it is held against others.
func rat(a frac.Frac) *big.Rat {
	den := integer(a.Den)
	if den.Sign() == 0 {
		den.SetInt64(1)
	}
	n := integer(a.Num.Mag)
	if a.Num.Minus {
		n.Neg(n)
	}
	return new(big.Rat).SetFrac(n, den)
}

func integer(m mag.Mag) *big.Int {
	out := new(big.Int)
	for _, w := range slices.Backward(m) {
		out.Lsh(out, 64).Add(out, new(big.Int).SetUint64(w))
	}
	return out
}

// fracOf is a number as it is handed in.
func fracOf(a *big.Rat) frac.Frac {
	return frac.Frac{Num: num.Num{Minus: a.Sign() < 0, Mag: words(a.Num())}, Den: words(a.Denom())}
}

// words are those of a number, or of what it is less than 0.
func words(n *big.Int) mag.Mag {
	var out mag.Mag
	for n = new(big.Int).Abs(n); n.Sign() > 0; n.Rsh(n, 64) {
		out = append(out, new(big.Int).And(n, new(big.Int).SetUint64(math.MaxUint64)).Uint64())
	}
	return out
}

func spotOf(c corner) spot.Spot {
	return spot.Spot{X: fracOf(c.x), Y: fracOf(c.y)}
}

func add(a, b *big.Rat) *big.Rat { return new(big.Rat).Add(a, b) }
func sub(a, b *big.Rat) *big.Rat { return new(big.Rat).Sub(a, b) }
func mul(a, b *big.Rat) *big.Rat { return new(big.Rat).Mul(a, b) }
func quo(a, b *big.Rat) *big.Rat { return new(big.Rat).Quo(a, b) }

func ratio(n int) *big.Rat { return new(big.Rat).SetInt(whole(n)) }

// A corner is a point with rational coordinates.
type corner struct{ x, y *big.Rat }

// middle is what is as far from each of three points: of two of them that is so on a line, and those of both pairs meet there.
func middle(a, b, c api.Pt) corner {
	line := func(p, q api.Pt) (x, y, n *big.Int) {
		square := func(p api.Pt) *big.Int {
			return less(whole(p.X), whole(p.X), whole(p.Y), whole(-p.Y))
		}
		return whole(2 * (q.X - p.X)), whole(2 * (q.Y - p.Y)), new(big.Int).Sub(square(q), square(p))
	}
	x, y, n := line(a, b)
	u, v, o := line(a, c)
	all := less(x, v, y, u)
	return corner{new(big.Rat).SetFrac(less(n, v, y, o), all), new(big.Rat).SetFrac(less(x, o, n, u), all)}
}

// under is twice the area of a polygon: the sum of what lies under each of its sides, less what lies under those back.
func under(l ...corner) *big.Rat {
	out := new(big.Rat)
	for i, s := range l {
		next := l[(i+1)%len(l)]
		out.Add(out, mul(sub(s.x, next.x), add(s.y, next.y)))
	}
	return out
}

// cornersOf are those of a point's cell, by the chapter's words.
func cornersOf(m *mesh.Mesh, p api.Pt, c cavity.Cavity) []corner {
	var out []corner
	for _, s := range c.Rim {
		out = append(out, middle(p, m.Pts[s.A], m.Pts[s.B]))
	}
	return out
}

// laced is, of each point of the rim, how long its side of the cell is, as many times as it is away: that side lies half of the way to it, so that twice the area of the point and the side is half of how long they are, one times the other.
func laced(m *mesh.Mesh, p api.Pt, c cavity.Cavity) []*big.Rat {
	cell := cornersOf(m, p, c)
	var out []*big.Rat
	for i, s := range c.Rim {
		last := (i + len(c.Rim) - 1) % len(c.Rim)
		area := under(cornerAt(p), cell[last], cell[i])
		out = append(out, quo(mul(ratio(2), area), square(p, m.Pts[s.A])))
	}
	return out
}

// square is that of two points' distance.
func square(p, q api.Pt) *big.Rat {
	x, y := sub(ratio(q.X), ratio(p.X)), sub(ratio(q.Y), ratio(p.Y))
	return add(mul(x, x), mul(y, y))
}

func cornerAt(p api.Pt) corner {
	return corner{ratio(p.X), ratio(p.Y)}
}

// beside is as many times the way from p to v, from p on, and then as many times that way turned to the left.
func beside(p, v api.Pt, ahead, left *big.Rat) corner {
	x, y := sub(ratio(v.X), ratio(p.X)), sub(ratio(v.Y), ratio(p.Y))
	at := cornerAt(p)
	return corner{
		add(at.x, sub(mul(ahead, x), mul(left, y))),
		add(at.y, add(mul(ahead, y), mul(left, x))),
	}
}

// isFrac tells it, if an answer isn't that number, or isn't right: a Rat is in lowest terms, and so is to be what is answered.
func isFrac(t *testing.T, what string, got frac.Frac, want *big.Rat, of ...any) {
	t.Helper()
	if rat(got).Cmp(want) != 0 {
		t.Fatalf("%s %v: got %v, want %v", what, of, rat(got), want)
	}
	isRight(t, what, got.Num.Mag, new(big.Int).Abs(want.Num()))
	isRight(t, what, got.Den, want.Denom())
	if got.Num.Minus && want.Sign() == 0 {
		t.Fatal(what, ": less than 0 by nothing")
	}
}

// isRight tells it, if words aren't those of that number, with no 0 at their end.
func isRight(t *testing.T, what string, m mag.Mag, want *big.Int) {
	t.Helper()
	if n := len(m); integer(m).Cmp(want) != 0 || n > 0 && m[n-1] == 0 {
		t.Fatalf("%s: words %v, want %v", what, m, want)
	}
}

// isShares tells it, if shares aren't those that are asked, of these points.
func isShares(t *testing.T, what string, got []steal.Share, points []int, want []*big.Rat, of ...any) {
	t.Helper()
	isSame(t, "how many: "+what, len(got), len(want), of...)
	for i, s := range got {
		isSame(t, "the point: "+what, s.V, points[i], of...)
		isFrac(t, what, s.W, want[i], of...)
	}
}

// isAlike tells it, if shares aren't those that were told before.
func isAlike(t *testing.T, what string, got, want []steal.Share, of ...any) {
	t.Helper()
	points, weights := parted(want)
	isShares(t, what, got, points, weights, of...)
}

// parted are shares' points, and their weights.
func parted(l []steal.Share) ([]int, []*big.Rat) {
	var points []int
	var weights []*big.Rat
	for _, s := range l {
		points, weights = append(points, s.V), append(weights, rat(s.W))
	}
	return points, weights
}
