package tin_test

import (
	"math/big"
	"slices"
	"testing"

	"isohyet/api"
	"isohyet/frac"
	"isohyet/mag"
	"isohyet/mesh"
	"isohyet/num"
	"isohyet/steal"
)

const far = api.MaxCoord

func pt(x, y int) api.Pt {
	return api.Pt{X: x, Y: y}
}

// board are all points whose coordinates are any of those handed in.
func board(coords ...int) []api.Pt {
	var out []api.Pt
	for _, x := range coords {
		for _, y := range coords {
			out = append(out, pt(x, y))
		}
	}
	return out
}

// A dice tells numbers of mixed bits, always the same ones.
type dice uint64

// below is a number from 0 up to less than n.
func (d *dice) below(n int) int {
	*d = *d*6364136223846793005 + 1442695040888963407
	return int(*d>>31) % n
}

// mixed are n points, no farther than most from 0 to either side.
func mixed(d *dice, n, most int) []api.Pt {
	var out []api.Pt
	for range n {
		out = append(out, pt(d.below(2*most+1)-most, d.below(2*most+1)-most))
	}
	return out
}

// of is a divided by b.
func of(a, b int) frac.Frac {
	out, _ := frac.Make(num.Of(a), num.Of(b))
	return out
}

// shares are points and what they count: a point, and two numbers of which one is divided by the other one.
func shares(l ...int) []steal.Share {
	var out []steal.Share
	for i := 0; i < len(l); i += 3 {
		out = append(out, steal.Share{V: l[i], W: of(l[i+1], l[i+2])})
	}
	return out
}

// rat is a number as it is held against others.
func rat(a frac.Frac) *big.Rat {
	den := integer(a.Den)
	if den.Sign() == 0 {
		den.SetInt64(1)
	}
	n := integer(a.Num.Mag)
	if a.Num.Minus {
		n.Neg(n)
	}
	return new(big.Rat).SetFrac(n, den)
}

func integer(m mag.Mag) *big.Int {
	out := new(big.Int)
	for _, w := range slices.Backward(m) {
		out.Lsh(out, 64).Add(out, new(big.Int).SetUint64(w))
	}
	return out
}

func whole(n int) *big.Rat { return new(big.Rat).SetInt64(int64(n)) }

// addTimes adds n times a to a sum.
func addTimes(sum *big.Rat, n int, a frac.Frac) {
	sum.Add(sum, new(big.Rat).Mul(whole(n), rat(a)))
}

// isFrac tells it, if an answer isn't that number, or isn't right: a Rat is in lowest terms, and so is to be what is answered.
func isFrac(t *testing.T, what string, got frac.Frac, want *big.Rat, of ...any) {
	t.Helper()
	if rat(got).Cmp(want) != 0 {
		t.Fatalf("%s %v: got %v, want %v", what, of, rat(got), want)
	}
	isRight(t, what, got.Num.Mag, new(big.Int).Abs(want.Num()))
	isRight(t, what, got.Den, want.Denom())
	if got.Num.Minus && want.Sign() == 0 {
		t.Fatal(what, ": less than 0 by nothing")
	}
}

// isRight tells it, if words aren't those of that number, with no 0 at their end.
func isRight(t *testing.T, what string, m mag.Mag, want *big.Int) {
	t.Helper()
	if n := len(m); integer(m).Cmp(want) != 0 || n > 0 && m[n-1] == 0 {
		t.Fatalf("%s: words %v, want %v", what, m, want)
	}
}

// isShares tells it, if shares aren't those that are asked.
func isShares(t *testing.T, what string, got, want []steal.Share, of ...any) {
	t.Helper()
	isSame(t, "how many: "+what, len(got), len(want), of...)
	for i, s := range got {
		isSame(t, "the point: "+what, s.V, want[i].V, of...)
		isFrac(t, what, s.W, rat(want[i].W), of...)
	}
}

// isPoint tells it, if shares aren't of these points alone, each once and rising, above 0, 1 in all, or don't come to p. Of points that don't lie on a line, and of two at places of their own, no others are so.
func isPoint(t *testing.T, what string, m *mesh.Mesh, p api.Pt, points []int, got []steal.Share) {
	t.Helper()
	sum, x, y := new(big.Rat), new(big.Rat), new(big.Rat)
	last := -1
	for _, s := range got {
		isSame(t, "a point of those: "+what, slices.Contains(points, s.V), true, p, points, s.V)
		isSame(t, "rising: "+what, s.V > last, true, p, points, s.V)
		last = s.V
		isSame(t, "above 0: "+what, frac.Sign(s.W), 1, p, points, s.V)
		isFrac(t, what, s.W, rat(s.W), p, points)
		addTimes(sum, 1, s.W)
		addTimes(x, m.Pts[s.V].X, s.W)
		addTimes(y, m.Pts[s.V].Y, s.W)
	}
	isSame(t, "1 in all: "+what, sum.Cmp(whole(1)), 0, p, points, sum)
	isSame(t, "the point: "+what, x.Cmp(whole(p.X)) == 0 && y.Cmp(whole(p.Y)) == 0, true, p, points, x, y)
}

// isSame tells it, if an answer isn't the one that is asked.
func isSame[T comparable](t *testing.T, what string, got, want T, of ...any) {
	t.Helper()
	if got != want {
		t.Fatalf("%s %v: got %v, want %v", what, of, got, want)
	}
}

// isAsItWas tells it, if a mesh isn't like its copy any more.
func isAsItWas(t *testing.T, what string, m, was *mesh.Mesh) {
	t.Helper()
	if !slices.Equal(m.Pts, was.Pts) || !slices.Equal(m.Tris, was.Tris) {
		t.Fatalf("%s: the mesh was changed: %v, %v", what, m.Pts, m.Tris)
	}
}
