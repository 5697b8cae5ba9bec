package pred_test

import (
	"math/big"
	"slices"
	"testing"

	"isohyet/api"
	"isohyet/num"
)

const far = api.MaxCoord

func pt(x, y int) api.Pt {
	return api.Pt{X: x, Y: y}
}

// square are the points whose coordinates are any of those handed in.
func square(coords ...int) []api.Pt {
	var out []api.Pt
	for _, x := range coords {
		for _, y := range coords {
			out = append(out, pt(x, y))
		}
	}
	return out
}

// small are the points of a board of n by n, about 0.
func small(n int) []api.Pt {
	var coords []int
	for i := range n {
		coords = append(coords, i-n/2)
	}
	return square(coords...)
}

// great are points at the corners of what may be, and beside them.
func great() []api.Pt {
	return square(-far, -far+1, far-1, far)
}

// mixed are n points of mixed bits, anywhere.
func mixed(n int) []api.Pt {
	var out []api.Pt
	state := uint64(0x9e3779b97f4a7c15)
	next := func() int {
		state = state*6364136223846793005 + 1442695040888963407
		return int(state>>31) - far
	}
	for range n {
		out = append(out, pt(next(), next()))
	}
	return out
}

// triples hands any three of l on.
func triples(l []api.Pt, do func(a, b, c api.Pt)) {
	for _, a := range l {
		for _, b := range l {
			for _, c := range l {
				do(a, b, c)
			}
		}
	}
}

// fours hands any four of l on.
func fours(l []api.Pt, do func(a, b, c, d api.Pt)) {
	triples(l, func(a, b, c api.Pt) {
		for _, d := range l {
			do(a, b, c, d)
		}
	})
}

func whole(n int) *big.Int {
	return big.NewInt(int64(n))
}

// det is a d less b c.
func det(a, b, c, d *big.Int) *big.Int {
	out := new(big.Int).Mul(a, d)
	return out.Sub(out, new(big.Int).Mul(b, c))
}

// across is the way from a to b.
func across(a, b api.Pt) (*big.Int, *big.Int) {
	return whole(b.X - a.X), whole(b.Y - a.Y)
}

// area2 is twice the area of a, b, c: what it has under each of its edges, the next one's x times y less y times x.
func area2(a, b, c api.Pt) *big.Int {
	out := new(big.Int)
	for _, e := range [][2]api.Pt{{a, b}, {b, c}, {c, a}} {
		out.Add(out, det(whole(e[0].X), whole(e[0].Y), whole(e[1].X), whole(e[1].Y)))
	}
	return out
}

func dist2(a, b api.Pt) *big.Int {
	x, y := across(a, b)
	return det(x, new(big.Int).Neg(y), y, x)
}

// isNum tells it, if a Num isn't that number, or isn't right.
func isNum(t *testing.T, what string, got num.Num, want *big.Int) {
	t.Helper()
	size := new(big.Int)
	for _, w := range slices.Backward(got.Mag) {
		size.Lsh(size, 64).Add(size, new(big.Int).SetUint64(w))
	}
	n := len(got.Mag)
	if size.CmpAbs(want) != 0 || got.Minus != (want.Sign() < 0) || n > 0 && got.Mag[n-1] == 0 {
		t.Fatalf("%s: got %v, want %v", what, got, want)
	}
}

// isSame tells it, if an answer isn't the one that is asked.
func isSame[T comparable](t *testing.T, what string, got, want T, l ...api.Pt) {
	t.Helper()
	if got != want {
		t.Fatalf("%s of %v: got %v, want %v", what, l, got, want)
	}
}
