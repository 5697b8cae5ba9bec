package spot_test

import (
	"math/big"
	"slices"
	"testing"

	"isohyet/api"
	"isohyet/frac"
	"isohyet/mag"
	"isohyet/num"
	"isohyet/spot"
)

const far = api.MaxCoord

func pt(x, y int) api.Pt {
	return api.Pt{X: x, Y: y}
}

// of is a divided by b, in lowest terms.
func of(a, b int) frac.Frac {
	out, _ := frac.Make(num.Of(a), num.Of(b))
	return out
}

func at(x, y frac.Frac) spot.Spot {
	return spot.Spot{X: x, Y: y}
}

// odd are numbers as anybody may hand them in: in lowest terms and not, right and not, small and great.
func odd() []frac.Frac {
	minus := func(m ...uint64) num.Num { return num.Num{Minus: true, Mag: m} }
	plus := func(m ...uint64) num.Num { return num.Num{Mag: m} }
	return []frac.Frac{
		{},
		{Num: minus(0, 0), Den: mag.Mag{6}},
		{Num: plus(2, 0), Den: mag.Mag{0, 0}},
		{Num: minus(6), Den: mag.Mag{4, 0}},
		{Num: plus(10, 10), Den: mag.Mag{6, 6}},
		{Num: minus(1), Den: mag.Mag{0, 0, 3}},
		{Num: plus(7, 0, 0, 1), Den: mag.Mag{5, 9}},
	}
}

// board are the spots whose coordinates are any of those handed in.
func board(coords ...frac.Frac) []spot.Spot {
	var out []spot.Spot
	for _, x := range coords {
		for _, y := range coords {
			out = append(out, at(x, y))
		}
	}
	return out
}

// small are spots that lie close beside each other, many of them on lines with others.
func small() []spot.Spot {
	return board(of(-1, 1), of(-1, 2), of(0, 1), of(1, 3), of(1, 2), of(2, 3))
}

// pts are the points whose coordinates are any of those handed in.
func pts(coords ...int) []api.Pt {
	var out []api.Pt
	for _, x := range coords {
		for _, y := range coords {
			out = append(out, pt(x, y))
		}
	}
	return out
}

// mixed are n points of mixed bits, anywhere.
func mixed(n int) []api.Pt {
	var out []api.Pt
	state := uint64(0x9e3779b97f4a7c15)
	next := func() int {
		state = state*6364136223846793005 + 1442695040888963407
		return int(state>>31) - far
	}
	for range n {
		out = append(out, pt(next(), next()))
	}
	return out
}

// triples hands any three of l on.
func triples[T any](l []T, do func(a, b, c T)) {
	for _, a := range l {
		for _, b := range l {
			for _, c := range l {
				do(a, b, c)
			}
		}
	}
}

// rat is a number as it is held against others.
func rat(a frac.Frac) *big.Rat {
	den := integer(a.Den)
	if den.Sign() == 0 {
		den.SetInt64(1)
	}
	n := integer(a.Num.Mag)
	if a.Num.Minus {
		n.Neg(n)
	}
	return new(big.Rat).SetFrac(n, den)
}

func integer(m mag.Mag) *big.Int {
	out := new(big.Int)
	for _, w := range slices.Backward(m) {
		out.Lsh(out, 64).Add(out, new(big.Int).SetUint64(w))
	}
	return out
}

func whole(n int) *big.Rat {
	return new(big.Rat).SetInt64(int64(n))
}

func add(a, b *big.Rat) *big.Rat { return new(big.Rat).Add(a, b) }
func sub(a, b *big.Rat) *big.Rat { return new(big.Rat).Sub(a, b) }
func mul(a, b *big.Rat) *big.Rat { return new(big.Rat).Mul(a, b) }

// isFrac tells it, if an answer isn't that number, or isn't right: a Rat is in lowest terms, and so is to be what is answered.
func isFrac(t *testing.T, what string, got frac.Frac, want *big.Rat) {
	t.Helper()
	if rat(got).Cmp(want) != 0 {
		t.Fatalf("%s: got %v, want %v", what, rat(got), want)
	}
	isRight(t, what, got.Num.Mag, new(big.Int).Abs(want.Num()))
	isRight(t, what, got.Den, want.Denom())
	if got.Num.Minus && want.Sign() == 0 {
		t.Fatal(what, ": less than 0 by nothing")
	}
}

// isRight tells it, if words aren't those of that number, with no 0 at their end.
func isRight(t *testing.T, what string, m mag.Mag, want *big.Int) {
	t.Helper()
	if n := len(m); integer(m).Cmp(want) != 0 || n > 0 && m[n-1] == 0 {
		t.Fatalf("%s: words %v, want %v", what, m, want)
	}
}

func isSpot(t *testing.T, what string, got spot.Spot, x, y *big.Rat) {
	t.Helper()
	isFrac(t, what+", x", got.X, x)
	isFrac(t, what+", y", got.Y, y)
}

// isSame tells it, if an answer isn't the one that is asked.
func isSame[T comparable](t *testing.T, what string, got, want T, of ...any) {
	t.Helper()
	if got != want {
		t.Fatalf("%s of %v: got %v, want %v", what, of, got, want)
	}
}
