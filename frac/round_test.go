package frac_test

import (
	"math/big"
	"testing"

	"isohyet/frac"
	"isohyet/mag"
	"isohyet/num"
)

// floor is the greatest whole number not above x.
func floor(x *big.Rat) *big.Int {
	// A Rat's denominator is above 0, where Euclid's quotient goes down.
	return new(big.Int).Div(x.Num(), x.Denom())
}

// nearest is the nearest whole number; of two the even one.
func nearest(x *big.Rat) *big.Int {
	down := floor(x)
	left := new(big.Rat).Sub(x, new(big.Rat).SetInt(down))
	if side := left.Cmp(big.NewRat(1, 2)); side > 0 || side == 0 && down.Bit(0) == 1 {
		down.Add(down, big.NewInt(1))
	}
	return down
}

func TestFloorAndRoundOfSmallNumbers(t *testing.T) {
	for _, x := range [][4]int{
		{5, 2, 2, 2}, {7, 2, 3, 4}, {-5, 2, -3, -2}, {-7, 2, -4, -4}, {1, 2, 0, 0}, {-1, 2, -1, 0}, {3, 2, 1, 2}, {-3, 2, -2, -2},
		{8, 3, 2, 3}, {-8, 3, -3, -3}, {7, 3, 2, 2}, {-7, 3, -3, -2}, {1, 3, 0, 0}, {-1, 3, -1, 0}, {2, 3, 0, 1}, {-2, 3, -1, -1},
		{0, 7, 0, 0}, {3, 1, 3, 3}, {-3, 1, -3, -3}, {5, 0, 5, 5}, {-4, 0, -4, -4}, {12, 4, 3, 3}, {10, 4, 2, 2}, {-14, 4, -4, -4},
	} {
		a := of(x[0], x[1])
		isNum(t, "Floor", frac.Floor(a), big.NewInt(int64(x[2])))
		isNum(t, "Round", frac.Round(a), big.NewInt(int64(x[3])))
	}
}

func TestFloorAndRound(t *testing.T) {
	for _, a := range samples() {
		isNum(t, "Floor", frac.Floor(a), floor(value(a)))
		isNum(t, "Round", frac.Round(a), nearest(value(a)))
	}
}

// TestRoundAtItsEdge: a half, and what is a little off it, of numbers of any size, to either side of 0, even and odd.
func TestRoundAtItsEdge(t *testing.T) {
	for _, n := range nums() {
		for _, d := range []mag.Mag{{2}, {6}, {1 << 63}, {0, 1}, {top - 1, top, 0}} {
			half := frac.Add(frac.Whole(n), of(1, 2))
			bit, _ := frac.Make(num.Of(1), num.Num{Mag: d})
			for _, a := range []frac.Frac{half, frac.Add(half, bit), frac.Sub(half, bit)} {
				isNum(t, "Round", frac.Round(a), nearest(value(a)))
				isNum(t, "Floor", frac.Floor(a), floor(value(a)))
			}
		}
	}
}
