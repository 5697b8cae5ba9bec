package lace_test

import (
	"math"
	"math/big"
	"slices"
	"testing"

	"isohyet/api"
	"isohyet/frac"
	"isohyet/lace"
	"isohyet/mag"
	"isohyet/num"
	"isohyet/spot"
)

// TestRatioInWords: lines to the left and to the right, before, at and beyond the other point, of no length, and of parts of 1.
func TestRatioInWords(t *testing.T) {
	for _, x := range []struct {
		what       string
		p, v       api.Pt
		aX, aY     frac.Frac
		bX, bY     frac.Frac
		long, away int
	}{
		{"to the left", pt(1, 2), pt(1, 5), of(7, 1), of(3, 1), of(1, 1), of(3, 1), 2, 1},
		{"to the right", pt(1, 2), pt(1, 5), of(1, 1), of(3, 1), of(7, 1), of(3, 1), -2, 1},
		{"of no length", pt(1, 2), pt(1, 5), of(7, 1), of(3, 1), of(7, 1), of(3, 1), 0, 1},
		{"half of the way", pt(0, 0), pt(2, 0), of(1, 1), of(-1, 2), of(1, 1), of(1, 2), 1, 2},
		{"at the other point", pt(0, 0), pt(2, 0), of(2, 1), of(0, 1), of(2, 1), of(3, 1), 3, 2},
		{"through the point", pt(0, 0), pt(2, 0), of(0, 1), of(-1, 1), of(0, 1), of(1, 1), 1, 1},
		{"beyond the other point", pt(0, 0), pt(2, 0), of(9, 1), of(-1, 1), of(9, 1), of(1, 1), 1, 1},
		{"behind the point: the other way round it", pt(0, 0), pt(2, 0), of(-9, 1), of(-1, 1), of(-9, 1), of(1, 1), 1, 1},
		{"to one side of it all", pt(0, 0), pt(2, 0), of(1, 1), of(8, 1), of(1, 1), of(9, 1), 1, 2},
		{"down", pt(0, 0), pt(0, -3), of(-1, 3), of(-1, 1), of(1, 3), of(-1, 1), 2, 9},
		{"back", pt(5, 5), pt(1, 5), of(3, 1), of(6, 1), of(3, 1), of(5, 1), 1, 4},
		{"a slope", pt(0, 0), pt(3, 4), of(4, 1), of(-3, 1), of(-4, 1), of(3, 1), 2, 1},
		{"a slope, parts of 1", pt(1, 1), pt(2, 3), of(1, 2), of(1, 3), of(-7, 10), of(14, 15), 3, 5},
	} {
		got := lace.Ratio(x.p, x.v, spot.Spot{X: x.aX, Y: x.aY}, spot.Spot{X: x.bX, Y: x.bY})
		isFrac(t, "Ratio: "+x.what, got, rat(of(x.long, x.away)))
	}
}

// uprights goes through lines that stand upright on the way from one of these points to another one: from so many times that way to its left up to so many.
func uprights(l []api.Pt, do func(p, v api.Pt, a, b corner, want *big.Rat)) {
	shares := []*big.Rat{ratio(0), ratio(1), ratio(-3), big.NewRat(1, 2), big.NewRat(-7, 3), big.NewRat(1, 1<<62), new(big.Rat).SetInt(new(big.Int).Lsh(whole(1), 130))}
	d := dice(len(l))
	for _, p := range l {
		for _, v := range l {
			if p == v {
				continue
			}
			ahead := shares[d.below(len(shares))]
			for _, from := range shares {
				to := shares[d.below(len(shares))]
				do(p, v, beside(p, v, ahead, from), beside(p, v, ahead, to), sub(to, from))
			}
		}
	}
}

// places are small boards, those at both ends of MaxCoord, and points of any numbers: of those nothing else is said.
func places() [][]api.Pt {
	d := dice(17)
	return [][]api.Pt{
		board(-2, -1, 0, 1, 2),
		board(-far, -far+1, 0, far-1, far),
		board(math.MinInt, -1, 0, math.MaxInt),
		mixed(&d, 20, 50),
		mixed(&d, 20, far),
	}
}

// TestRatio: the way that is added at the left is what is told, wherever the line stands; the other way round it is less than 0 by it.
func TestRatio(t *testing.T) {
	for _, l := range places() {
		uprights(l, func(p, v api.Pt, a, b corner, want *big.Rat) {
			isFrac(t, "Ratio", lace.Ratio(p, v, spotOf(a), spotOf(b)), want, p, v, a, b)
			isFrac(t, "Ratio of the line back", lace.Ratio(p, v, spotOf(b), spotOf(a)), new(big.Rat).Neg(want), p, v, a, b)
			isFrac(t, "Ratio from the other point", lace.Ratio(v, p, spotOf(a), spotOf(b)), new(big.Rat).Neg(want), p, v, a, b)
		})
	}
}

// loose is a spot whose numbers aren't in lowest terms, nor right.
func loose(c corner) spot.Spot {
	times := func(a *big.Rat, n int) frac.Frac {
		den := append(words(new(big.Int).Mul(a.Denom(), whole(n))), 0)
		if a.IsInt() && n == 1 {
			den = mag.Mag{0}
		}
		up := append(words(new(big.Int).Mul(a.Num(), whole(n))), 0, 0)
		return frac.Frac{Num: num.Num{Minus: a.Sign() <= 0, Mag: up}, Den: den}
	}
	return spot.Spot{X: times(c.x, 6), Y: times(c.y, 1)}
}

// apart is a spot of which no number is the same memory.
func apart(s spot.Spot) spot.Spot {
	copied := func(a frac.Frac) frac.Frac {
		a.Num.Mag, a.Den = slices.Clone(a.Num.Mag), slices.Clone(a.Den)
		return a
	}
	return spot.Spot{X: copied(s.X), Y: copied(s.Y)}
}

// isUntouched tells it, if a spot isn't word by word what it was.
func isUntouched(t *testing.T, s, was spot.Spot) {
	t.Helper()
	for _, x := range [][2]frac.Frac{{s.X, was.X}, {s.Y, was.Y}} {
		isSame(t, "the sign was changed", x[0].Num.Minus, x[1].Num.Minus)
		isList(t, "the number was changed", x[0].Num.Mag, x[1].Num.Mag)
		isList(t, "what divides it was changed", x[0].Den, x[1].Den)
	}
}

// TestRatioOfLoose: numbers that aren't in lowest terms, nor right, count as what they are, and stay as they were.
func TestRatioOfLoose(t *testing.T) {
	for _, l := range places() {
		uprights(l, func(p, v api.Pt, a, b corner, want *big.Rat) {
			from, to := loose(a), loose(b)
			wasFrom, wasTo := apart(from), apart(to)
			isFrac(t, "Ratio", lace.Ratio(p, v, from, to), want, p, v, a, b)
			isUntouched(t, from, wasFrom)
			isUntouched(t, to, wasTo)
		})
	}
	// A spot that nobody filled is 0, 0.
	isFrac(t, "Ratio", lace.Ratio(pt(-1, 0), pt(1, 0), spot.Spot{}, spot.Of(pt(0, 3))), big.NewRat(3, 2))
}

// TestRatioOfOthers: of a point and itself, and of lines that don't stand upright, nothing is said, but there is an answer, and always the same.
func TestRatioOfOthers(t *testing.T) {
	l := board(math.MinInt, -far, 0, 1, far)
	d := dice(1)
	for _, p := range l {
		for range l {
			v, a, b := l[d.below(len(l))], spot.Of(l[d.below(len(l))]), spot.Of(l[d.below(len(l))])
			isFrac(t, "Ratio", lace.Ratio(p, p, a, b), rat(lace.Ratio(p, p, a, b)), p, a, b)
			isFrac(t, "Ratio", lace.Ratio(p, v, a, b), rat(lace.Ratio(p, v, a, b)), p, v, a, b)
		}
	}
}
