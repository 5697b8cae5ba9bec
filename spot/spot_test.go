package spot_test

import (
	"math/big"
	"testing"

	"isohyet/api"
	"isohyet/frac"
	"isohyet/mag"
	"isohyet/num"
	"isohyet/spot"
)

func TestOf(t *testing.T) {
	for _, p := range append(mixed(50), pts(-far, -far+1, -1, 0, 1, 7, far)...) {
		isSpot(t, "Of", spot.Of(p), whole(p.X), whole(p.Y))
	}
}

func TestSameInWords(t *testing.T) {
	half, third := of(1, 2), of(1, 3)
	notLowest := frac.Frac{Num: num.Of(-3), Den: mag.Mag{6, 0}}
	for _, x := range []struct {
		a, b spot.Spot
		want bool
	}{
		{at(half, third), at(half, third), true},
		{at(half, third), at(third, half), false},
		{at(half, third), at(half, half), false},
		{at(half, third), at(third, third), false},
		{at(half, third), at(frac.Neg(half), third), false},
		{at(frac.Neg(half), third), at(notLowest, third), true},
		{spot.Spot{}, spot.Of(pt(0, 0)), true},
		{spot.Spot{}, spot.Of(pt(0, 1)), false},
	} {
		isSame(t, "Same", spot.Same(x.a, x.b), x.want, x.a, x.b)
		isSame(t, "Same", spot.Same(x.b, x.a), x.want, x.b, x.a)
	}
}

func TestSame(t *testing.T) {
	l := append(board(odd()...), small()...)
	for _, a := range l {
		for _, b := range l {
			want := rat(a.X).Cmp(rat(b.X)) == 0 && rat(a.Y).Cmp(rat(b.Y)) == 0
			isSame(t, "Same", spot.Same(a, b), want, a, b)
		}
	}
}

func TestAlongInWords(t *testing.T) {
	a, b := spot.Of(pt(1, 10)), spot.Of(pt(4, 4))
	for _, x := range []struct {
		t, x, y frac.Frac
	}{
		{of(0, 1), of(1, 1), of(10, 1)},
		{of(1, 1), of(4, 1), of(4, 1)},
		{of(1, 3), of(2, 1), of(8, 1)},
		{of(1, 2), of(5, 2), of(7, 1)},
		{of(2, 1), of(7, 1), of(-2, 1)},
		{of(-1, 4), of(1, 4), of(23, 2)},
		{frac.Frac{}, of(1, 1), of(10, 1)},
	} {
		isSpot(t, "Along", spot.Along(a, b, x.t), rat(x.x), rat(x.y))
	}
}

// weighed is a and t times what b is more than it.
func weighed(a, b, t frac.Frac) *big.Rat {
	left := sub(whole(1), rat(t))
	return add(mul(left, rat(a)), mul(rat(t), rat(b)))
}

func TestAlong(t *testing.T) {
	parts := append(odd(), of(0, 1), of(1, 1), of(1, 2), of(-3, 7))
	for _, l := range [][]spot.Spot{board(odd()...), small()} {
		for _, a := range l {
			for _, b := range l {
				for _, part := range parts {
					isSpot(t, "Along", spot.Along(a, b, part), weighed(a.X, b.X, part), weighed(a.Y, b.Y, part))
				}
			}
		}
	}
}

// dist2 is the square of a distance, multiplied out.
func dist2(a, b spot.Spot) *big.Rat {
	part := func(n, m frac.Frac) *big.Rat {
		squares := add(mul(rat(n), rat(n)), mul(rat(m), rat(m)))
		return sub(squares, mul(whole(2), mul(rat(n), rat(m))))
	}
	return add(part(a.X, b.X), part(a.Y, b.Y))
}

func TestDist2(t *testing.T) {
	isFrac(t, "Dist2", spot.Dist2(spot.Of(pt(1, 1)), spot.Of(pt(4, 5))), whole(25))
	isFrac(t, "Dist2", spot.Dist2(at(of(1, 2), of(1, 3)), at(of(-1, 2), of(2, 3))), big.NewRat(10, 9))
	isFrac(t, "Dist2", spot.Dist2(spot.Of(pt(-far, far)), spot.Of(pt(far, -far))), mul(whole(1<<33), whole(1<<32)))
	for _, l := range [][]spot.Spot{board(odd()...), small()} {
		for _, a := range l {
			for _, b := range l {
				isFrac(t, "Dist2", spot.Dist2(a, b), dist2(a, b))
			}
		}
	}
}

// told is all that the calls answer of three spots.
func told(a, b, c spot.Spot) []frac.Frac {
	along := spot.Along(a, b, c.X)
	out := []frac.Frac{along.X, along.Y, spot.Area2(a, b, c), spot.Dist2(a, b), frac.Of(spot.Side(a, b, c))}
	for _, yes := range []bool{spot.Same(a, b), spot.On(a, b, c)} {
		if yes {
			out = append(out, frac.Of(1))
		}
	}
	for _, w := range spot.Shares(pt(0, 0), pt(3, 1), pt(1, 5), a) {
		out = append(out, w)
	}
	return out
}

// roomy is a number with more room behind its words, with some there that nobody may touch.
func roomy(a frac.Frac) frac.Frac {
	more := func(m mag.Mag) mag.Mag { return append(append(mag.Mag{}, m...), 4711, 4711)[:len(m)] }
	return frac.Frac{Num: num.Num{Minus: a.Num.Minus, Mag: more(a.Num.Mag)}, Den: more(a.Den)}
}

// isUntouched tells it, if a roomy number, or what lies behind it, isn't as it was.
func isUntouched(t *testing.T, got, was frac.Frac) {
	t.Helper()
	for _, x := range [][2]mag.Mag{{got.Num.Mag, was.Num.Mag}, {got.Den, was.Den}} {
		n := len(x[1])
		for i, w := range x[0][:n+2] {
			if i < n && w != x[1][i] || i >= n && w != 4711 {
				t.Fatal("an argument is touched:", x[0][:n+2], x[1])
			}
		}
	}
	isSame(t, "minus", got.Num.Minus, was.Num.Minus)
}

// TestArgumentsStay: what is handed in isn't changed, nor the list of an area's corners, nor what lies behind either.
func TestArgumentsStay(t *testing.T) {
	l := board(odd()...)
	for i, a := range l {
		b, c := l[(i*5+3)%len(l)], l[(i*11+20)%len(l)]
		var args []spot.Spot
		for _, s := range []spot.Spot{a, b, c, a} {
			args = append(args, at(roomy(s.X), roomy(s.Y)))
		}
		told(args[0], args[1], args[2])
		spot.Area2(args[:3]...)
		for j, s := range []spot.Spot{a, b, c, a} {
			isUntouched(t, args[j].X, s.X)
			isUntouched(t, args[j].Y, s.Y)
		}
	}
}

// spoil writes into all the room that a number's words have.
func spoil(a frac.Frac) {
	for _, m := range []mag.Mag{a.Num.Mag, a.Den} {
		m = m[:cap(m)]
		for i := range m {
			m[i] ^= 0x5555
		}
	}
}

// TestAnswersAreNew: who writes into an answer's words doesn't change what was handed in, nor another answer.
func TestAnswersAreNew(t *testing.T) {
	l := small()
	for i, a := range l {
		b, c := l[(i*5+3)%len(l)], l[(i*11+20)%len(l)]
		a, b, c := at(roomy(a.X), roomy(a.Y)), at(roomy(b.X), roomy(b.Y)), at(roomy(c.X), roomy(c.Y))
		first, second, want := told(a, b, c), told(a, b, c), []*big.Rat{}
		for _, n := range first {
			want = append(want, rat(n))
		}
		for j, n := range first {
			spoil(n)
			for k := j + 1; k < len(first); k++ {
				isFrac(t, "beside a spoiled one", first[k], want[k])
			}
		}
		for j, n := range second {
			isFrac(t, "behind a spoiled one", n, want[j])
		}
		for j, n := range told(a, b, c) {
			isFrac(t, "asked again", n, want[j])
		}
	}
}

// TestFarther: of coordinates beyond what may be, and of shares of a line, nothing is said, but there is an answer, and always the same.
func TestFarther(t *testing.T) {
	triples(pts(-1<<63, -far-1, 0, 1<<63-1), func(a, b, c api.Pt) {
		first, ok := spot.Centre(a, b, c)
		second, again := spot.Centre(a, b, c)
		isSame(t, "Centre", ok == again && spot.Same(first, second), true, a, b, c)
		w, v := spot.Shares(a, b, c, spot.Of(a)), spot.Shares(a, b, c, spot.Of(a))
		for i := range w {
			isSame(t, "Shares", frac.Same(w[i], v[i]), true, a, b, c)
		}
	})
}
