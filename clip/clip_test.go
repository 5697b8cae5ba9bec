package clip_test

import (
	"math/big"
	"testing"

	"isohyet/api"
	"isohyet/clip"
	"isohyet/deci"
	"isohyet/frac"
	"isohyet/spot"
)

// rat is a number as it is reckoned with elsewhere.
func rat(a frac.Frac) *big.Rat {
	out, _ := new(big.Rat).SetString(deci.Print(a))
	return out
}

func TestValueInWords(t *testing.T) {
	h := clip.Half{A: of(1, 2), B: of(-3, 1), C: of(5, 4)}
	for _, x := range []struct {
		s    spot.Spot
		want frac.Frac
	}{
		{at(of(0, 1), of(0, 1)), of(-5, 4)},
		{at(of(5, 2), of(0, 1)), of(0, 1)},
		{at(of(4, 1), of(-1, 1)), of(15, 4)},
		{at(of(1, 3), of(1, 9)), of(-17, 12)},
		{spot.Spot{}, of(-5, 4)},
	} {
		isFrac(t, "Value", clip.Value(h, x.s), x.want)
	}
	isFrac(t, "Value just beyond", clip.Value(half(1, 0, 2), at(of(5, 2), of(9, 1))), of(1, 2))
	isFrac(t, "Value just within", clip.Value(half(1, 0, 2), at(of(3, 2), of(9, 1))), of(-1, 2))
	isFrac(t, "Value of what takes in all", clip.Value(clip.Half{}, at(of(3, 2), of(9, 1))), of(0, 1))
}

func TestValue(t *testing.T) {
	l := append(odd(), of(1, 2), of(-far, 1), of(1, far))
	for _, h := range halves() {
		for i, x := range l {
			y := l[(i*4+1)%len(l)]
			want := new(big.Rat).Mul(rat(h.A), rat(x))
			want.Add(want, new(big.Rat).Mul(rat(h.B), rat(y)))
			want.Sub(want, rat(h.C))
			if got := rat(clip.Value(h, at(x, y))); got.Cmp(want) != 0 {
				t.Fatal("Value:", h, x, y, got, want)
			}
		}
	}
}

// isNearer tells it, if the half-plane isn't of those points that are as near to p as to q, or nearer, as far as s shows it.
func isNearer(t *testing.T, p, q api.Pt, s spot.Spot) {
	t.Helper()
	want := frac.Cmp(spot.Dist2(s, spot.Of(p)), spot.Dist2(s, spot.Of(q)))
	isSame(t, "Nearer", frac.Sign(clip.Value(clip.Nearer(p, q), s)), want, p, q, text([]spot.Spot{s}))
}

// border is a point as far from p as from q: n times their distance to the left of their midst.
func border(p, q api.Pt, n frac.Frac) spot.Spot {
	mid := spot.Along(spot.Of(p), spot.Of(q), of(1, 2))
	wayX, wayY := frac.Sub(frac.Of(q.X), frac.Of(p.X)), frac.Sub(frac.Of(q.Y), frac.Of(p.Y))
	return at(frac.Sub(mid.X, frac.Mul(n, wayY)), frac.Add(mid.Y, frac.Mul(n, wayX)))
}

func TestNearer(t *testing.T) {
	bit := of(1, 1<<60)
	for _, l := range [][]api.Pt{board(-2, -1, 0, 1, 3), board(-far, -far+1, 0, far-1, far), mixed(20, far)} {
		for i, p := range l {
			for j, q := range l {
				if p == q {
					continue
				}
				isNearer(t, p, q, spot.Of(p))
				isNearer(t, p, q, spot.Of(q))
				isNearer(t, p, q, spot.Of(l[(i*3+j)%len(l)]))
				for _, n := range []frac.Frac{of(0, 1), of(1, 1), of(-7, 3)} {
					on := border(p, q, n)
					isFrac(t, "Value of the border", clip.Value(clip.Nearer(p, q), on), of(0, 1))
					isNearer(t, p, q, spot.Along(on, spot.Of(p), bit))
					isNearer(t, p, q, spot.Along(on, spot.Of(q), bit))
				}
			}
		}
	}
}

// TestNearerInWords: the half-plane of each is what lies beyond the other one's.
func TestNearerInWords(t *testing.T) {
	for _, x := range []struct {
		p, q       api.Pt
		in, on, to spot.Spot
	}{
		{pt(0, 0), pt(2, 0), at(of(1, 2), of(7, 1)), at(of(1, 1), of(-5, 1)), at(of(3, 2), of(0, 1))},
		{pt(3, 1), pt(3, -2), at(of(9, 1), of(0, 1)), at(of(1, 3), of(-1, 2)), at(of(0, 1), of(-1, 1))},
		{pt(-far, -far), pt(far, far), at(of(1, 1), of(-2, 1)), at(of(far, 1), of(-far, 1)), at(of(-1, 1), of(2, 1))},
		{pt(0, 0), pt(far, far), at(of(0, 1), of(far-1, 1)), at(of(far, 1), of(0, 1)), at(of(far, 1), of(1, 1))},
	} {
		here, there := clip.Nearer(x.p, x.q), clip.Nearer(x.q, x.p)
		for i, s := range []spot.Spot{x.in, x.on, x.to} {
			isSame(t, "Nearer", frac.Sign(clip.Value(here, s)), i-1, x.p, x.q)
			isSame(t, "Nearer to the other one", frac.Sign(clip.Value(there, s)), 1-i, x.p, x.q)
		}
	}
}
