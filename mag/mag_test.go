package mag_test

import (
	"math"
	"math/big"
	"slices"
	"testing"

	"isohyet/mag"
)

const top = math.MaxUint64

// toBig is the number that words count, right or not.
func toBig(a mag.Mag) *big.Int {
	out := new(big.Int)
	for i := len(a) - 1; i >= 0; i-- {
		out.Lsh(out, 64)
		out.Or(out, new(big.Int).SetUint64(a[i]))
	}
	return out
}

// fromBig is the right magnitude of a number.
func fromBig(n *big.Int) mag.Mag {
	var out mag.Mag
	low, rest := new(big.Int).SetUint64(top), new(big.Int).Set(n)
	for rest.Sign() > 0 {
		out = append(out, new(big.Int).And(rest, low).Uint64())
		rest.Rsh(rest, 64)
	}
	return out
}

// maker makes words that are the same in each run; many of them are such that carries go far.
type maker uint64

func (k *maker) next() uint64 {
	*k ^= *k << 13
	*k ^= *k >> 7
	*k ^= *k << 17
	return uint64(*k)
}

func (k *maker) word() uint64 {
	switch w := k.next(); k.next() % 8 {
	case 0:
		return 0
	case 1:
		return top
	case 2:
		return 1 << 63
	case 3:
		return top - 1
	case 4:
		return w % 3
	default:
		return w
	}
}

// mag is of so many words, maybe with 0s at its end.
func (k *maker) mag(words int) mag.Mag {
	out := make(mag.Mag, words)
	for i := range out {
		out[i] = k.word()
	}
	return out
}

// samples are the edges, and words of all lengths up to some.
func samples() []mag.Mag {
	out := []mag.Mag{
		nil, {}, {0}, {0, 0, 0},
		{1}, {2}, {3}, {7}, {12}, {10, 0}, {1 << 32}, {1 << 63}, {top}, {top - 1}, {top, 0, 0},
		{0, 1}, {1, 1}, {top, 1}, {0, top}, {top, top}, {0, 1 << 63}, {top, 1 << 63}, {0, 1, 0},
		{0, 0, 1}, {1, 0, 1}, {0, 0, 1 << 63}, {top, top, top}, {top, top, top - 1}, {0, top, 0, 0},
		{0, 0, top - 1, 1 << 63}, {top, 0, 0, 1}, {0, 0, 0, 0, 0, 12},
	}
	k := maker(88172645463325252)
	for words := 1; words <= 12; words++ {
		out = append(out, k.mag(words), k.mag(words))
	}
	return out
}

// isNum tells it, if an answer isn't that number, or isn't right.
func isNum(t *testing.T, what string, got mag.Mag, want *big.Int) {
	t.Helper()
	if !slices.Equal(got, fromBig(want)) {
		t.Fatalf("%s: got %v, want %v", what, got, fromBig(want))
	}
}

// pairs hands any two samples on.
func pairs(do func(a, b mag.Mag, x, y *big.Int)) {
	l := samples()
	for _, a := range l {
		for _, b := range l {
			do(a, b, toBig(a), toBig(b))
		}
	}
}

func TestOf(t *testing.T) {
	for _, n := range []uint64{0, 1, 2, 1 << 63, top} {
		isNum(t, "Of", mag.Of(n), new(big.Int).SetUint64(n))
	}
}

func TestCmp(t *testing.T) {
	pairs(func(a, b mag.Mag, x, y *big.Int) {
		if got := mag.Cmp(a, b); got != x.Cmp(y) {
			t.Fatal(a, b, got)
		}
	})
}

func TestAdd(t *testing.T) {
	pairs(func(a, b mag.Mag, x, y *big.Int) {
		isNum(t, "Add", mag.Add(a, b), new(big.Int).Add(x, y))
	})
}

func TestSub(t *testing.T) {
	if got := mag.Sub(mag.Of(3), mag.Of(5)); len(got) != 0 {
		t.Fatal("below 0:", got)
	}
	pairs(func(a, b mag.Mag, x, y *big.Int) {
		want := new(big.Int).Sub(x, y)
		if want.Sign() < 0 {
			want.SetInt64(0)
		}
		isNum(t, "Sub", mag.Sub(a, b), want)
	})
}

func TestMul(t *testing.T) {
	pairs(func(a, b mag.Mag, x, y *big.Int) {
		isNum(t, "Mul", mag.Mul(a, b), new(big.Int).Mul(x, y))
	})
}

// isQuotient tells it, if these aren't quotient and rest.
func isQuotient(t *testing.T, a, b mag.Mag) {
	t.Helper()
	x, y := toBig(a), toBig(b)
	wantQ, wantR := new(big.Int), x
	if y.Sign() != 0 {
		wantQ, wantR = new(big.Int).QuoRem(x, y, new(big.Int))
	}
	q, r := mag.Div(a, b)
	isNum(t, "quotient", q, wantQ)
	isNum(t, "rest", r, wantR)
}

func TestDiv(t *testing.T) {
	if q, r := mag.Div(mag.Of(7), mag.Of(2)); !slices.Equal(q, mag.Mag{3}) || !slices.Equal(r, mag.Mag{1}) {
		t.Fatal(q, r)
	}
	pairs(func(a, b mag.Mag, x, y *big.Int) { isQuotient(t, a, b) })
}

func TestDivByNothing(t *testing.T) {
	for _, none := range []mag.Mag{nil, {}, {0}, {0, 0}} {
		for _, a := range samples() {
			q, r := mag.Div(a, none)
			isNum(t, "quotient", q, new(big.Int))
			isNum(t, "rest", r, toBig(a))
		}
	}
}

// TestDivGuesses: divisions in which a quotient's word, guessed from the highest words, is too great.
func TestDivGuesses(t *testing.T) {
	for _, p := range [][2]mag.Mag{
		{{0, 0, 1 << 63}, {top, 1 << 63}},
		{{0, 0, 1 << 63, 1<<63 - 1}, {1, 0, 1 << 63}},
		{{0, 0, 0, 1 << 63}, {1, 0, 1 << 63}},
		{{3, 0, 1 << 63}, {1, 0, 1 << 61}},
		{{0, top - 1, 1 << 63}, {top, 1 << 63}},
		{{0, 0, 1 << 63, 1 << 63}, {top, 0, 1 << 63, 1 << 63}},
		{{top, 0, top - 1, 1 << 63}, {0, top, 1 << 63}},
		{{0, 0, top, top}, {top, top, top}},
		{{0, 0, 0, 1}, {1, 1}},
	} {
		isQuotient(t, p[0], p[1])
	}
}

// TestDivNearly: what is by 1 less, or more, than a product.
func TestDivNearly(t *testing.T) {
	pairs(func(a, b mag.Mag, x, y *big.Int) {
		p := mag.Mul(a, b)
		isQuotient(t, p, b)
		isQuotient(t, mag.Sub(p, mag.Of(1)), b)
		isQuotient(t, mag.Add(p, mag.Of(1)), b)
	})
}

func isGcd(t *testing.T, a, b mag.Mag) {
	t.Helper()
	isNum(t, "Gcd", mag.Gcd(a, b), new(big.Int).GCD(nil, nil, toBig(a), toBig(b)))
}

func TestGcd(t *testing.T) {
	pairs(func(a, b mag.Mag, x, y *big.Int) { isGcd(t, a, b) })
}

func TestGcdOfMultiples(t *testing.T) {
	l := samples()
	pairs(func(a, b mag.Mag, x, y *big.Int) {
		c := l[(len(a)+3*len(b))%len(l)]
		isGcd(t, mag.Mul(a, c), mag.Mul(b, c))
		isGcd(t, mag.Mul(a, b), b)
	})
}

// TestGcdOfFibonaccis: all of Euclid's quotients are 1, and it goes the farthest.
func TestGcdOfFibonaccis(t *testing.T) {
	a, b := mag.Of(1), mag.Of(1)
	for range 1200 {
		a, b = b, mag.Add(a, b)
		isGcd(t, a, b)
		isGcd(t, mag.Mul(b, mag.Of(30)), mag.Mul(a, mag.Of(42)))
	}
}

func TestUpAndDown(t *testing.T) {
	for _, a := range samples() {
		x := toBig(a)
		for _, n := range []int{math.MinInt, -8192, -64, -1, 0, 1, 2, 31, 63, 64, 65, 127, 128, 130, 200, 500, 8191, 8192, 8193, 10000, math.MaxInt} {
			to := uint(max(0, min(n, 8192)))
			isNum(t, "Up", mag.Up(a, n), new(big.Int).Lsh(x, to))
			isNum(t, "Down", mag.Down(a, n), new(big.Int).Rsh(x, to))
		}
	}
}

// TestDownFar: of what is longer than the farthest shift something is left.
func TestDownFar(t *testing.T) {
	long := mag.Up(mag.Up(mag.Mag{5, top}, 8192), 8192)
	for _, n := range []int{8191, 8192, 8193, math.MaxInt} {
		isNum(t, "Down", mag.Down(long, n), new(big.Int).Rsh(toBig(long), uint(min(n, 8192))))
	}
	isNum(t, "Up", mag.Up(long, math.MaxInt), new(big.Int).Lsh(toBig(long), 8192))
}

func TestLenAndZeros(t *testing.T) {
	if mag.Zeros(mag.Of(12)) != 2 {
		t.Fatal("Zeros of 12")
	}
	for _, a := range append(samples(), mag.Up(mag.Of(1), 130), mag.Up(mag.Of(6), 8192)) {
		x := toBig(a)
		if got := mag.Len(a); got != x.BitLen() {
			t.Fatal("Len", a, got)
		}
		if got := mag.Zeros(a); got != int(x.TrailingZeroBits()) {
			t.Fatal("Zeros", a, got)
		}
	}
}

func TestManyWords(t *testing.T) {
	k := maker(2463534242)
	for _, n := range [][2]int{{400, 1}, {400, 2}, {300, 150}, {257, 256}, {200, 200}, {64, 500}} {
		a, b, c := k.mag(n[0]), k.mag(n[1]), k.mag(40)
		x, y := toBig(a), toBig(b)
		isNum(t, "Add", mag.Add(a, b), new(big.Int).Add(x, y))
		isNum(t, "Mul", mag.Mul(a, b), new(big.Int).Mul(x, y))
		isNum(t, "Sub", mag.Sub(mag.Add(a, b), b), x)
		isNum(t, "Down", mag.Down(mag.Up(a, 8192), 8192), x)
		isQuotient(t, a, b)
		isGcd(t, mag.Mul(a, c), mag.Mul(b, c))
		if mag.Cmp(a, b) != x.Cmp(y) || mag.Len(a) != x.BitLen() || mag.Zeros(b) != int(y.TrailingZeroBits()) {
			t.Fatal(n)
		}
	}
}
