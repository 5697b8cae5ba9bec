package num_test

import (
	"math"
	"math/big"
	"slices"
	"testing"

	"isohyet/mag"
	"isohyet/num"
)

const top = math.MaxUint64

// value is the number that a Num counts, right or not.
func value(a num.Num) *big.Int {
	out := new(big.Int)
	for _, w := range slices.Backward(a.Mag) {
		out.Lsh(out, 64).Or(out, new(big.Int).SetUint64(w))
	}
	if a.Minus {
		out.Neg(out)
	}
	return out
}

// right tells whether a Num is as answers have to be.
func right(a num.Num) bool {
	n := len(a.Mag)
	if n == 0 {
		return !a.Minus
	}
	return a.Mag[n-1] != 0
}

// magnitudes are the edges, some of them with 0s at their end, and some of many words.
func magnitudes() []mag.Mag {
	return []mag.Mag{
		nil, {}, {0}, {0, 0},
		{1}, {2}, {3}, {5}, {7}, {6, 0, 0}, {1 << 31}, {1 << 62},
		{1<<63 - 1}, {1 << 63}, {1<<63 + 1}, {1 << 63, 0}, {top - 1}, {top}, {top, 0},
		{0, 1}, {1, 1}, {7, 1 << 63}, {top, top}, {0, 1, 0},
		{0, 0, 1}, {top, 0, 1}, {top, top, top}, {0x9e3779b97f4a7c15, 0xbf58476d1ce4e5b9, 0x94d049bb133111eb},
		{0, 0, 0, 0, 1 << 63}, {3, 0, 0, top, 0, 0, 5},
	}
}

// samples are the magnitudes, above 0 and below; those of 0 have a Minus, too.
func samples() []num.Num {
	var out []num.Num
	for _, m := range magnitudes() {
		out = append(out, num.Num{Mag: m}, num.Num{Minus: true, Mag: m})
	}
	return out
}

// isNum tells it, if an answer isn't that number, or isn't right.
func isNum(t *testing.T, what string, got num.Num, want *big.Int) {
	t.Helper()
	if !right(got) || value(got).Cmp(want) != 0 {
		t.Fatalf("%s: got %v, want %v", what, got, want)
	}
}

// pairs hands any two samples on.
func pairs(do func(a, b num.Num, x, y *big.Int)) {
	l := samples()
	for _, a := range l {
		for _, b := range l {
			do(a, b, value(a), value(b))
		}
	}
}

func TestOf(t *testing.T) {
	for _, n := range []int{0, 1, -1, 2, -2, 1 << 31, -1 << 31, math.MaxInt - 1, math.MaxInt, math.MinInt, math.MinInt + 1} {
		isNum(t, "Of", num.Of(n), big.NewInt(int64(n)))
	}
}

func TestMake(t *testing.T) {
	for _, a := range samples() {
		isNum(t, "Make", num.Make(a.Minus, a.Mag), value(a))
	}
}

func TestSignAndItsChange(t *testing.T) {
	for _, a := range samples() {
		x := value(a)
		if got := num.Sign(a); got != x.Sign() {
			t.Fatal("Sign", a, got)
		}
		isNum(t, "Neg", num.Neg(a), new(big.Int).Neg(x))
		isNum(t, "Abs", num.Abs(a), new(big.Int).Abs(x))
	}
}

func TestCmp(t *testing.T) {
	if num.Cmp(num.Of(-3), num.Of(-2)) != -1 || num.Cmp(num.Of(-3), num.Of(2)) != -1 || num.Cmp(num.Of(3), num.Of(2)) != 1 {
		t.Fatal("small numbers")
	}
	pairs(func(a, b num.Num, x, y *big.Int) {
		if got := num.Cmp(a, b); got != x.Cmp(y) {
			t.Fatal(a, b, got)
		}
	})
}

func TestAddSubMul(t *testing.T) {
	pairs(func(a, b num.Num, x, y *big.Int) {
		isNum(t, "Add", num.Add(a, b), new(big.Int).Add(x, y))
		isNum(t, "Sub", num.Sub(a, b), new(big.Int).Sub(x, y))
		isNum(t, "Mul", num.Mul(a, b), new(big.Int).Mul(x, y))
	})
}

func TestDivOfSmallNumbers(t *testing.T) {
	for _, x := range [][4]int{
		{-7, 2, -4, 1}, {7, 2, 3, 1}, {7, -2, -4, -1}, {-7, -2, 3, -1},
		{6, 2, 3, 0}, {-6, 2, -3, 0}, {6, -2, -3, 0}, {-6, -2, 3, 0},
		{1, 9, 0, 1}, {-1, 9, -1, 8}, {1, -9, -1, -8}, {-1, -9, 0, -1},
		{0, 5, 0, 0}, {0, -5, 0, 0}, {-1, 1, -1, 0},
	} {
		q, r := num.Div(num.Of(x[0]), num.Of(x[1]))
		isNum(t, "quotient", q, big.NewInt(int64(x[2])))
		isNum(t, "rest", r, big.NewInt(int64(x[3])))
	}
}

// floor is the greatest whole number not above x / y, and x less y times that; 0 and x, if y is 0.
func floor(x, y *big.Int) (*big.Int, *big.Int) {
	if y.Sign() == 0 {
		return new(big.Int), x
	}
	quot, rest := new(big.Int).QuoRem(x, y, new(big.Int))
	if rest.Sign()*y.Sign() < 0 {
		quot.Sub(quot, big.NewInt(1))
		rest.Add(rest, y)
	}
	return quot, rest
}

func TestDiv(t *testing.T) {
	pairs(func(a, b num.Num, x, y *big.Int) {
		quot, rest := floor(x, y)
		q, r := num.Div(a, b)
		isNum(t, "quotient", q, quot)
		isNum(t, "rest", r, rest)
	})
}

func TestDivByNothing(t *testing.T) {
	for _, none := range []num.Num{{}, {Minus: true}, {Mag: mag.Mag{0, 0}}, {Minus: true, Mag: mag.Mag{0}}} {
		for _, a := range samples() {
			q, r := num.Div(a, none)
			isNum(t, "quotient", q, new(big.Int))
			isNum(t, "rest", r, value(a))
		}
	}
}

func TestInt(t *testing.T) {
	for _, a := range samples() {
		x := value(a)
		want, fits := 0, x.IsInt64()
		if fits {
			want = int(x.Int64())
		}
		if got, ok := num.Int(a); got != want || ok != fits {
			t.Fatal(a, got, ok)
		}
	}
}

func TestIntAtItsEnds(t *testing.T) {
	for _, n := range []int{math.MinInt, math.MinInt + 1, -1, 0, 1, math.MaxInt - 1, math.MaxInt} {
		if got, ok := num.Int(num.Of(n)); got != n || !ok {
			t.Fatal(n, got, ok)
		}
	}
	for _, a := range []num.Num{num.Add(num.Of(math.MaxInt), num.Of(1)), num.Sub(num.Of(math.MinInt), num.Of(1)), num.Neg(num.Of(math.MinInt))} {
		if got, ok := num.Int(a); got != 0 || ok {
			t.Fatal(a, got, ok)
		}
	}
}

func TestSum(t *testing.T) {
	isNum(t, "of none", num.Sum(), new(big.Int))
	isNum(t, "of three", num.Sum(num.Of(5), num.Of(-9), num.Of(4)), new(big.Int))
	l, want := samples(), new(big.Int)
	for i, a := range l {
		isNum(t, "of one", num.Sum(a), value(a))
		isNum(t, "of those before", num.Sum(l[:i]...), want)
		want.Add(want, value(a))
	}
	isNum(t, "of all", num.Sum(l...), new(big.Int))
}
