package wide_test

import (
	"math"
	"math/big"
	"slices"
	"testing"

	"isohyet/mag"
	"isohyet/num"
	"isohyet/wide"
)

// power is 2^n.
func power(n uint) *big.Int {
	return new(big.Int).Lsh(big.NewInt(1), n)
}

// value is the number that a Wide counts.
func value(a wide.Wide) *big.Int {
	out := new(big.Int).SetUint64(a.Hi)
	out.Lsh(out, 64).Add(out, new(big.Int).SetUint64(a.Lo))
	if a.Hi>>63 == 1 {
		out.Sub(out, power(128))
	}
	return out
}

// fits tells whether x is a number of 128 bits.
func fits(x *big.Int) bool {
	return x.Cmp(new(big.Int).Neg(power(127))) >= 0 && x.Cmp(power(127)) < 0
}

// words are those of x, which fits.
func words(x *big.Int) wide.Wide {
	y := new(big.Int).Mod(x, power(128))
	low := new(big.Int).Mod(y, power(64))
	return wide.Wide{Hi: y.Rsh(y, 64).Uint64(), Lo: low.Uint64()}
}

// samples are what lies about each power of 2, to both sides, and some numbers of mixed bits.
func samples() []wide.Wide {
	var out []wide.Wide
	for _, n := range []uint{0, 1, 2, 31, 32, 61, 62, 63, 64, 65, 95, 123, 124, 125, 126, 127} {
		for by := int64(-2); by <= 2; by++ {
			x := new(big.Int).Add(power(n), big.NewInt(by))
			for _, y := range []*big.Int{x, new(big.Int).Neg(x)} {
				if fits(y) {
					out = append(out, words(y))
				}
			}
		}
	}
	return append(out,
		wide.Wide{Hi: 0x0123456789abcdef, Lo: 0xfedcba9876543210}, wide.Wide{Hi: 0xfedcba9876543210, Lo: 0x0123456789abcdef},
		wide.Wide{Hi: 1, Lo: math.MaxUint64}, wide.Wide{Hi: math.MaxUint64 - 1, Lo: 1}, wide.Wide{Hi: 1 << 63, Lo: math.MaxUint64},
	)
}

// ints are what lies about some powers of 2, to both sides, and an int's ends.
func ints() []int {
	out := []int{0, math.MaxInt, math.MaxInt - 1, math.MinInt, math.MinInt + 1, 10, -10, 1_000_000_007, -998_244_353}
	for _, n := range []int{0, 1, 2, 30, 31, 32, 33, 61, 62} {
		for by := -1; by <= 1; by++ {
			out = append(out, 1<<n+by, -(1<<n + by))
		}
	}
	return out
}

// isWide tells it, if an answer isn't that number.
func isWide(t *testing.T, what string, got wide.Wide, want *big.Int) {
	t.Helper()
	if !fits(want) || got != words(want) {
		t.Fatalf("%s: got %v, want %v", what, got, want)
	}
}

// isWideOrNone tells it, if an answer isn't that number, or isn't 0, false where that number has more than 128 bits.
func isWideOrNone(t *testing.T, what string, got wide.Wide, ok bool, want *big.Int) {
	t.Helper()
	if !fits(want) {
		want = new(big.Int)
		if ok {
			t.Fatalf("%s: got %v, want none", what, got)
		}
	} else if !ok {
		t.Fatalf("%s: got none, want %v", what, want)
	}
	isWide(t, what, got, want)
}

func product(a, b int) *big.Int {
	return new(big.Int).Mul(big.NewInt(int64(a)), big.NewInt(int64(b)))
}

func TestOf(t *testing.T) {
	for _, n := range ints() {
		isWide(t, "Of", wide.Of(n), big.NewInt(int64(n)))
	}
}

func TestMul(t *testing.T) {
	for _, a := range ints() {
		for _, b := range ints() {
			isWide(t, "Mul", wide.Mul(a, b), product(a, b))
		}
	}
}

func TestSignAndNum(t *testing.T) {
	for _, a := range samples() {
		x := value(a)
		if got := wide.Sign(a); got != x.Sign() {
			t.Fatal("Sign", a, got)
		}
		isNum(t, wide.Num(a), x)
	}
}

// isNum tells it, if a Num isn't that number, or isn't right.
func isNum(t *testing.T, got num.Num, want *big.Int) {
	t.Helper()
	size := new(big.Int)
	for _, w := range slices.Backward(got.Mag) {
		size.Lsh(size, 64).Add(size, new(big.Int).SetUint64(w))
	}
	n := len(got.Mag)
	if size.CmpAbs(want) != 0 || got.Minus != (want.Sign() < 0) || n > 0 && got.Mag[n-1] == 0 {
		t.Fatalf("Num: got %v, want %v", got, want)
	}
}

func TestNumAtTheEnds(t *testing.T) {
	for _, x := range []struct {
		a    wide.Wide
		want num.Num
	}{
		{wide.Wide{}, num.Num{}},
		{wide.Wide{Hi: 1 << 63}, num.Num{Minus: true, Mag: mag.Mag{0, 1 << 63}}},
		{wide.Wide{Hi: math.MaxInt64, Lo: math.MaxUint64}, num.Num{Mag: mag.Mag{math.MaxUint64, math.MaxInt64}}},
		{wide.Of(-1), num.Num{Minus: true, Mag: mag.Mag{1}}},
	} {
		if got := wide.Num(x.a); got.Minus != x.want.Minus || !slices.Equal(got.Mag, x.want.Mag) {
			t.Fatal(x.a, got)
		}
	}
}

// TestNumIsNew: who writes into one answer's words doesn't change another answer.
func TestNumIsNew(t *testing.T) {
	for _, a := range samples() {
		first, second := wide.Num(a), wide.Num(a)
		for i := range first.Mag[:cap(first.Mag)] {
			first.Mag[:cap(first.Mag)][i] ^= 0x5555
		}
		isNum(t, second, value(a))
		isNum(t, wide.Num(a), value(a))
	}
}

func TestNeg(t *testing.T) {
	for _, a := range samples() {
		got, ok := wide.Neg(a)
		isWideOrNone(t, "Neg", got, ok, new(big.Int).Neg(value(a)))
	}
}

func TestAddSubCmp(t *testing.T) {
	l := samples()
	for _, a := range l {
		for _, b := range l {
			x, y := value(a), value(b)
			sum, ok := wide.Add(a, b)
			isWideOrNone(t, "Add", sum, ok, new(big.Int).Add(x, y))
			diff, ok := wide.Sub(a, b)
			isWideOrNone(t, "Sub", diff, ok, new(big.Int).Sub(x, y))
			if got := wide.Cmp(a, b); got != x.Cmp(y) {
				t.Fatal("Cmp", a, b, got)
			}
		}
	}
}

func TestTimes(t *testing.T) {
	for _, a := range samples() {
		for _, n := range ints() {
			got, ok := wide.Times(a, n)
			isWideOrNone(t, "Times", got, ok, new(big.Int).Mul(value(a), big.NewInt(int64(n))))
		}
	}
}

// TestTimesAtTheEnds: products that are the least and the greatest number, and those beside them.
func TestTimesAtTheEnds(t *testing.T) {
	least, greatest := new(big.Int).Neg(power(127)), new(big.Int).Sub(power(127), big.NewInt(1))
	for _, n := range ints() {
		if n == 0 {
			continue
		}
		for _, end := range []*big.Int{least, greatest} {
			near := new(big.Int).Div(end, big.NewInt(int64(n)))
			for by := int64(-2); by <= 2; by++ {
				x := new(big.Int).Add(near, big.NewInt(by))
				if !fits(x) {
					continue
				}
				got, ok := wide.Times(words(x), n)
				isWideOrNone(t, "Times", got, ok, new(big.Int).Mul(x, big.NewInt(int64(n))))
			}
		}
	}
}
