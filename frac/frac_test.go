package frac_test

import (
	"math"
	"math/big"
	"slices"
	"testing"

	"isohyet/frac"
	"isohyet/mag"
	"isohyet/num"
)

const top = math.MaxUint64

// natural is the number that words count, right or not.
func natural(a mag.Mag) *big.Int {
	out := new(big.Int)
	for _, w := range slices.Backward(a) {
		out.Lsh(out, 64).Or(out, new(big.Int).SetUint64(w))
	}
	return out
}

// whole is the number that a Num counts, right or not.
func whole(a num.Num) *big.Int {
	out := natural(a.Mag)
	if a.Minus {
		out.Neg(out)
	}
	return out
}

// value is the number that a Frac counts, right or not.
func value(a frac.Frac) *big.Rat {
	den := natural(a.Den)
	if den.Sign() == 0 {
		den.SetInt64(1)
	}
	return new(big.Rat).SetFrac(whole(a.Num), den)
}

// words are the right ones of a number that isn't below 0.
func words(n *big.Int) mag.Mag {
	var out mag.Mag
	low, rest := new(big.Int).SetUint64(top), new(big.Int).Set(n)
	for rest.Sign() > 0 {
		out = append(out, new(big.Int).And(rest, low).Uint64())
		rest.Rsh(rest, 64)
	}
	return out
}

// isNum tells it, if an answer isn't that whole number, or isn't right.
func isNum(t *testing.T, what string, got num.Num, want *big.Int) {
	t.Helper()
	if got.Minus != (want.Sign() < 0) || !slices.Equal(got.Mag, words(new(big.Int).Abs(want))) {
		t.Fatalf("%s: got %v, want %v", what, got, want)
	}
}

// isFrac tells it, if an answer isn't that number, or isn't right: a Rat is in lowest terms, and so is to be what is answered.
func isFrac(t *testing.T, what string, got frac.Frac, want *big.Rat) {
	t.Helper()
	if !slices.Equal(got.Den, words(want.Denom())) {
		t.Fatalf("%s: got %v, want %v", what, got, want)
	}
	isNum(t, what, got.Num, want.Num())
}

// isZero tells it, if what is answered beside a false isn't 0, right.
func isZero(t *testing.T, what string, got frac.Frac, ok bool) {
	t.Helper()
	if ok {
		t.Fatalf("%s: true, and %v", what, got)
	}
	isFrac(t, what, got, new(big.Rat))
}

// of is a divided by b, just as they are.
func of(a, b int) frac.Frac {
	return frac.Frac{Num: num.Of(a), Den: num.Of(b).Mag}
}

// nums are whole numbers, to either side of 0, some of them not right.
func nums() []num.Num {
	var out []num.Num
	for _, m := range []mag.Mag{
		nil, {0, 0}, {1}, {2}, {3, 0}, {6}, {35}, {1 << 62}, {1 << 63}, {top}, {0, 1}, {6, 6}, {top, top, 0}, {0, 0, 30},
	} {
		out = append(out, num.Num{Mag: m}, num.Num{Minus: true, Mag: m})
	}
	return out
}

// dens are what they are divided by, some of them 0, or not right.
func dens() []mag.Mag {
	return []mag.Mag{
		nil, {0}, {0, 0}, {1}, {2}, {3, 0, 0}, {4}, {7}, {12}, {1 << 63}, {top}, {0, 1}, {10, 10}, {top, top}, {6, 0, 6},
	}
}

// samples are all of these divided by all of those, many of them not in lowest terms.
func samples() []frac.Frac {
	var out []frac.Frac
	for _, n := range nums() {
		for _, d := range dens() {
			out = append(out, frac.Frac{Num: n, Den: d})
		}
	}
	return out
}

// some is each so manyth of the samples, for what takes two or three.
func some(step int) []frac.Frac {
	var out []frac.Frac
	for i, a := range samples() {
		if i%step == 0 {
			out = append(out, a)
		}
	}
	return out
}

// pairs hands any two of some samples on.
func pairs(do func(a, b frac.Frac, x, y *big.Rat)) {
	l := some(2)
	for _, a := range l {
		for _, b := range l {
			do(a, b, value(a), value(b))
		}
	}
}

func TestOfAndWhole(t *testing.T) {
	for _, n := range []int{0, 1, -1, 2, -2, 1 << 31, -1 << 31, math.MaxInt, math.MinInt} {
		isFrac(t, "Of", frac.Of(n), new(big.Rat).SetInt64(int64(n)))
	}
	for _, n := range nums() {
		isFrac(t, "Whole", frac.Whole(n), new(big.Rat).SetInt(whole(n)))
	}
}

func TestMake(t *testing.T) {
	for _, a := range nums() {
		for _, b := range nums() {
			got, ok := frac.Make(a, b)
			if num.Sign(b) == 0 {
				isZero(t, "Make by 0", got, ok)
				continue
			}
			if !ok {
				t.Fatal("Make: false", a, b)
			}
			isFrac(t, "Make", got, new(big.Rat).SetFrac(whole(a), whole(b)))
		}
	}
}

func TestMakeInLowestTerms(t *testing.T) {
	for _, x := range [][4]int{{6, -4, -3, 2}, {-6, -4, 3, 2}, {-6, 4, -3, 2}, {0, -9, 0, 1}, {12, 4, 3, 1}, {5, 5, 1, 1}, {1, 12, 1, 12}, {math.MinInt, math.MinInt, 1, 1}} {
		got, ok := frac.Make(num.Of(x[0]), num.Of(x[1]))
		if !ok {
			t.Fatal(x)
		}
		isFrac(t, "Make", got, big.NewRat(int64(x[2]), int64(x[3])))
	}
}

func TestSignAndNeg(t *testing.T) {
	for _, a := range samples() {
		x := value(a)
		if got := frac.Sign(a); got != x.Sign() {
			t.Fatal("Sign", a, got)
		}
		isFrac(t, "Neg", frac.Neg(a), new(big.Rat).Neg(x))
	}
}

func TestCmpAndSameOfSmallNumbers(t *testing.T) {
	if frac.Cmp(of(-3, 2), of(2, 3)) != -1 || frac.Cmp(of(-1, 2), of(-1, 3)) != -1 || frac.Cmp(of(2, 3), of(3, 5)) != 1 || frac.Cmp(of(2, 3), of(4, 6)) != 0 {
		t.Fatal("Cmp")
	}
	if !frac.Same(of(2, 3), of(4, 6)) || !frac.Same(of(4, 0), of(4, 1)) || !frac.Same(of(0, 5), of(0, 7)) || frac.Same(of(2, 3), of(-2, 3)) || frac.Same(of(2, 3), of(2, 5)) {
		t.Fatal("Same")
	}
}

func TestCmpAndSame(t *testing.T) {
	pairs(func(a, b frac.Frac, x, y *big.Rat) {
		if got := frac.Cmp(a, b); got != x.Cmp(y) {
			t.Fatal("Cmp", a, b, got)
		}
		if got := frac.Same(a, b); got != (x.Cmp(y) == 0) {
			t.Fatal("Same", a, b, got)
		}
	})
}

func TestAddSubMul(t *testing.T) {
	pairs(func(a, b frac.Frac, x, y *big.Rat) {
		isFrac(t, "Add", frac.Add(a, b), new(big.Rat).Add(x, y))
		isFrac(t, "Sub", frac.Sub(a, b), new(big.Rat).Sub(x, y))
		isFrac(t, "Mul", frac.Mul(a, b), new(big.Rat).Mul(x, y))
	})
}

func TestDiv(t *testing.T) {
	pairs(func(a, b frac.Frac, x, y *big.Rat) {
		got, ok := frac.Div(a, b)
		if y.Sign() == 0 {
			isZero(t, "Div by 0", got, ok)
			return
		}
		if !ok {
			t.Fatal("Div: false", a, b)
		}
		isFrac(t, "Div", got, new(big.Rat).Quo(x, y))
	})
}

func TestSum(t *testing.T) {
	isFrac(t, "of none", frac.Sum(), new(big.Rat))
	isFrac(t, "of three", frac.Sum(of(1, 2), of(-1, 3), of(-1, 6)), new(big.Rat))
	l, want := some(4), new(big.Rat)
	for i, a := range l {
		isFrac(t, "of one", frac.Sum(a), value(a))
		isFrac(t, "of those before", frac.Sum(l[:i]...), want)
		want.Add(want, value(a))
	}
	isFrac(t, "of all", frac.Sum(l...), want)
}

// TestSumOfMany: denominators that have little in common make a great one.
func TestSumOfMany(t *testing.T) {
	var l []frac.Frac
	want := new(big.Rat)
	for i := 1; i <= 500; i++ {
		l = append(l, of(1-i%2*2, i))
		want.Add(want, big.NewRat(int64(1-i%2*2), int64(i)))
	}
	isFrac(t, "of many", frac.Sum(l...), want)
}
