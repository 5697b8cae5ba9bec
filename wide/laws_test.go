package wide_test

import (
	"math"
	"math/big"
	"testing"

	"isohyet/num"
	"isohyet/wide"
)

func TestExamples(t *testing.T) {
	if got := wide.Det(1, 2, 3, 4); got != wide.Of(-2) {
		t.Fatal("Det", got)
	}
	if got, ok := wide.Neg(wide.Wide{Hi: 1 << 63}); ok || got != (wide.Wide{}) {
		t.Fatal("Neg", got, ok)
	}
}

// TestDifferenceFromTheLeast: it may be a number of 128 bits, though the least one turned round isn't.
func TestDifferenceFromTheLeast(t *testing.T) {
	least := wide.Wide{Hi: 1 << 63}
	if got, ok := wide.Sub(wide.Of(-1), least); !ok || got != (wide.Wide{Hi: math.MaxInt64, Lo: math.MaxUint64}) {
		t.Fatal("-1", got, ok)
	}
	if got, ok := wide.Sub(least, least); !ok || got != (wide.Wide{}) {
		t.Fatal("the least", got, ok)
	}
	if got, ok := wide.Sub(wide.Of(0), least); ok || got != (wide.Wide{}) {
		t.Fatal("0", got, ok)
	}
	if got, ok := wide.Times(least, 1); !ok || got != least {
		t.Fatal("once", got, ok)
	}
	if got, ok := wide.Times(least, -1); ok || got != (wide.Wide{}) {
		t.Fatal("-1 times", got, ok)
	}
}

func TestDet(t *testing.T) {
	var l []int
	for _, n := range ints() {
		if small(n) {
			l = append(l, n)
		}
	}
	for _, a := range l {
		for _, b := range l {
			for i, c := range l {
				d := l[(i+len(l)/2)%len(l)]
				isWide(t, "Det", wide.Det(a, b, c, d), new(big.Int).Sub(product(a, d), product(b, c)))
			}
		}
	}
}

func TestDetAtItsEnds(t *testing.T) {
	ends := []int{-1 << 62, -1<<62 + 1, -1, 0, 1, 1<<62 - 1, 1 << 62}
	for _, a := range ends {
		for _, b := range ends {
			for _, c := range ends {
				for _, d := range ends {
					isWide(t, "Det", wide.Det(a, b, c, d), new(big.Int).Sub(product(a, d), product(b, c)))
				}
			}
		}
	}
}

// TestDetBeyondItsEnds: nothing is said of what it answers, but it answers, and always the same.
func TestDetBeyondItsEnds(t *testing.T) {
	ends := []int{math.MinInt, -1<<62 - 1, 1<<62 + 1, math.MaxInt}
	for _, a := range ends {
		for _, b := range ends {
			first, again := wide.Det(a, b, b, a), wide.Det(a, b, b, a)
			if first != again {
				t.Fatal(a, b, first, again)
			}
		}
	}
}

// TestOneOrder: Cmp goes with differences, signs and with the numbers of any size.
func TestOneOrder(t *testing.T) {
	l := samples()
	for _, a := range l {
		if wide.Sign(a) != wide.Cmp(a, wide.Of(0)) {
			t.Fatal(a)
		}
		for _, b := range l {
			got := wide.Cmp(a, b)
			if got != -wide.Cmp(b, a) || (got == 0) != (a == b) || got != num.Cmp(wide.Num(a), wide.Num(b)) {
				t.Fatal(a, b, got)
			}
			if diff, ok := wide.Sub(a, b); ok && wide.Sign(diff) != got {
				t.Fatal(a, b, got, diff)
			}
		}
	}
}

// TestThereAndBack: what is added is taken away again, and what is turned round twice is as it was.
func TestThereAndBack(t *testing.T) {
	l := samples()
	for _, a := range l {
		if across, ok := wide.Neg(a); ok {
			if back, ok := wide.Neg(across); !ok || back != a {
				t.Fatal(a, across, back)
			}
		}
		for _, b := range l {
			sum, ok := wide.Add(a, b)
			if !ok {
				continue
			}
			if back, ok := wide.Sub(sum, b); !ok || back != a {
				t.Fatal(a, b, sum, back)
			}
		}
	}
}

// TestProductsAgree: Mul, Times of an int, and Det with a 0 tell the same product.
func TestProductsAgree(t *testing.T) {
	for _, a := range ints() {
		for _, b := range ints() {
			want := wide.Mul(a, b)
			if got, ok := wide.Times(wide.Of(a), b); !ok || got != want {
				t.Fatal("Times", a, b, got)
			}
			if got := wide.Mul(b, a); got != want {
				t.Fatal("Mul", a, b, got)
			}
			if num.Cmp(wide.Num(want), num.Mul(num.Of(a), num.Of(b))) != 0 {
				t.Fatal("Num", a, b, want)
			}
			if small(a) && small(b) && wide.Det(a, 0, 0, b) != want {
				t.Fatal("Det", a, b)
			}
		}
	}
}

// small tells whether Det takes n.
func small(n int) bool {
	return -1<<62 <= n && n <= 1<<62
}
