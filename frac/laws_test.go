package frac_test

import (
	"slices"
	"testing"

	"isohyet/frac"
	"isohyet/mag"
	"isohyet/num"
)

func equalNum(a, b num.Num) bool {
	return a.Minus == b.Minus && slices.Equal(a.Mag, b.Mag)
}

func equal(a, b frac.Frac) bool {
	return equalNum(a.Num, b.Num) && slices.Equal(a.Den, b.Den)
}

// same tells it, if a law doesn't hold: numbers that are right are the same just if their words are.
func same(t *testing.T, law string, a, b frac.Frac) {
	t.Helper()
	if !frac.Same(a, b) || frac.Cmp(a, b) != 0 || !equal(a, b) {
		t.Fatalf("%s: %v and %v", law, a, b)
	}
}

// by is a quotient that there is.
func by(t *testing.T, a, b frac.Frac) frac.Frac {
	t.Helper()
	out, ok := frac.Div(a, b)
	if !ok {
		t.Fatal("no quotient of", a, b)
	}
	return out
}

func TestLawsOfOneNumber(t *testing.T) {
	zero, one := frac.Of(0), frac.Of(1)
	for _, a := range samples() {
		right := frac.Sum(a)
		same(t, "nothing more", frac.Add(a, zero), right)
		same(t, "nothing less", frac.Sub(a, zero), right)
		same(t, "all of it", frac.Sub(a, a), zero)
		same(t, "less than nothing", frac.Sub(zero, a), frac.Neg(a))
		same(t, "once", frac.Mul(a, one), right)
		same(t, "no times", frac.Mul(a, zero), zero)
		same(t, "a times -1", frac.Mul(a, frac.Of(-1)), frac.Neg(a))
		same(t, "there and back", frac.Neg(frac.Neg(a)), right)
		same(t, "by 1", by(t, a, one), right)
		if frac.Sign(a) != 0 {
			same(t, "by itself", by(t, a, a), one)
			same(t, "over and over", by(t, one, by(t, one, a)), right)
		}
	}
}

func TestLawsOfTwoNumbers(t *testing.T) {
	l := some(4)
	for _, a := range l {
		for _, b := range l {
			right := frac.Sum(a)
			same(t, "a + b = b + a", frac.Add(a, b), frac.Add(b, a))
			same(t, "a + b - b = a", frac.Sub(frac.Add(a, b), b), right)
			same(t, "a - b = a + -b", frac.Sub(a, b), frac.Add(a, frac.Neg(b)))
			same(t, "a b = b a", frac.Mul(a, b), frac.Mul(b, a))
			same(t, "-a b = -(a b)", frac.Mul(frac.Neg(a), b), frac.Neg(frac.Mul(a, b)))
			if frac.Cmp(a, b) != -frac.Cmp(b, a) || frac.Cmp(a, b) != frac.Sign(frac.Sub(a, b)) {
				t.Fatal("order", a, b)
			}
			if frac.Sign(b) != 0 {
				same(t, "a / b b = a", frac.Mul(by(t, a, b), b), right)
				same(t, "a b / b = a", by(t, frac.Mul(a, b), b), right)
			}
		}
	}
}

func TestLawsOfThreeNumbers(t *testing.T) {
	l := some(11)
	for _, a := range l {
		for _, b := range l {
			for _, c := range l {
				same(t, "(a + b) + c = a + (b + c)", frac.Add(frac.Add(a, b), c), frac.Add(a, frac.Add(b, c)))
				same(t, "a + b + c", frac.Sum(a, b, c), frac.Sum(c, b, a))
				same(t, "(a b) c = a (b c)", frac.Mul(frac.Mul(a, b), c), frac.Mul(a, frac.Mul(b, c)))
				same(t, "a (b + c) = a b + a c", frac.Mul(a, frac.Add(b, c)), frac.Add(frac.Mul(a, b), frac.Mul(a, c)))
				if frac.Sign(c) != 0 {
					same(t, "(a + b) / c = a / c + b / c", by(t, frac.Add(a, b), c), frac.Add(by(t, a, c), by(t, b, c)))
				}
			}
		}
	}
}

// calls are those that answer numbers, with what each answers; whole ones as they are.
func calls(a, b frac.Frac) []frac.Frac {
	made, _ := frac.Make(a.Num, b.Num)
	quot, _ := frac.Div(a, b)
	return []frac.Frac{
		frac.Whole(a.Num), made, frac.Neg(a), frac.Add(a, b), frac.Sub(a, b), frac.Mul(a, b), quot,
		frac.Sum(a), frac.Sum(a, b), frac.Sum(a, b, a), {Num: frac.Floor(a)}, {Num: frac.Round(a)},
	}
}

// roomyMag is words with more room behind them, with some there that nobody may touch.
func roomyMag(m mag.Mag) mag.Mag {
	return append(slices.Clone(m), 4711, 4711, 4711)[:len(m)]
}

func roomy(a frac.Frac) frac.Frac {
	return frac.Frac{Num: num.Num{Minus: a.Num.Minus, Mag: roomyMag(a.Num.Mag)}, Den: roomyMag(a.Den)}
}

// roomLeft tells whether nobody touched what lies behind words.
func roomLeft(m mag.Mag) bool {
	n := len(m)
	return slices.Equal(m[n:n+3], mag.Mag{4711, 4711, 4711})
}

// untouched tells whether a roomy number is as it was, and what lies behind it, too.
func untouched(a, was frac.Frac) bool {
	return equal(a, was) && roomLeft(a.Num.Mag) && roomLeft(a.Den)
}

// TestArgumentsStay: what is handed in isn't changed, nor what lies behind it.
func TestArgumentsStay(t *testing.T) {
	list := some(7)
	for _, a := range list {
		for _, b := range list {
			x, y := roomy(a), roomy(b)
			l := []frac.Frac{x, y, x}
			calls(x, y)
			frac.Sum(l...)
			frac.Cmp(x, y)
			frac.Same(x, y)
			frac.Sign(x)
			if !untouched(x, a) || !untouched(y, b) || !equal(l[0], a) || !equal(l[1], b) || !equal(l[2], a) {
				t.Fatal(a, b, x, y, l)
			}
		}
	}
}

// spoil writes into all the room that words have.
func spoil(m mag.Mag) {
	m = m[:cap(m)]
	for i := range m {
		m[i] ^= 0x5555
	}
}

// TestAnswersAreNew: no answer shares memory with an argument, or with another answer, nor its halves with each other.
func TestAnswersAreNew(t *testing.T) {
	list := some(7)
	for _, a := range list {
		for _, b := range list {
			x, y := roomy(a), roomy(b)
			got, want := calls(x, y), calls(a, b)
			for i := range got {
				spoil(got[i].Num.Mag)
				if !slices.Equal(got[i].Den, want[i].Den) {
					t.Fatal("a denominator is spoiled:", a, b)
				}
				spoil(got[i].Den)
				for j := i + 1; j < len(got); j++ {
					if !equal(got[j], want[j]) {
						t.Fatal("another answer is spoiled:", a, b)
					}
				}
			}
			if !untouched(x, a) || !untouched(y, b) {
				t.Fatal("an argument is spoiled:", a, b)
			}
		}
	}
}

// TestOneArgumentTwice: both arguments may be the same number, with the same words.
func TestOneArgumentTwice(t *testing.T) {
	for _, a := range samples() {
		got, want := calls(a, a), calls(a, roomy(a))
		for i := range got {
			if !equal(got[i], want[i]) {
				t.Fatal(a, got[i], want[i])
			}
		}
	}
}
