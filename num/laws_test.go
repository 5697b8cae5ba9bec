package num_test

import (
	"slices"
	"testing"

	"isohyet/mag"
	"isohyet/num"
)

func equal(a, b num.Num) bool {
	return a.Minus == b.Minus && slices.Equal(a.Mag, b.Mag)
}

func same(t *testing.T, law string, a, b num.Num) {
	t.Helper()
	if num.Cmp(a, b) != 0 || !equal(a, b) {
		t.Fatalf("%s: %v and %v", law, a, b)
	}
}

func TestLawsOfOneNumber(t *testing.T) {
	zero, one := num.Of(0), num.Of(1)
	for _, a := range samples() {
		made := num.Make(a.Minus, a.Mag)
		same(t, "nothing more", num.Add(a, zero), made)
		same(t, "nothing less", num.Sub(a, zero), made)
		same(t, "all of it", num.Sub(a, a), zero)
		same(t, "less than nothing", num.Sub(zero, a), num.Neg(a))
		same(t, "once", num.Mul(a, one), made)
		same(t, "no times", num.Mul(a, zero), zero)
		same(t, "a times -1", num.Mul(a, num.Of(-1)), num.Neg(a))
		same(t, "there and back", num.Neg(num.Neg(a)), made)
		same(t, "sign times size", num.Mul(num.Of(num.Sign(a)), num.Abs(a)), made)
		if n, ok := num.Int(a); ok {
			same(t, "an int's number", num.Of(n), made)
		}
	}
}

func TestLawsOfSumsAndProducts(t *testing.T) {
	l := samples()
	for _, a := range l {
		for _, b := range l {
			same(t, "a + b = b + a", num.Add(a, b), num.Add(b, a))
			same(t, "a b = b a", num.Mul(a, b), num.Mul(b, a))
			same(t, "a - b = a + -b", num.Sub(a, b), num.Add(a, num.Neg(b)))
			same(t, "-a b = -(a b)", num.Mul(num.Neg(a), b), num.Neg(num.Mul(a, b)))
			for _, c := range l {
				same(t, "(a + b) + c = a + (b + c)", num.Add(num.Add(a, b), c), num.Add(a, num.Add(b, c)))
				same(t, "a + b + c", num.Sum(a, b, c), num.Sum(c, b, a))
				same(t, "(a b) c = a (b c)", num.Mul(num.Mul(a, b), c), num.Mul(a, num.Mul(b, c)))
				same(t, "a (b + c) = a b + a c", num.Mul(a, num.Add(b, c)), num.Add(num.Mul(a, b), num.Mul(a, c)))
			}
		}
	}
}

// TestQuotientAndRestComeBack: the rest is on the divisor's side, and less.
func TestQuotientAndRestComeBack(t *testing.T) {
	l := samples()
	for _, a := range l {
		for _, b := range l {
			q, r := num.Div(a, b)
			same(t, "q b + r = a", num.Add(num.Mul(q, b), r), num.Make(a.Minus, a.Mag))
			if num.Sign(b) == 0 {
				continue
			}
			if num.Sign(r)*num.Sign(b) < 0 || num.Cmp(num.Abs(r), num.Abs(b)) >= 0 {
				t.Fatal(a, b, r)
			}
		}
	}
}

// calls are those that answer numbers, with what each answers.
func calls(a, b num.Num) []num.Num {
	q, r := num.Div(a, b)
	return []num.Num{
		num.Make(a.Minus, a.Mag), num.Neg(a), num.Abs(a), num.Add(a, b), num.Sub(a, b), num.Mul(a, b), q, r,
		num.Sum(a), num.Sum(a, b), num.Sum(a, b, a),
	}
}

// roomy is a with more room behind its words, with some there that nobody may touch.
func roomy(a num.Num) num.Num {
	n := len(a.Mag)
	return num.Num{Minus: a.Minus, Mag: append(slices.Clone(a.Mag), 4711, 4711, 4711)[:n]}
}

// untouched tells whether a roomy number is as it was, and what lies behind it, too.
func untouched(a, was num.Num) bool {
	n := len(was.Mag)
	return equal(a, was) && slices.Equal(a.Mag[n:n+3], mag.Mag{4711, 4711, 4711})
}

// TestArgumentsStay: what is handed in isn't changed, nor what lies behind it.
func TestArgumentsStay(t *testing.T) {
	for _, a := range samples() {
		for _, b := range samples() {
			x, y := roomy(a), roomy(b)
			l := []num.Num{x, y, x}
			calls(x, y)
			num.Sum(l...)
			num.Cmp(x, y)
			num.Sign(x)
			num.Int(x)
			if !untouched(x, a) || !untouched(y, b) || !equal(l[0], a) || !equal(l[1], b) || !equal(l[2], a) {
				t.Fatal(a, b, x, y, l)
			}
		}
	}
}

// spoil writes into all the room that a number's words have.
func spoil(a num.Num) {
	words := a.Mag[:cap(a.Mag)]
	for i := range words {
		words[i] ^= 0x5555
	}
}

// TestAnswersAreNew: no answer shares memory with an argument, or with another answer.
func TestAnswersAreNew(t *testing.T) {
	for _, a := range samples() {
		for _, b := range samples() {
			x, y := roomy(a), roomy(b)
			got, want := calls(x, y), calls(a, b)
			for i := range got {
				spoil(got[i])
				for j := i + 1; j < len(got); j++ {
					same(t, "another answer is spoiled", got[j], want[j])
				}
			}
			if !untouched(x, a) || !untouched(y, b) {
				t.Fatal("an argument is spoiled:", a, b)
			}
		}
	}
}

// TestOneArgumentTwice: both arguments may be the same number, with the same words.
func TestOneArgumentTwice(t *testing.T) {
	for _, a := range samples() {
		got, want := calls(a, a), calls(a, roomy(a))
		for i := range got {
			same(t, "the same number", got[i], want[i])
		}
	}
}
