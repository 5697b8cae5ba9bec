package mag_test

import (
	"slices"
	"testing"

	"isohyet/mag"
)

func same(t *testing.T, law string, a, b mag.Mag) {
	t.Helper()
	if mag.Cmp(a, b) != 0 || !slices.Equal(a, b) {
		t.Fatalf("%s: %v and %v", law, a, b)
	}
}

// some is fewer than all samples, for laws of three numbers.
func some() []mag.Mag {
	var out []mag.Mag
	for i, a := range samples() {
		if i%3 == 0 || len(a) == 1 {
			out = append(out, a)
		}
	}
	return out
}

func TestLawsOfSumsAndProducts(t *testing.T) {
	l := some()
	for _, a := range l {
		same(t, "nothing more", mag.Add(a, nil), mag.Add(nil, a))
		same(t, "once", mag.Mul(a, mag.Of(1)), mag.Add(a, nil))
		same(t, "no times", mag.Mul(a, nil), nil)
		same(t, "twice", mag.Add(a, a), mag.Up(a, 1))
		for _, b := range l {
			same(t, "a + b = b + a", mag.Add(a, b), mag.Add(b, a))
			same(t, "a b = b a", mag.Mul(a, b), mag.Mul(b, a))
			same(t, "a + b - b = a", mag.Sub(mag.Add(a, b), b), mag.Add(a, nil))
			for _, c := range l {
				same(t, "(a + b) + c = a + (b + c)", mag.Add(mag.Add(a, b), c), mag.Add(a, mag.Add(b, c)))
				same(t, "(a b) c = a (b c)", mag.Mul(mag.Mul(a, b), c), mag.Mul(a, mag.Mul(b, c)))
				same(t, "a (b + c) = a b + a c", mag.Mul(a, mag.Add(b, c)), mag.Add(mag.Mul(a, b), mag.Mul(a, c)))
			}
		}
	}
}

func TestQuotientAndRestComeBack(t *testing.T) {
	l := some()
	for _, b := range l {
		if mag.Len(b) == 0 {
			continue
		}
		for _, q := range l {
			for _, r := range l {
				if mag.Cmp(r, b) >= 0 {
					continue
				}
				gotQ, gotR := mag.Div(mag.Add(mag.Mul(q, b), r), b)
				same(t, "quotient", gotQ, mag.Add(q, nil))
				same(t, "rest", gotR, mag.Add(r, nil))
			}
		}
	}
}

// calls are those that answer magnitudes, with what each answers.
func calls(a, b mag.Mag) []mag.Mag {
	q, r := mag.Div(a, b)
	return []mag.Mag{
		mag.Add(a, b), mag.Sub(a, b), mag.Mul(a, b), q, r, mag.Gcd(a, b),
		mag.Up(a, 0), mag.Up(a, 70), mag.Down(a, 0), mag.Down(a, 70),
	}
}

// roomy is a with more room behind it, with a word there that nobody may touch.
func roomy(a mag.Mag) mag.Mag {
	out := append(slices.Clone(a), 4711, 4711, 4711)
	return out[:len(a)]
}

// TestArgumentsStay: what is handed in isn't changed, nor what lies behind it.
func TestArgumentsStay(t *testing.T) {
	for _, a := range samples() {
		for _, b := range samples() {
			x, y := roomy(a), roomy(b)
			calls(x, y)
			mag.Cmp(x, y)
			mag.Len(x)
			mag.Zeros(x)
			if !slices.Equal(x[:len(a)+3], append(slices.Clone(a), 4711, 4711, 4711)) ||
				!slices.Equal(y[:len(b)+3], append(slices.Clone(b), 4711, 4711, 4711)) {
				t.Fatal(a, b, x, y)
			}
		}
	}
}

// spoil writes into all the room that a list has.
func spoil(a mag.Mag) {
	a = a[:cap(a)]
	for i := range a {
		a[i] ^= 0x5555
	}
}

// TestAnswersAreNew: no answer shares memory with an argument, or with another answer.
func TestAnswersAreNew(t *testing.T) {
	for _, a := range samples() {
		for _, b := range samples() {
			x, y := slices.Clone(a), slices.Clone(b)
			got := calls(x, y)
			want := calls(a, b)
			for i := range got {
				spoil(got[i])
				for j := i + 1; j < len(got); j++ {
					same(t, "another answer is spoiled", got[j], want[j])
				}
			}
			if !slices.Equal(x, a) || !slices.Equal(y, b) {
				t.Fatal("an argument is spoiled:", a, b)
			}
		}
	}
}

// TestOneArgumentTwice: both arguments may be the same list.
func TestOneArgumentTwice(t *testing.T) {
	for _, a := range samples() {
		got, want := calls(a, a), calls(a, slices.Clone(a))
		for i := range got {
			same(t, "the same list", got[i], want[i])
		}
	}
}
