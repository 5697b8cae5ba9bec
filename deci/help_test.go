package deci_test

import (
	"math"
	"math/big"
	"slices"
	"strings"
	"testing"

	"isohyet/api"
	"isohyet/frac"
	"isohyet/mag"
	"isohyet/num"
)

const top = math.MaxUint64

// natural is the number that words count, right or not.
func natural(a mag.Mag) *big.Int {
	out := new(big.Int)
	for _, w := range slices.Backward(a) {
		out.Lsh(out, 64).Or(out, new(big.Int).SetUint64(w))
	}
	return out
}

// whole is the number that a Num counts, right or not.
func whole(a num.Num) *big.Int {
	out := natural(a.Mag)
	if a.Minus {
		out.Neg(out)
	}
	return out
}

// words are the right ones of a number that isn't below 0.
func words(n *big.Int) mag.Mag {
	var out mag.Mag
	low, rest := new(big.Int).SetUint64(top), new(big.Int).Set(n)
	for rest.Sign() > 0 {
		out = append(out, new(big.Int).And(rest, low).Uint64())
		rest.Rsh(rest, 64)
	}
	return out
}

// numOf is the right Num of a number.
func numOf(n *big.Int) num.Num {
	return num.Num{Minus: n.Sign() < 0, Mag: words(new(big.Int).Abs(n))}
}

// bigOf is the number of a text that tells one.
func bigOf(s string) *big.Int {
	n, ok := new(big.Int).SetString(s, 10)
	if !ok {
		panic("no number: " + s)
	}
	return n
}

// isNum tells it, if an answer isn't that whole number, or isn't right.
func isNum(t *testing.T, what string, got num.Num, want *big.Int) {
	t.Helper()
	if got.Minus != (want.Sign() < 0) || !slices.Equal(got.Mag, words(new(big.Int).Abs(want))) {
		t.Fatalf("%s: got %v, want %v", what, got, want)
	}
}

// noNum tells it, if that isn't the error, or what stands beside it isn't a zero value.
func noNum(t *testing.T, what string, got num.Num, e, want api.Errno) {
	t.Helper()
	if e != want || got.Minus || len(got.Mag) != 0 {
		t.Fatalf("%s: got %v and %v, want %v alone", what, got, e, want)
	}
}

// nums are whole numbers, some of them not right: those about where blocks and words end, with 0s in their midst, and great ones.
func nums() []num.Num {
	var out []num.Num
	for _, m := range []mag.Mag{
		nil, {0}, {0, 0}, {1}, {2, 0}, {9}, {10}, {99, 0, 0}, {100}, {1 << 31}, {1 << 63}, {top}, {top, 0}, {0, 1}, {1, 1}, {0, 0, 1},
		{top, top}, {top, top, top, 0}, {5, 0, 0, 0, 7}, {0, 1 << 40, 0, 3},
	} {
		out = append(out, num.Num{Mag: m}, num.Num{Minus: true, Mag: m})
	}
	for _, digits := range []int64{1, 8, 9, 10, 18, 19, 20, 37, 38, 39, 57, 100, 200} {
		power := new(big.Int).Exp(big.NewInt(10), big.NewInt(digits), nil)
		for _, off := range []int64{-1, 0, 1, 7} {
			n := new(big.Int).Add(power, big.NewInt(off))
			out = append(out, numOf(n), numOf(n.Neg(n)))
		}
	}
	return out
}

// dens are denominators, some of them 0, or not right.
func dens() []mag.Mag {
	return []mag.Mag{nil, {0}, {0, 0}, {1}, {1, 0}, {2}, {3, 0}, {8}, {10}, {99}, {1 << 63}, {top}, {0, 1}, {10, 10}, {top, top, 0}}
}

// fracs are all whole numbers divided by all denominators, many of them not in lowest terms.
func fracs() []frac.Frac {
	var out []frac.Frac
	for _, n := range nums() {
		for _, d := range dens() {
			out = append(out, frac.Frac{Num: n, Den: d})
		}
	}
	return out
}

// value is the number that a Frac counts, right or not.
func value(a frac.Frac) *big.Rat {
	den := natural(a.Den)
	if den.Sign() == 0 {
		den.SetInt64(1)
	}
	return new(big.Rat).SetFrac(whole(a.Num), den)
}

// scales are those that may be, and some that are brought to these: each with what it counts as.
func scales() map[int]int {
	out := map[int]int{-1: 0, 10: 9, 99: 9, -99: 0, math.MinInt: 0, math.MaxInt: 9}
	for i := range api.MaxScale + 1 {
		out[i] = i
	}
	return out
}

// texts hands on all texts of these bytes, to so many of them.
func texts(bytes string, most int, do func(s string)) {
	var more func(s string)
	more = func(s string) {
		do(s)
		if len(s) < most {
			for i := range len(bytes) {
				more(s + bytes[i:i+1])
			}
		}
	}
	more("")
}

// oddTexts are those that are no number, whoever reads them.
func oddTexts() []string {
	return []string{
		"", "-", "+", ".", "/", " ", "\n", "\x00", "\xff", "é", "٣", "１", "1e3", "1E3", "0x1", "1_000", "1,5", "1 ", " 1", "1\n", "\t1", "--1", "++1", "+-1", "-+1",
		"1-", "1+", "1.-5", "1.+5", "1..5", "1.5.", "1.5.5", "-.5", "+.5", ".5", "5.", "-5.", "-.", "inf", "NaN", "1/", "/1", "1//2", "1/2/3", "1/0", "1/-2", "1/+2", "/", "-/",
		"\xb1", "1\x00", "−1", "1:", "1;", "a", "/0", "0/0", strings.Repeat("-", 30), "1.5x", "1x.5", "x1",
	}
}
