package deci_test

import (
	"math/big"
	"regexp"
	"slices"
	"strings"
	"testing"

	"isohyet/api"
	"isohyet/deci"
	"isohyet/mag"
	"isohyet/num"
)

var plain = regexp.MustCompile(`^(0|-?[1-9][0-9]*)$`)

// isWhole tells it, if a text isn't read as what a big number says of it.
func isWhole(t *testing.T, s string) {
	t.Helper()
	got, e := deci.Whole(s)
	switch {
	case len(s) > 400:
		noNum(t, s, got, e, api.ErrLong)
	case !plain.MatchString(s):
		noNum(t, s, got, e, api.ErrForm)
	case e != api.OK:
		t.Fatal(s, e)
	default:
		isNum(t, s, got, bigOf(s))
	}
}

func TestDigits(t *testing.T) {
	for _, x := range []struct {
		a num.Num
		s string
	}{
		{num.Num{}, "0"}, {num.Num{Minus: true}, "0"}, {num.Num{Minus: true, Mag: mag.Mag{0, 0}}, "0"}, {num.Of(-1), "-1"}, {num.Of(10), "10"}, {num.Num{Mag: mag.Mag{12, 0, 0}}, "12"},
		{num.Num{Mag: mag.Mag{0, 1}}, "18446744073709551616"}, {num.Num{Minus: true, Mag: mag.Mag{top, 0}}, "-18446744073709551615"},
		{num.Num{Mag: mag.Mag{0, 0, 1}}, "340282366920938463463374607431768211456"},
	} {
		if got := deci.Digits(x.a); got != x.s {
			t.Fatal(x, got)
		}
	}
	for _, a := range nums() {
		if got := deci.Digits(a); got != whole(a).String() {
			t.Fatal(a, got)
		}
	}
}

// TestDigitsOfGreatNumbers: of far more digits than are read.
func TestDigitsOfGreatNumbers(t *testing.T) {
	n := big.NewInt(-7)
	for range 12 {
		n.Mul(n, n).Add(n, big.NewInt(3))
		if got := deci.Digits(numOf(n)); got != n.String() {
			t.Fatal(n)
		}
		n.Neg(n)
	}
	if len(n.String()) < 3000 {
		t.Fatal(len(n.String()))
	}
}

func TestWhole(t *testing.T) {
	for _, s := range []string{
		"0", "1", "-1", "10", "-10", "100000000000000000000", "-0", "00", "01", "-01", "-00", "+1", "+0", "1.0", "0.0", "1/1", "1.", ".1", "-1 ", "- 1",
		"9999999999999999999", "10000000000000000000", "18446744073709551615", "18446744073709551616", "-99999999999999999999999999999999999999", "100000000000000000000000000000000000000",
	} {
		isWhole(t, s)
	}
	for _, s := range oddTexts() {
		isWhole(t, s)
	}
	texts("-+01.9/", 5, func(s string) { isWhole(t, s) })
}

func TestWholeOfAnyLength(t *testing.T) {
	for n := 1; n <= 403; n++ {
		for _, s := range []string{strings.Repeat("9", n), "-" + strings.Repeat("7", n), "1" + strings.Repeat("0", n), "-1" + strings.Repeat("0", n-1) + "3", strings.Repeat("0", n), strings.Repeat("x", n)} {
			isWhole(t, s)
		}
	}
	isWhole(t, strings.Repeat("1", 100000))
}

// TestDigitsAreWhole: what is told is read as it was.
func TestDigitsAreWhole(t *testing.T) {
	for _, a := range nums() {
		got, e := deci.Whole(deci.Digits(a))
		if e != api.OK {
			t.Fatal(a, e)
		}
		isNum(t, "Whole", got, whole(a))
	}
}

// TestNothingIsChanged: what is handed in, and what was answered before, stays as it was.
func TestNothingIsChanged(t *testing.T) {
	for _, a := range fracs() {
		n, d := slices.Clone(a.Num.Mag), slices.Clone(a.Den)
		deci.Digits(a.Num)
		deci.Fixed(a.Num, 4)
		deci.Print(a)
		got := deci.Round(a, 0)
		for i := range got.Mag {
			got.Mag[i]++
		}
		if !slices.Equal(n, a.Num.Mag) || !slices.Equal(d, a.Den) {
			t.Fatal(a, n, d)
		}
	}
	first, _ := deci.Whole("123456789012345678901234567890")
	deci.Whole("987654321098765432109876543210")
	isNum(t, "Whole", first, bigOf("123456789012345678901234567890"))
}
