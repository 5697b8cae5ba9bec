package deci

import (
	"strings"

	"isohyet/api"
	"isohyet/frac"
	"isohyet/mag"
	"isohyet/num"
)

// Print: a rational number's text.
func Print(a frac.Frac) string {
	// A sum is in lowest terms, be a so or not.
	a = frac.Sum(a)
	if mag.Cmp(a.Den, mag.Of(1)) == 0 {
		return Digits(a.Num)
	}
	return Digits(a.Num) + "/" + digitsOf(a.Den)
}

// Read: the rational number of a text.
func Read(s string) (frac.Frac, api.Errno) {
	if len(s) > 2*api.MaxDigits {
		return frac.Frac{}, api.ErrLong
	}
	above, below, parted := strings.Cut(s, "/")
	if !parted {
		below = "1"
	}
	// Each part may have more than MaxDigits bytes, where Whole would stop.
	a, okAbove := whole(above)
	b, okBelow := whole(below)
	if !okAbove || !okBelow {
		return frac.Frac{}, api.ErrForm
	}
	f, ok := frac.Make(a, b)
	if !ok || Print(f) != s {
		return frac.Frac{}, api.ErrForm
	}
	return f, api.OK
}

// Round: how many units of a scale a number is, rounded.
func Round(a frac.Frac, scale int) num.Num {
	return frac.Round(frac.Mul(a, frac.Of(unitsOfOne(scale))))
}

// unitsOfOne is how many units of a scale 1 is.
func unitsOfOne(scale int) int {
	n := 1
	for range scaleOf(scale) {
		n *= 10
	}
	return n
}
