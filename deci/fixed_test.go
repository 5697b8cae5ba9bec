package deci_test

import (
	"math/big"
	"regexp"
	"strconv"
	"strings"
	"testing"

	"isohyet/api"
	"isohyet/deci"
	"isohyet/num"
)

// fixed is what Fixed is to answer: a big number tells so many digits by itself, and it is so long that nothing is rounded.
func fixed(a num.Num, scale int) string {
	power := new(big.Int).Exp(big.NewInt(10), big.NewInt(int64(scale)), nil)
	return new(big.Rat).SetFrac(whole(a), power).FloatString(scale)
}

// fixedForm is how a text is that is Fixed at a scale, but for -0.
func fixedForm(scale int) *regexp.Regexp {
	if scale == 0 {
		return regexp.MustCompile(`^-?(0|[1-9][0-9]*)$`)
	}
	return regexp.MustCompile(`^-?(0|[1-9][0-9]*)\.[0-9]{` + strconv.Itoa(scale) + `}$`)
}

// isFixed: is the text Fixed of a number?
func isFixed(form *regexp.Regexp, s string) bool {
	return form.MatchString(s) && (s[0] != '-' || strings.ContainsAny(s, "123456789"))
}

func TestFixed(t *testing.T) {
	for _, x := range []struct {
		n, scale int
		s        string
	}{{0, 0, "0"}, {0, 1, "0.0"}, {-5, 1, "-0.5"}, {-50, 2, "-0.50"}, {12345, 2, "123.45"}, {10, 1, "1.0"}, {-100, 9, "-0.000000100"}, {3, -4, "3"}, {3, 10, "0.000000003"}} {
		if got := deci.Fixed(num.Of(x.n), x.scale); got != x.s {
			t.Fatal(x, got)
		}
	}
	for _, a := range nums() {
		for scale, as := range scales() {
			if got := deci.Fixed(a, scale); got != fixed(a, as) {
				t.Fatal(a, scale, got)
			}
		}
	}
}

// TestTextIsFixed: both tell the same of an int.
func TestTextIsFixed(t *testing.T) {
	for _, a := range nums() {
		n, ok := num.Int(a)
		if !ok {
			continue
		}
		for scale := range scales() {
			if deci.Text(n, scale) != deci.Fixed(a, scale) {
				t.Fatal(n, scale)
			}
		}
	}
}

func TestUnits(t *testing.T) {
	for _, x := range []struct {
		s     string
		scale int
		n     int64
	}{{"-0.50", 2, -50}, {"0.00", 2, 0}, {"0", 0, 0}, {"12", 0, 12}, {"12.3", 1, 123}, {"-1.000000001", 9, -1000000001}, {"7", -3, 7}, {"0.000000007", 12, 7}} {
		got, e := deci.Units(x.s, x.scale)
		if e != api.OK {
			t.Fatal(x, e)
		}
		isNum(t, x.s, got, big.NewInt(x.n))
	}
	for _, x := range []struct {
		s     string
		scale int
	}{
		{"-0.00", 2}, {"-0", 0}, {"+1", 0}, {"+1.00", 2}, {"00.50", 2}, {"01", 0}, {"-01.50", 2}, {".50", 2}, {"0.5", 2}, {"0.500", 2}, {"50", 2}, {"1.", 0}, {"1.0", 0}, {"5", 1}, {"1.2.3", 1},
		{"0..5", 1}, {"0.-5", 1}, {"0.5", 0}, {"0.5-", 2}, {"0.05.", 2}, {"0.0 ", 2}, {"0:00", 2}, {"1e3", 0}, {"0,50", 2}, {"1.0000000000", 10}, {"0.5\n", 1},
	} {
		got, e := deci.Units(x.s, x.scale)
		noNum(t, x.s, got, e, api.ErrForm)
	}
	for _, s := range oddTexts() {
		for scale := range scales() {
			got, e := deci.Units(s, scale)
			noNum(t, s, got, e, api.ErrForm)
		}
	}
}

// TestUnitsOfAnyText: all short texts, at the scales that they may be of.
func TestUnitsOfAnyText(t *testing.T) {
	for scale := range 4 {
		form := fixedForm(scale)
		texts("-.01+9", 6, func(s string) {
			got, e := deci.Units(s, scale)
			if !isFixed(form, s) {
				noNum(t, s, got, e, api.ErrForm)
				return
			}
			if e != api.OK {
				t.Fatal(s, scale, e)
			}
			isNum(t, s, got, bigOf(strings.Replace(s, ".", "", 1)))
		})
	}
}

func TestUnitsOfLongTexts(t *testing.T) {
	for _, s := range []string{"1" + strings.Repeat("0", 396) + ".25", "-" + strings.Repeat("9", 396) + ".99"} {
		got, e := deci.Units(s, 2)
		if len(s) != 400 || e != api.OK {
			t.Fatal(len(s), e)
		}
		isNum(t, s, got, bigOf(strings.Replace(s, ".", "", 1)))
		got, e = deci.Units(s, 1)
		noNum(t, s, got, e, api.ErrForm)
		s = s[:1] + "1" + s[1:]
		got, e = deci.Units(s, 2)
		noNum(t, s, got, e, api.ErrLong)
	}
	got, e := deci.Units(strings.Repeat("x", 401), 0)
	noNum(t, "no number, and long", got, e, api.ErrLong)
	got, e = deci.Units(strings.Repeat("x", 400), 0)
	noNum(t, "no number", got, e, api.ErrForm)
}

// TestFixedIsUnits: what is told is read as it was.
func TestFixedIsUnits(t *testing.T) {
	for _, a := range nums() {
		for scale := range scales() {
			got, e := deci.Units(deci.Fixed(a, scale), scale)
			if e != api.OK {
				t.Fatal(a, scale, e)
			}
			isNum(t, "Units", got, whole(a))
		}
	}
}
