package deci_test

import (
	"math/big"
	"regexp"
	"slices"
	"strings"
	"testing"

	"isohyet/api"
	"isohyet/deci"
	"isohyet/frac"
	"isohyet/mag"
	"isohyet/num"
)

var quotient = regexp.MustCompile(`^(0|-?[1-9][0-9]*(/[1-9][0-9]*)?)$`)

// isPrinted: is the text Print of a number? A Rat tells itself in lowest terms.
func isPrinted(s string) bool {
	if !quotient.MatchString(s) {
		return false
	}
	x, ok := new(big.Rat).SetString(s)
	return ok && x.RatString() == s
}

// isRead tells it, if a text isn't read as what exact numbers say of it.
func isRead(t *testing.T, s string) {
	t.Helper()
	got, e := deci.Read(s)
	switch {
	case len(s) > 800:
		noFrac(t, s, got, e, api.ErrLong)
	case !isPrinted(s):
		noFrac(t, s, got, e, api.ErrForm)
	case e != api.OK:
		t.Fatal(s, e)
	default:
		want, _ := new(big.Rat).SetString(s)
		isFrac(t, s, got, want)
	}
}

// isFrac tells it, if an answer isn't that number, or isn't right.
func isFrac(t *testing.T, what string, got frac.Frac, want *big.Rat) {
	t.Helper()
	if !slices.Equal(got.Den, words(want.Denom())) {
		t.Fatalf("%s: got %v, want %v", what, got, want)
	}
	isNum(t, what, got.Num, want.Num())
}

// noFrac tells it, if that isn't the error, or what stands beside it isn't a zero value.
func noFrac(t *testing.T, what string, got frac.Frac, e, want api.Errno) {
	t.Helper()
	if len(got.Den) != 0 {
		t.Fatalf("%s: got %v and %v", what, got, e)
	}
	noNum(t, what, got.Num, e, want)
}

// of is a divided by b, just as they are.
func of(a, b int) frac.Frac {
	return frac.Frac{Num: num.Of(a), Den: num.Of(b).Mag}
}

func TestPrint(t *testing.T) {
	for _, x := range []struct {
		a frac.Frac
		s string
	}{
		{of(-7, 8), "-7/8"}, {of(-14, 16), "-7/8"}, {of(3, 1), "3"}, {of(6, 2), "3"}, {of(-6, 3), "-2"}, {of(0, 5), "0"}, {of(4, 0), "4"}, {of(1, 10), "1/10"}, {frac.Frac{}, "0"},
		{frac.Frac{Num: num.Num{Minus: true, Mag: mag.Mag{0}}, Den: mag.Mag{3, 0}}, "0"}, {frac.Frac{Num: num.Of(5), Den: mag.Mag{10, 0}}, "1/2"},
		{frac.Frac{Num: num.Of(-1), Den: mag.Mag{0, 1}}, "-1/18446744073709551616"}, {frac.Frac{Num: num.Num{Mag: mag.Mag{0, 3}}, Den: mag.Mag{0, 6}}, "1/2"},
	} {
		if got := deci.Print(x.a); got != x.s {
			t.Fatal(x, got)
		}
	}
	for _, a := range fracs() {
		if got := deci.Print(a); got != value(a).RatString() {
			t.Fatal(a, got)
		}
	}
}

func TestRead(t *testing.T) {
	for _, s := range []string{
		"0", "1", "-1", "1/2", "-1/2", "-7/8", "7/8", "10/3", "100000000000000000000/3", "1/100000000000000000000", "-14/16", "2/4", "3/1", "-3/1", "0/1", "0/5", "-0", "-0/5", "1/0", "0/0", "-1/0",
		"1/-2", "-1/-2", "+1/2", "01/2", "1/02", "1/2/3", "1/2/", "/2", "1/", "/", "-/2", "1 /2", "1/ 2", "1/2 ", "0.5", "1.0", "1/2.0", "1/1", "2/2", "4/2", "0/", "-1/1",
	} {
		isRead(t, s)
	}
	for _, s := range oddTexts() {
		noRead, e := deci.Read(s)
		noFrac(t, s, noRead, e, api.ErrForm)
	}
	texts("-/012+6", 6, func(s string) { isRead(t, s) })
}

// TestReadOfLongTexts: either part may be longer than a whole number's text, as long as both together aren't too long.
func TestReadOfLongTexts(t *testing.T) {
	nines := func(n int) string { return strings.Repeat("9", n) }
	power := func(n int) string { return "1" + strings.Repeat("0", n-1) }
	for _, s := range []string{
		nines(400), nines(401), nines(800), nines(801), "-" + nines(799), "-" + nines(800), power(800), power(801), strings.Repeat("0", 800), strings.Repeat("0", 801),
		nines(600) + "/" + power(199), nines(600) + "/" + power(200), "1/" + power(798), "1/" + power(799), "-1/" + power(797), "-1/" + power(798), nines(400) + "/" + power(399),
		nines(400) + "/" + power(400), nines(400) + "/" + nines(399), nines(400) + "/" + nines(200), power(401) + "/" + nines(398), strings.Repeat("x", 800), strings.Repeat("x", 801), strings.Repeat("/", 800),
	} {
		isRead(t, s)
	}
	if _, e := deci.Read(nines(800)); e != api.OK {
		t.Fatal(e)
	}
	if _, e := deci.Read(nines(600) + "/" + power(199)); e != api.OK {
		t.Fatal(e)
	}
	if _, e := deci.Read(nines(800) + "/"); e != api.ErrLong {
		t.Fatal(e)
	}
}

// TestPrintIsRead: what is told is read as it was.
func TestPrintIsRead(t *testing.T) {
	for _, a := range fracs() {
		got, e := deci.Read(deci.Print(a))
		if e != api.OK {
			t.Fatal(a, e)
		}
		isFrac(t, "Read", got, value(a))
	}
}

// rounded is the nearest whole number of units; of two the even one.
func rounded(x *big.Rat, scale int) *big.Int {
	power := new(big.Int).Exp(big.NewInt(10), big.NewInt(int64(scale)), nil)
	x = new(big.Rat).Mul(x, new(big.Rat).SetInt(power))
	// A Rat's denominator is above 0, where Euclid's quotient goes down.
	down := new(big.Int).Div(x.Num(), x.Denom())
	left := new(big.Rat).Sub(x, new(big.Rat).SetInt(down))
	if side := left.Cmp(big.NewRat(1, 2)); side > 0 || side == 0 && down.Bit(0) == 1 {
		down.Add(down, big.NewInt(1))
	}
	return down
}

func TestRound(t *testing.T) {
	for _, x := range []struct {
		a     frac.Frac
		scale int
		n     int64
	}{
		{of(1, 8), 2, 12}, {of(3, 8), 2, 38}, {of(-1, 8), 2, -12}, {of(-3, 8), 2, -38}, {of(1, 8), 3, 125}, {of(1, 3), 4, 3333}, {of(2, 3), 4, 6667}, {of(-2, 3), 0, -1}, {of(1, 2), 0, 0}, {of(3, 2), 0, 2},
		{of(5, 0), 1, 50}, {of(1, 20), 1, 0}, {of(3, 20), 1, 2}, {of(1, 3), 9, 333333333}, {of(1, 3), 10, 333333333}, {of(5, 2), -1, 2}, {of(0, 3), 5, 0}, {of(-14, 16), 1, -9},
	} {
		isNum(t, "Round", deci.Round(x.a, x.scale), big.NewInt(x.n))
	}
	for _, a := range fracs() {
		for scale, as := range scales() {
			isNum(t, "Round", deci.Round(a, scale), rounded(value(a), as))
		}
	}
}

// TestRoundAtHalves: of numbers that lie between two units, and a little beside.
func TestRoundAtHalves(t *testing.T) {
	little := frac.Frac{Num: num.Of(1), Den: mag.Mag{0, 0, 1}}
	for scale, units := 0, 1; scale <= api.MaxScale; scale, units = scale+1, 10*units {
		for n := -9; n <= 9; n += 2 {
			half := of(n, 2*units)
			for _, a := range []frac.Frac{half, frac.Add(half, little), frac.Sub(half, little)} {
				isNum(t, "Round", deci.Round(a, scale), rounded(value(a), scale))
			}
		}
	}
}

// TestRoundOfUnits: units told as a number are that many units again.
func TestRoundOfUnits(t *testing.T) {
	for _, n := range []int{0, 1, -1, 150, -12345, 1 << 31, -1 << 31} {
		for scale, units := 0, 1; scale <= api.MaxScale; scale, units = scale+1, 10*units {
			isNum(t, "Round", deci.Round(of(n, units), scale), big.NewInt(int64(n)))
		}
	}
}
