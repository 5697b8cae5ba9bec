package deci_test

import (
	"math"
	"math/big"
	"regexp"
	"strconv"
	"strings"
	"testing"

	"isohyet/api"
	"isohyet/deci"
)

var decimal = regexp.MustCompile(`^[+-]?[0-9]+(\.[0-9]+)?$`)

// parsed is what Parse is to answer, found by exact numbers alone.
func parsed(s string, scale int) (int, api.Errno) {
	if len(s) > 400 {
		return 0, api.ErrLong
	}
	if !decimal.MatchString(s) {
		return 0, api.ErrForm
	}
	n, _ := new(big.Rat).SetString(s)
	n.Mul(n, new(big.Rat).SetInt(new(big.Int).Exp(big.NewInt(10), big.NewInt(int64(scale)), nil)))
	if !n.IsInt() {
		return 0, api.ErrArg
	}
	if new(big.Int).Abs(n.Num()).Cmp(big.NewInt(1<<31)) > 0 {
		return 0, api.ErrFar
	}
	return int(n.Num().Int64()), api.OK
}

// isParsed tells it, if Parse answers something else.
func isParsed(t *testing.T, s string, scale, n int, e api.Errno) {
	t.Helper()
	if gotN, gotE := deci.Parse(s, scale); gotN != n || gotE != e {
		t.Fatalf("Parse(%q, %d): got %d and %v, want %d and %v", s, scale, gotN, gotE, n, e)
	}
}

func TestParse(t *testing.T) {
	for _, x := range []struct {
		s        string
		scale, n int
		e        api.Errno
	}{
		{"-0.5", 2, -50, 0}, {"+0.5", 2, 50, 0}, {"0.5", 2, 50, 0}, {"1.5", 2, 150, 0}, {"7", 0, 7, 0}, {"7", 3, 7000, 0}, {"-7", 9, 0, api.ErrFar},
		{"0", 0, 0, 0}, {"-0", 0, 0, 0}, {"+0", 9, 0, 0}, {"-0.00", 1, 0, 0}, {"000", 2, 0, 0}, {"-007.10", 1, -71, 0}, {"0.000000001", 9, 1, 0},
		{"1.5", 0, 0, api.ErrArg}, {"1.0", 0, 1, 0}, {"1.10", 1, 11, 0}, {"1.01", 1, 0, api.ErrArg}, {"0.0000000001", 9, 0, api.ErrArg}, {"0.0000000000", 9, 0, 0},
	} {
		isParsed(t, x.s, x.scale, x.n, x.e)
	}
}

func TestParseFarEnds(t *testing.T) {
	for _, x := range []struct {
		s     string
		scale int
		n     int
	}{
		{"2147483648", 0, 1 << 31}, {"-2147483648", 0, -1 << 31}, {"+2147483648.000", 0, 1 << 31}, {"21474836.48", 2, 1 << 31}, {"-2.147483648", 9, -1 << 31},
		{"000000000000000000000000000002147483648", 0, 1 << 31},
	} {
		isParsed(t, x.s, x.scale, x.n, api.OK)
	}
	for _, x := range []struct {
		s     string
		scale int
	}{
		{"2147483649", 0}, {"-2147483649", 0}, {"21474836.49", 2}, {"-2.147483649", 9}, {"3", 9}, {"214748365", 1}, {"9223372036854775808", 0}, {"18446744073709551616", 0},
		{"18446744073709551617", 0}, {"-36893488147419103232", 0}, {"18446744073.709551616", 9}, {strings.Repeat("9", 400), 0}, {"1" + strings.Repeat("0", 399), 9},
	} {
		isParsed(t, x.s, x.scale, 0, api.ErrFar)
	}
}

// TestParseFirstError: of several errors the one named first is told.
func TestParseFirstError(t *testing.T) {
	isParsed(t, strings.Repeat("x", 401), 0, 0, api.ErrLong)
	isParsed(t, strings.Repeat("x", 400), 0, 0, api.ErrForm)
	isParsed(t, strings.Repeat("0", 401), 0, 0, api.ErrLong)
	isParsed(t, strings.Repeat("0", 400), 0, 0, api.OK)
	isParsed(t, "-"+strings.Repeat("0", 398)+"8", 0, -8, api.OK)
	isParsed(t, "-"+strings.Repeat("0", 399)+"8", 0, 0, api.ErrLong)
	isParsed(t, "1."+strings.Repeat("0", 398), 0, 1, api.OK)
	isParsed(t, "1."+strings.Repeat("0", 399), 0, 0, api.ErrLong)
	isParsed(t, "1."+strings.Repeat("0", 397)+"1", 9, 0, api.ErrArg)
	isParsed(t, strings.Repeat("é", 200), 0, 0, api.ErrForm)
	isParsed(t, strings.Repeat("é", 201), 0, 0, api.ErrLong)
	isParsed(t, "99999999999.5", 0, 0, api.ErrArg)
	isParsed(t, "99999999999.50", 1, 0, api.ErrFar)
	isParsed(t, "99999999999.5x", 0, 0, api.ErrForm)
	isParsed(t, "1.5", math.MinInt, 0, api.ErrArg)
	isParsed(t, "1.000000001", math.MaxInt, 1000000001, api.OK)
}

func TestParseOddTexts(t *testing.T) {
	for _, s := range oddTexts() {
		for scale := range scales() {
			isParsed(t, s, scale, 0, api.ErrForm)
		}
	}
}

// TestParseAnyText: all short texts at all scales, against exact numbers.
func TestParseAnyText(t *testing.T) {
	texts("+-.015 ", 5, func(s string) {
		for scale, as := range scales() {
			n, e := parsed(s, as)
			isParsed(t, s, scale, n, e)
		}
	})
}

// TestParseAboutItsEnd: whole texts about the farthest, at all scales, with some digits behind that are too many or too few.
func TestParseAboutItsEnd(t *testing.T) {
	for _, n := range []int{0, 5, 1<<31 - 1, 1 << 31, 1<<31 + 1, 1 << 32, 1<<31 - 10, 1<<31 + 10} {
		digits := strings.Repeat("0", 12) + strconv.Itoa(n)
		for point := 1; point < len(digits); point++ {
			for _, sign := range []string{"", "-", "+"} {
				for _, more := range []string{"", "0", "000", "1", "0001"} {
					s := sign + digits[:point] + "." + digits[point:] + more
					for scale, as := range scales() {
						want, e := parsed(s, as)
						isParsed(t, s, scale, want, e)
					}
				}
			}
		}
	}
}

func TestText(t *testing.T) {
	for _, x := range []struct {
		n, scale int
		s        string
	}{
		{-50, 2, "-0.50"}, {0, 0, "0"}, {0, 2, "0.00"}, {5, 3, "0.005"}, {-5, 3, "-0.005"}, {-1234, 2, "-12.34"}, {1234, 4, "0.1234"}, {1234, 3, "1.234"}, {1234, 0, "1234"}, {-9, 0, "-9"},
		{7, 99, "0.000000007"}, {-7, 9, "-0.000000007"}, {7, -1, "7"}, {100, 1, "10.0"}, {1 << 31, 9, "2.147483648"}, {-1 << 31, 0, "-2147483648"},
		{math.MaxInt, 0, "9223372036854775807"}, {math.MinInt, 0, "-9223372036854775808"}, {math.MinInt, 9, "-9223372036.854775808"}, {math.MaxInt, math.MaxInt, "9223372036.854775807"},
		{math.MinInt, math.MinInt, "-9223372036854775808"},
	} {
		if got := deci.Text(x.n, x.scale); got != x.s {
			t.Fatal(x, got)
		}
	}
}

// TestTextIsParsed: what is told is read as it was.
func TestTextIsParsed(t *testing.T) {
	var l []int
	for n := 1; n <= 1<<31; n *= 2 {
		l = append(l, n-1, n, 1-n, -n)
	}
	for n := 1; n <= 1<<31; n *= 10 {
		l = append(l, n-1, n, n+1, 1-n, -n, -n-1)
	}
	for _, n := range l {
		for scale := range scales() {
			isParsed(t, deci.Text(n, scale), scale, n, api.OK)
		}
	}
}
