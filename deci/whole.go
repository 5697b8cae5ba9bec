package deci

import (
	"slices"
	"strconv"
	"strings"

	"isohyet/api"
	"isohyet/mag"
	"isohyet/num"
)

// A block is as many digits as a word is sure to hold: numbers are told and read by blocks, not by single digits.
const (
	blockDigits = 19
	blockBase   = 10_000_000_000_000_000_000
)

// Whole: the number of a text.
func Whole(s string) (num.Num, api.Errno) {
	if len(s) > api.MaxDigits {
		return num.Num{}, api.ErrLong
	}
	a, ok := whole(s)
	if !ok {
		return num.Num{}, api.ErrForm
	}
	return a, api.OK
}

// Digits: a whole number's text.
func Digits(a num.Num) string {
	return signText(a) + digitsOf(a.Mag)
}

// whole is the number of which s is Digits, however long; false: of none.
func whole(s string) (num.Num, bool) {
	rest, minus := strings.CutPrefix(s, "-")
	if !isDigits(rest) || rest[0] == '0' && s != "0" {
		return num.Num{}, false
	}
	return num.Make(minus, value(rest)), true
}

// signText is what stands ahead of a number's digits.
func signText(a num.Num) string {
	if num.Sign(a) < 0 {
		return "-"
	}
	return ""
}

// digitsOf are a magnitude's.
func digitsOf(m mag.Mag) string {
	base := mag.Of(blockBase)
	var blocks []uint64
	for mag.Cmp(m, base) >= 0 {
		quot, rest := mag.Div(m, base)
		m, blocks = quot, append(blocks, word(rest))
	}
	out := strconv.AppendUint(nil, word(m), 10)
	for _, b := range slices.Backward(blocks) {
		out = append(out, padded(strconv.FormatUint(b, 10), blockDigits)...)
	}
	return string(out)
}

// word is a magnitude that is known to be no more than one.
func word(m mag.Mag) uint64 {
	if len(m) == 0 {
		return 0
	}
	return m[0]
}

// padded has 0s ahead, till it has so many digits.
func padded(digits string, n int) string {
	return zeros(n-len(digits)) + digits
}

// value is the magnitude of any number of digits.
func value(digits string) mag.Mag {
	var m mag.Mag
	for len(digits) > 0 {
		// The first block is the short one, if one is: those behind it are whole ones.
		n := (len(digits)-1)%blockDigits + 1
		m = mag.Add(mag.Mul(m, mag.Of(blockBase)), mag.Of(blockValue(digits[:n])))
		digits = digits[n:]
	}
	return m
}

// blockValue is the number of a block's digits, or of fewer.
func blockValue(digits string) uint64 {
	w := uint64(0)
	for _, c := range []byte(digits) {
		w = 10*w + uint64(c-'0')
	}
	return w
}
