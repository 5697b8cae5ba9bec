package deci

import (
	"strings"

	"isohyet/api"
	"isohyet/num"
)

// Fixed: the text of so many units.
func Fixed(a num.Num, scale int) string {
	scale = scaleOf(scale)
	text := padded(digitsOf(a.Mag), scale+1)
	if scale == 0 {
		return signText(a) + text
	}
	point := len(text) - scale
	return signText(a) + text[:point] + "." + text[point:]
}

// Units: so many, of which a text is Fixed.
func Units(s string, scale int) (num.Num, api.Errno) {
	if len(s) > api.MaxDigits {
		return num.Num{}, api.ErrLong
	}
	rest, minus := strings.CutPrefix(s, "-")
	front, behind, _ := strings.Cut(rest, ".")
	if !isDigits(front + behind) {
		return num.Num{}, api.ErrForm
	}
	a := num.Make(minus, value(front+behind))
	// Where the point may stand, which 0s are needless, and that there is no -0, telling it again says best.
	if Fixed(a, scale) != s {
		return num.Num{}, api.ErrForm
	}
	return a, api.OK
}
