package frac

import (
	"isohyet/mag"
	"isohyet/num"
)

// Floor: the greatest whole number that isn't above.
func Floor(a Frac) num.Num {
	down, _ := parts(a)
	return down
}

// Round: the nearest whole number; of two the even one.
func Round(a Frac) num.Num {
	down, rest := parts(a)
	switch mag.Cmp(mag.Up(rest, 1), den(a)) {
	case -1:
		return down
	case 0:
		if !odd(down) {
			return down
		}
	}
	return num.Add(down, num.Of(1))
}

// parts is the greatest whole number that isn't above a, and how many of a's parts are left.
func parts(a Frac) (num.Num, mag.Mag) {
	down, rest := num.Div(a.Num, num.Num{Mag: den(a)})
	return down, rest.Mag
}

// odd tells it of a number that is right.
func odd(a num.Num) bool {
	return len(a.Mag) > 0 && a.Mag[0]&1 == 1
}
