package clip_test

import (
	"slices"
	"testing"

	"isohyet/api"
	"isohyet/clip"
	"isohyet/deci"
	"isohyet/frac"
	"isohyet/mag"
	"isohyet/num"
	"isohyet/spot"
)

const far = api.MaxCoord

func pt(x, y int) api.Pt {
	return api.Pt{X: x, Y: y}
}

// of is a divided by b.
func of(a, b int) frac.Frac {
	out, _ := frac.Make(num.Of(a), num.Of(b))
	return out
}

func at(x, y frac.Frac) spot.Spot {
	return spot.Spot{X: x, Y: y}
}

// spots are the points of which these are x, y, x, y ..
func spots(coords ...int) []spot.Spot {
	var out []spot.Spot
	for i := 0; i < len(coords); i += 2 {
		out = append(out, at(frac.Of(coords[i]), frac.Of(coords[i+1])))
	}
	return out
}

// half is the half-plane of a x + b y no more than c.
func half(a, b, c int) clip.Half {
	return clip.Half{A: frac.Of(a), B: frac.Of(b), C: frac.Of(c)}
}

// back is the half-plane beyond h, with the same border.
func back(h clip.Half) clip.Half {
	return clip.Half{A: frac.Neg(h.A), B: frac.Neg(h.B), C: frac.Neg(h.C)}
}

// odd are numbers as anybody may hand them in: not in lowest terms, not right, without a denominator.
func odd() []frac.Frac {
	return []frac.Frac{
		{},
		{Num: num.Num{Minus: true, Mag: mag.Mag{0, 0}}, Den: mag.Mag{6}},
		{Num: num.Num{Mag: mag.Mag{2, 0}}, Den: mag.Mag{0, 0}},
		{Num: num.Num{Minus: true, Mag: mag.Mag{6}}, Den: mag.Mag{4, 0}},
		{Num: num.Num{Mag: mag.Mag{10, 10}}, Den: mag.Mag{6, 6}},
		{Num: num.Num{Mag: mag.Mag{7, 0, 1}}, Den: mag.Mag{5, 9}},
	}
}

// board are all points whose coordinates are any of those handed in.
func board(coords ...int) []api.Pt {
	var out []api.Pt
	for _, x := range coords {
		for _, y := range coords {
			out = append(out, pt(x, y))
		}
	}
	return out
}

// mixed are n points of mixed bits, no farther than most from 0 to either side.
func mixed(n, most int) []api.Pt {
	var out []api.Pt
	state := uint64(0x9e3779b97f4a7c15)
	next := func() int {
		state = state*6364136223846793005 + 1442695040888963407
		return int(state>>31)%(2*most+1) - most
	}
	for range n {
		out = append(out, pt(next(), next()))
	}
	return out
}

// bow are n corners of a polygon that turns left by little: most of them lie on a parabola.
func bow(n int) []spot.Spot {
	var out []spot.Spot
	for i := range n {
		out = append(out, spots(i, i*i)...)
	}
	return out
}

// polygons are convex ones: of three corners and of many, small and great, with corners that aren't whole, or not in lowest terms.
func polygons() [][]spot.Spot {
	three := clip.Clip(clip.Box(2), half(3, 5, 1))
	cell := clip.Cell(pt(0, 0), []api.Pt{pt(3, 1), pt(-1, 4), pt(-3, -1), pt(1, -5), pt(3, -2)}, clip.Box(9))
	n := odd()
	return [][]spot.Spot{
		nil,
		clip.Box(1),
		clip.Box(1 << 40),
		spots(0, 0, 3, 0, 0, 3),
		spots(-1, 0, 0, -1, 1, 0, 0, 1),
		spots(1, -2, 2, -1, 2, 1, 1, 2, -1, 2, -2, 1, -2, -1, -1, -2),
		spots(-far, -far, far, far-1, far, far),
		bow(12),
		three,
		cell,
		{at(n[1], n[0]), at(n[2], n[1]), at(n[4], n[5])},
		{at(n[3], n[3]), at(n[2], n[3]), at(n[2], n[2]), at(n[3], n[2])},
	}
}

// halves are half-planes of many slopes, near to 0, 0 and far from it.
func halves() []clip.Half {
	var out []clip.Half
	for _, slope := range board(-2, -1, 0, 1, 3) {
		if slope == pt(0, 0) {
			continue
		}
		for _, c := range []int{-40, -3, -1, 0, 1, 2, 3, 40} {
			out = append(out, half(slope.X, slope.Y, c))
		}
	}
	for _, a := range odd() {
		for _, c := range odd() {
			out = append(out, clip.Half{A: a, B: of(-2, 7), C: c}, clip.Half{A: of(1, far), B: a, C: c})
		}
	}
	return out
}

// text is a polygon as it is shown to who reads of a broken test.
func text(l []spot.Spot) string {
	out := ""
	for _, s := range l {
		out += " " + deci.Print(s.X) + "," + deci.Print(s.Y)
	}
	return "[" + out + " ]"
}

// samePolygon tells whether two are the same, be it that one begins at another corner.
func samePolygon(a, b []spot.Spot) bool {
	if len(a) != len(b) {
		return false
	}
	for from := range a {
		if slices.EqualFunc(append(slices.Clone(a[from:]), a[:from]...), b, spot.Same) {
			return true
		}
	}
	return len(a) == 0
}

func isPolygon(t *testing.T, what string, got, want []spot.Spot) {
	t.Helper()
	if !samePolygon(got, want) {
		t.Fatalf("%s: got %s, want %s", what, text(got), text(want))
	}
}

func isFrac(t *testing.T, what string, got, want frac.Frac) {
	t.Helper()
	if !frac.Same(got, want) {
		t.Fatalf("%s: got %s, want %s", what, deci.Print(got), deci.Print(want))
	}
}

// isSame tells it, if an answer isn't the one that is asked.
func isSame[T comparable](t *testing.T, what string, got, want T, of ...any) {
	t.Helper()
	if got != want {
		t.Fatalf("%s of %v: got %v, want %v", what, of, got, want)
	}
}
