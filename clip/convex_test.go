package clip_test

import (
	"slices"
	"testing"

	"isohyet/api"
	"isohyet/clip"
	"isohyet/frac"
	"isohyet/spot"
)

func TestBox(t *testing.T) {
	for _, n := range []int{1, 2, 3, 1000, far - 1, far, far + 1, 1<<40 - 1, 1 << 40} {
		want := spots(-n, -n, n, -n, n, n, -n, n)
		got := clip.Box(n)
		isSame(t, "Box", slices.EqualFunc(got, want, spot.Same), true, n, text(got))
		isSame(t, "Convex of Box", clip.Convex(got), true, n)
		side := frac.Of(2 * n)
		isFrac(t, "Area2 of Box", spot.Area2(got...), frac.Mul(frac.Of(2), frac.Mul(side, side)))
	}
}

// convex holds each point against each side of which it is no end, as the words go.
func convex(l []spot.Spot) bool {
	for i, a := range l {
		next := (i + 1) % len(l)
		for j, s := range l {
			if j != i && j != next && spot.Side(a, l[next], s) != 1 {
				return false
			}
		}
	}
	return len(l) == 0 || len(l) >= 3
}

func isConvex(t *testing.T, l []spot.Spot) {
	t.Helper()
	isSame(t, "Convex", clip.Convex(l), convex(l), text(l))
}

func TestConvexInWords(t *testing.T) {
	star := spots(0, 10, -6, -8, 9, 3, -9, 3, 6, -8)
	five := spots(0, 10, -9, 3, -6, -8, 6, -8, 9, 3)
	for _, x := range []struct {
		what string
		l    []spot.Spot
		want bool
	}{
		{"none", nil, true},
		{"no list", []spot.Spot{}, true},
		{"a point", spots(3, 4), false},
		{"a line", spots(0, 0, 1, 0), false},
		{"three", spots(0, 0, 1, 0, 0, 1), true},
		{"three to the right", spots(0, 0, 0, 1, 1, 0), false},
		{"three on a line", spots(0, 0, 1, 1, 2, 2), false},
		{"three in one place", spots(1, 1, 1, 1, 1, 1), false},
		{"four", spots(0, 0, 2, 0, 2, 2, 0, 2), true},
		{"four to the right", spots(0, 0, 0, 2, 2, 2, 2, 0), false},
		{"four across", spots(0, 0, 2, 2, 2, 0, 0, 2), false},
		{"one turned in", spots(0, 0, 4, 0, 1, 1, 0, 4), false},
		{"one on a side", spots(0, 0, 1, 0, 2, 0, 0, 2), false},
		{"one just off a side", spots(0, 0, 1<<30, -1, 1<<31, 0, 0, 2), true},
		{"one just within a side", spots(0, 0, 1<<30, 1, 1<<31, 0, 0, 2<<30), false},
		{"one twice", spots(0, 0, 2, 0, 2, 0, 0, 2), false},
		{"the first one again", spots(0, 0, 2, 0, 0, 2, 0, 0), false},
		{"five", five, true},
		{"a star", star, false},
		{"three, twice round", spots(0, 0, 1, 0, 0, 1, 0, 0, 1, 0, 0, 1), false},
		{"five, twice round", slices.Concat(five, five), false},
		{"a snail", spots(0, 0, 9, 0, 0, 9, -9, 0, 0, -9, 10, 0, 5, 20), false},
	} {
		isSame(t, "Convex: "+x.what, clip.Convex(x.l), x.want)
		isSame(t, "Convex in words: "+x.what, convex(x.l), x.want)
	}
}

// TestConvexOfShortLists: all lists of some points, one of them often, too.
func TestConvexOfShortLists(t *testing.T) {
	for n, l := range [][]api.Pt{2: board(0, 1, 2), 3: board(0, 1, 2), 4: board(0, 1, 2), 5: board(0, 1, 3)[2:]} {
		lists(n, l, func(l []spot.Spot) { isConvex(t, l) })
	}
}

// lists hands any n of l on.
func lists(n int, l []api.Pt, do func(l []spot.Spot)) {
	if n == 0 {
		do(nil)
		return
	}
	lists(n-1, l, func(ahead []spot.Spot) {
		for _, p := range l {
			do(append(slices.Clone(ahead), spot.Of(p)))
		}
	})
}

// TestConvexOfPolygons: they are, wherever they begin, but not backwards; with one corner more, or less, or two changed, as the words go.
func TestConvexOfPolygons(t *testing.T) {
	for _, l := range polygons() {
		for i := range l {
			turned := append(slices.Clone(l[i:]), l[:i]...)
			isSame(t, "Convex", clip.Convex(turned), true, text(turned))
			isConvex(t, slices.Insert(slices.Clone(l), i, l[i]))
			isConvex(t, slices.Insert(slices.Clone(l), i, spot.Along(l[0], l[len(l)/2], of(1, 2))))
			isConvex(t, slices.Delete(slices.Clone(l), i, i+1))
			for j := range i {
				other := slices.Clone(l)
				other[i], other[j] = other[j], other[i]
				isConvex(t, other)
			}
			slices.Reverse(turned)
			isSame(t, "Convex backwards", clip.Convex(turned), false, text(turned))
		}
	}
}

// TestConvexOfStars: those that skip as many corners each time, so that they go round more than once.
func TestConvexOfStars(t *testing.T) {
	round := spots(5, 0, 4, 3, 3, 4, 0, 5, -3, 4, -4, 3, -5, 0, -4, -3, -3, -4, 0, -5, 3, -4, 4, -3)
	for skip := range 2 * len(round) {
		for n := range 2*len(round) + 1 {
			var l []spot.Spot
			for i := range n {
				l = append(l, round[i*skip%len(round)])
			}
			isConvex(t, l)
		}
	}
}

func TestConvexOfMany(t *testing.T) {
	l := bow(2000)
	isSame(t, "Convex", clip.Convex(l), true)
	for _, i := range []int{0, 1, 999, 1998, 1999} {
		in := slices.Clone(l)
		in[i] = spot.Along(l[(i+1)%len(l)], l[(i+len(l)-1)%len(l)], of(1, 2))
		isSame(t, "Convex with a corner between its neighbours", clip.Convex(in), false, i)
	}
}
