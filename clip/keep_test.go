package clip_test

import (
	"math"
	"reflect"
	"slices"
	"testing"

	"isohyet/api"
	"isohyet/clip"
	"isohyet/frac"
	"isohyet/num"
	"isohyet/spot"
)

// deep is a number in memory of its own, with its words just as they are.
func deep(a frac.Frac) frac.Frac {
	return frac.Frac{Num: num.Num{Minus: a.Num.Minus, Mag: slices.Clone(a.Num.Mag)}, Den: slices.Clone(a.Den)}
}

// deepList is a list in memory of its own, with one more point behind its end.
func deepList(l []spot.Spot) []spot.Spot {
	var out []spot.Spot
	for _, s := range l {
		out = append(out, at(deep(s.X), deep(s.Y)))
	}
	return append(out, spots(4711, 4711)...)[:len(l)]
}

// isUntouched tells it, if a list of deepList, or the point behind its end, isn't as it was.
func isUntouched(t *testing.T, l, was []spot.Spot) {
	t.Helper()
	n := len(was)
	if !reflect.DeepEqual(l[:n+1], deepList(was)[:n+1]) {
		t.Fatal("an argument is changed:", text(l[:n+1]), text(was))
	}
}

// TestArgumentsStay: neither lists nor numbers that are handed in are changed, nor what lies behind a list's end.
func TestArgumentsStay(t *testing.T) {
	for _, was := range polygons() {
		for _, h := range halves() {
			l := deepList(was)
			with := clip.Half{A: deep(h.A), B: deep(h.B), C: deep(h.C)}
			clip.Clip(l, with)
			clip.Convex(l)
			clip.Value(with, l[:len(l)+1][0])
			isUntouched(t, l, was)
			isSame(t, "the half-plane is as it was", reflect.DeepEqual(with, h), true, h)
		}
		l, others := deepList(was), board(-1, 0, 2)
		clip.Cell(pt(1, 1), others, l)
		isUntouched(t, l, was)
		isSame(t, "the others are as they were", slices.Equal(others, board(-1, 0, 2)), true)
	}
}

// spoil writes into all the room that a list has.
func spoil(l []spot.Spot) {
	l = l[:cap(l)]
	for i := range l {
		l[i] = spot.Spot{X: frac.Of(-4711)}
	}
}

// TestAnswersAreNew: who writes into a list that was answered doesn't change the one handed in, nor another answer.
func TestAnswersAreNew(t *testing.T) {
	for _, was := range polygons() {
		l := deepList(was)
		for _, c := range []int{1, 1000, 1 << 50} {
			first, second := clip.Clip(l, half(1, 1, c)), clip.Clip(l, half(1, 1, c))
			want := text(second)
			spoil(first)
			isUntouched(t, l, was)
			isSame(t, "another answer", text(second), want)
		}
		for _, others := range [][]api.Pt{nil, {}, board(-1, 0, 2)} {
			spoil(clip.Cell(pt(1, 1), others, l))
			isUntouched(t, l, was)
		}
	}
	spoil(clip.Box(3))
	isPolygon(t, "Box", clip.Box(3), spots(-3, -3, 3, -3, 3, 3, -3, 3))
}

// TestOfOthers: of what a caller may not hand in nothing is said, but there is an answer, and always the same.
func TestOfOthers(t *testing.T) {
	lists := [][]spot.Spot{spots(1, 1), spots(0, 0, 1, 1), spots(0, 0, 0, 1, 1, 0), spots(0, 0, 2, 2, 2, 0, 0, 2), make([]spot.Spot, 5)}
	for _, l := range append(lists, polygons()...) {
		for _, h := range append(halves(), clip.Half{}, half(0, 0, 1), half(0, 0, -1)) {
			isSame(t, "Clip", text(clip.Clip(l, h)), text(clip.Clip(l, h)))
		}
		for _, p := range board(math.MinInt, -far-1, 0, 1, math.MaxInt) {
			others := board(math.MinInt, 0, math.MaxInt)
			isSame(t, "Cell", text(clip.Cell(p, others, l)), text(clip.Cell(p, others, l)))
		}
	}
	for _, n := range []int{0, -1, 1<<40 + 1, math.MinInt, math.MaxInt} {
		isSame(t, "Box", text(clip.Box(n)), text(clip.Box(n)))
	}
	same := clip.Nearer(pt(1, 1), pt(1, 1))
	isFrac(t, "Value of Nearer of a point and itself", clip.Value(same, spot.Of(pt(5, 7))), clip.Value(same, spot.Of(pt(5, 7))))
}
