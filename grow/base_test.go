package grow_test

import (
	"slices"
	"testing"

	"isohyet/api"
	"isohyet/grow"
)

// baseInWords are, by the chapter's words and exact numbers, three points that don't lie on a line.
func baseInWords(l []api.Pt) ([3]int, bool) {
	for b := range l {
		if l[b] == l[0] {
			continue
		}
		for c := b + 1; c < len(l); c++ {
			if turn(l[0], l[b], l[c]) != 0 {
				return [3]int{0, b, c}, true
			}
		}
		break
	}
	return [3]int{}, false
}

// onLine tells whether all points lie on one line: no three of them turn.
func onLine(l []api.Pt) bool {
	for a := range l {
		for b := range l {
			for c := range l {
				if turn(l[a], l[b], l[c]) != 0 {
					return false
				}
			}
		}
	}
	return true
}

// isBase tells it, if Base doesn't answer by the words.
func isBase(t *testing.T, what string, l []api.Pt) {
	t.Helper()
	was := slices.Clone(l)
	want, is := baseInWords(l)
	got, ok := grow.Base(l)
	isSame(t, "Base: "+what, got, want, l)
	isSame(t, "Base: "+what, ok, is, l)
	isList(t, "Base changes nothing: "+what, l, was)
}

// TestBase: all short lists of points of a small board, with the same one many times, too.
func TestBase(t *testing.T) {
	places := board(0, 1, 2)
	var each func(l []api.Pt, more int)
	each = func(l []api.Pt, more int) {
		isBase(t, "a small board", l)
		_, ok := grow.Base(l)
		isSame(t, "just those on a line have none", ok, !onLine(l), l)
		if more == 0 {
			return
		}
		for _, p := range places {
			each(append(l[:len(l):len(l)], p), more-1)
		}
	}
	each(nil, 4)
}

// TestBaseFar: a step off a line, at the greatest coordinates.
func TestBaseFar(t *testing.T) {
	row := pts(-far, -far, far, far, 0, 0, -far, -far, 1, 1)
	isBase(t, "a line", row)
	for _, p := range pts(far, far-1, far-1, far, 0, 1, 1, 0, -far, 1-far, -1, 0) {
		for i := range len(row) + 1 {
			isBase(t, "a step off a line", slices.Insert(slices.Clone(row), i, p))
		}
	}
	isBase(t, "three", pts(-far, -far, 0, -1, far, far))
	isBase(t, "beside each other", pts(far, far, far, far-1, far-1, far))
	isBase(t, "a long line", append(pts(0, 1), pts(-far, 0, far, 0, 0, 0, 7, 0)...))
}

// TestBaseLong: mixed lists, many of their points at the same places, or on a line.
func TestBaseLong(t *testing.T) {
	d := dice(3)
	late := 0
	for n := range 3000 {
		var l []api.Pt
		p, q := pt(d.below(9)-4, d.below(9)-4), pt(d.below(3)-1, d.below(3)-1)
		for range 1 + n%12 {
			k := d.below(4)
			l = append(l, pt(p.X+k*q.X, p.Y+k*q.Y))
		}
		if n%3 > 0 {
			l = append(l, pt(d.below(9)-4, d.below(9)-4), pt(d.below(9)-4, d.below(9)-4))
		}
		isBase(t, "mixed", l)
		if b, ok := grow.Base(l); ok && b[1] > 1 && b[2] > b[1]+1 {
			late++
		}
	}
	isSame(t, "some have others between", late > 100, true, late)
}

// TestBaseInWords: the chapter's words.
func TestBaseInWords(t *testing.T) {
	for _, x := range []struct {
		l    []api.Pt
		want [3]int
		ok   bool
	}{
		{nil, [3]int{}, false},
		{pts(), [3]int{}, false},
		{pts(5, 5), [3]int{}, false},
		{pts(5, 5, 5, 5, 5, 5), [3]int{}, false},
		{pts(0, 0, 3, 1), [3]int{}, false},
		{pts(0, 0, 3, 1, 6, 2, -3, -1, 0, 0, 3, 1), [3]int{}, false},
		{pts(0, 0, 1, 0, 0, 1), [3]int{0, 1, 2}, true},
		{pts(0, 0, 0, 1, 1, 0), [3]int{0, 1, 2}, true},
		{pts(0, 0, 0, 0, 1, 0, 1, 0, 2, 0, 0, 0, 0, 1, 5, 5), [3]int{0, 2, 6}, true},
	} {
		got, ok := grow.Base(x.l)
		isSame(t, "Base", got, x.want, x.l)
		isSame(t, "Base", ok, x.ok, x.l)
	}
}
