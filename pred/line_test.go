package pred_test

import (
	"math/big"
	"testing"

	"isohyet/api"
	"isohyet/pred"
)

// share tells where p lies on the line from a to b: 0 at a, 1 at b; false: it doesn't lie on all the line through them.
func share(p, a, b api.Pt) (*big.Rat, bool) {
	if a == b {
		return new(big.Rat), p == a
	}
	from, way := p.X-a.X, b.X-a.X
	if way == 0 {
		from, way = p.Y-a.Y, b.Y-a.Y
	}
	t := big.NewRat(int64(from), int64(way))
	return t, reached(a, b, t, p)
}

// reached tells whether a and t times the way to b is p.
func reached(a, b api.Pt, t *big.Rat, p api.Pt) bool {
	is := func(from, to, at int) bool {
		way := new(big.Rat).SetInt64(int64(to - from))
		return way.Mul(way, t).Cmp(new(big.Rat).SetInt64(int64(at-from))) == 0
	}
	return is(a.X, b.X, p.X) && is(a.Y, b.Y, p.Y)
}

// side tells whether a share is from 0 up to 1, and whether it is strictly between.
func side(t *big.Rat) (bool, bool) {
	low, high := t.Sign(), t.Cmp(big.NewRat(1, 1))
	return low >= 0 && high <= 0, low > 0 && high < 0
}

// lies tells, by shares, whether p lies on the line from a to b, and whether between its ends.
func lies(p, a, b api.Pt) (bool, bool) {
	t, ok := share(p, a, b)
	if !ok {
		return false, false
	}
	on, between := side(t)
	return on, between && p != a && p != b
}

// isOn tells it, if what is told of a point and a line isn't as shares have it.
func isOn(t *testing.T, p, a, b api.Pt) {
	t.Helper()
	on, between := lies(p, a, b)
	isSame(t, "On", pred.On(p, a, b), on, p, a, b)
	isSame(t, "Between", pred.Between(p, a, b), between, p, a, b)
}

func TestOn(t *testing.T) {
	for _, l := range [][]api.Pt{small(5), great(), square(-far, 0, 1, far)} {
		triples(l, func(p, a, b api.Pt) { isOn(t, p, a, b) })
	}
}

func TestOnInWords(t *testing.T) {
	a, b := pt(-2, -1), pt(4, 2)
	for _, x := range []struct {
		p           api.Pt
		on, between bool
	}{
		{pt(0, 0), true, true}, {pt(2, 1), true, true},
		{a, true, false}, {b, true, false},
		{pt(6, 3), false, false}, {pt(-4, -2), false, false},
		{pt(1, 0), false, false}, {pt(1, 1), false, false},
	} {
		for _, ends := range [][2]api.Pt{{a, b}, {b, a}} {
			isSame(t, "On", pred.On(x.p, ends[0], ends[1]), x.on, x.p)
			isSame(t, "Between", pred.Between(x.p, ends[0], ends[1]), x.between, x.p)
		}
	}
}

// TestOnALineOfOnePoint: it has that point, at both its ends, and none between.
func TestOnALineOfOnePoint(t *testing.T) {
	for _, p := range great() {
		for _, a := range great() {
			isSame(t, "On", pred.On(p, a, a), p == a, p, a)
			isSame(t, "Between", pred.Between(p, a, a), false, p, a)
		}
	}
}

// TestOnLongLines: the longest one, and one that has no whole point between its ends.
func TestOnLongLines(t *testing.T) {
	a, b := pt(-far, -far), pt(far, far)
	for _, n := range []int{-far + 1, -1, 0, 1, far - 1} {
		isSame(t, "Between", pred.Between(pt(n, n), a, b), true, pt(n, n))
		isSame(t, "On", pred.On(pt(n, n-1), a, b), false, pt(n, n-1))
	}
	for _, p := range []api.Pt{pt(0, 0), pt(-far+1, -far+1), pt(far-1, far-2), pt(far, far)} {
		isSame(t, "On", pred.On(p, a, pt(far, far-1)), false, p)
	}
}

// common tells, by shares of both lines, whether they have any point in common, and whether just one within both.
func common(a, b, c, d api.Pt) (bool, bool) {
	bx, by := across(a, b)
	dx, dy := across(c, d)
	cx, cy := across(a, c)
	all := det(bx, by, dx, dy)
	if all.Sign() == 0 {
		return touch(a, b, c, d), false
	}
	meets, inner := side(new(big.Rat).SetFrac(det(cx, cy, dx, dy), all))
	meetsToo, innerToo := side(new(big.Rat).SetFrac(det(cx, cy, bx, by), all))
	return meets && meetsToo, inner && innerToo
}

// touch tells whether an end of one line lies on the other one: how lines meet that go the same way.
func touch(a, b, c, d api.Pt) bool {
	for _, x := range [][3]api.Pt{{a, c, d}, {b, c, d}, {c, a, b}, {d, a, b}} {
		if on, _ := lies(x[0], x[1], x[2]); on {
			return true
		}
	}
	return false
}

// isMeeting tells it, if what is told of two lines isn't as shares have it.
func isMeeting(t *testing.T, a, b, c, d api.Pt) {
	t.Helper()
	meets, crosses := common(a, b, c, d)
	isSame(t, "Meets", pred.Meets(a, b, c, d), meets, a, b, c, d)
	isSame(t, "Crosses", pred.Crosses(a, b, c, d), crosses, a, b, c, d)
}

func TestMeetings(t *testing.T) {
	for _, l := range [][]api.Pt{small(4), great(), square(-far, 0, 1, far), mixed(14)} {
		fours(l, func(a, b, c, d api.Pt) { isMeeting(t, a, b, c, d) })
	}
}

func TestMeetingsInWords(t *testing.T) {
	a, b := pt(0, 0), pt(6, 6)
	for _, x := range []struct {
		what           string
		c, d           api.Pt
		crosses, meets bool
	}{
		{"through the midst", pt(0, 6), pt(6, 0), true, true},
		{"at no whole point", pt(0, 1), pt(1, 0), true, true},
		{"an end on the other one", pt(3, 3), pt(6, 0), false, true},
		{"an end in common", pt(6, 6), pt(9, 0), false, true},
		{"the same", pt(0, 0), pt(6, 6), false, true},
		{"the same, the other way", pt(6, 6), pt(0, 0), false, true},
		{"a part", pt(2, 2), pt(4, 4), false, true},
		{"over its end", pt(4, 4), pt(9, 9), false, true},
		{"on from its end", pt(6, 6), pt(9, 9), false, true},
		{"on one line, apart", pt(7, 7), pt(9, 9), false, false},
		{"beside it", pt(0, 1), pt(6, 7), false, false},
		{"short of it", pt(0, 6), pt(2, 4), false, false},
		{"past its end", pt(6, 9), pt(9, 6), false, false},
		{"one point on it", pt(3, 3), pt(3, 3), false, true},
		{"one point at its end", pt(0, 0), pt(0, 0), false, true},
		{"one point beside it", pt(3, 4), pt(3, 4), false, false},
	} {
		for _, l := range [][4]api.Pt{{a, b, x.c, x.d}, {b, a, x.c, x.d}, {a, b, x.d, x.c}, {x.c, x.d, a, b}, {x.d, x.c, b, a}} {
			isSame(t, x.what+": Crosses", pred.Crosses(l[0], l[1], l[2], l[3]), x.crosses, l[:]...)
			isSame(t, x.what+": Meets", pred.Meets(l[0], l[1], l[2], l[3]), x.meets, l[:]...)
		}
	}
}

// TestLongLinesMeet: the longest ones, that cross, touch and miss each other by a step of 1.
func TestLongLinesMeet(t *testing.T) {
	a, b := pt(-far, -far), pt(far, far)
	isSame(t, "Crosses", pred.Crosses(a, b, pt(-far, far), pt(far, -far)), true)
	isSame(t, "Crosses", pred.Crosses(a, b, pt(-far, -far+1), pt(far, far-1)), true)
	isSame(t, "Meets", pred.Meets(a, b, pt(-far, -far+1), pt(far-1, far)), false)
	isSame(t, "Meets", pred.Meets(a, pt(-1, -1), pt(0, 0), b), false)
	isSame(t, "Meets", pred.Meets(a, pt(0, 0), pt(0, 0), b), true)
	isSame(t, "Crosses", pred.Crosses(a, pt(0, 0), pt(0, 0), b), false)
	isSame(t, "Meets", pred.Meets(a, b, pt(1, 0), pt(far, -far)), false)
	isSame(t, "Meets", pred.Meets(a, b, pt(1, 1), pt(far, -far)), true)
	isSame(t, "Crosses", pred.Crosses(a, b, pt(1, 1), pt(far, -far)), false)
}
