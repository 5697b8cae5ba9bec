package clip_test

import (
	"slices"
	"testing"

	"isohyet/api"
	"isohyet/clip"
	"isohyet/frac"
	"isohyet/spot"
)

func TestClipInWords(t *testing.T) {
	box := clip.Box(3)
	tip := spots(0, 0, 6, 0, 3, 3)
	for _, x := range []struct {
		what string
		l    []spot.Spot
		h    clip.Half
		want []spot.Spot
	}{
		{"nothing", nil, half(1, 1, 0), nil},
		{"across two sides", box, half(1, 0, 1), spots(-3, -3, 1, -3, 1, 3, -3, 3)},
		{"across, the other way round", box, half(-1, 0, -1), spots(1, -3, 3, -3, 3, 3, 1, 3)},
		{"a half-plane told greater", box, half(2, 0, 2), spots(-3, -3, 1, -3, 1, 3, -3, 3)},
		{"a corner off", box, half(1, 1, 5), spots(-3, -3, 3, -3, 3, 2, 2, 3, -3, 3)},
		{"a corner alone", box, half(-1, -1, -5), spots(3, 2, 3, 3, 2, 3)},
		{"through two corners", box, half(1, 1, 0), spots(-3, -3, 3, -3, -3, 3)},
		{"through a corner and a side", box, half(1, 2, 3), spots(-3, -3, 3, -3, 3, 0, -3, 3)},
		{"through a corner and a side, the other way round", box, half(-1, -2, -3), spots(3, 0, 3, 3, -3, 3)},
		{"all of it, up to a corner", box, half(1, 1, 6), box},
		{"all of it, up to a side", box, half(0, 1, 3), box},
		{"all of it, by far", box, half(0, 1, 4), box},
		{"a corner without an area", box, half(1, 1, -6), nil},
		{"a side without an area", box, half(0, 1, -3), nil},
		{"nothing of it, by far", box, half(0, 1, -4), nil},
		{"the first corner off", tip, half(-1, -1, -2), spots(2, 0, 6, 0, 3, 3, 1, 1)},
		{"the last corner off", tip, half(0, 1, 1), spots(0, 0, 6, 0, 5, 1, 1, 1)},
		{"the midst corner off", tip, half(1, 0, 3), spots(0, 0, 3, 0, 3, 3)},
	} {
		isPolygon(t, "Clip: "+x.what, clip.Clip(x.l, x.h), x.want)
	}
	isFrac(t, "the area of half", spot.Area2(clip.Clip(clip.Box(1), half(1, 0, 0))...), frac.Of(4))
	third := clip.Half{A: of(1, 1), B: of(1, 2), C: of(1, 3)}
	isPolygon(t, "Clip between whole points", clip.Clip(spots(0, 0, 1, 0, 0, 1), third),
		[]spot.Spot{at(of(0, 1), of(0, 1)), at(of(1, 3), of(0, 1)), at(of(0, 1), of(2, 3))})
}

// isPart tells it, if l isn't Convex, or if a corner doesn't lie in all of whole, or beyond h.
func isPart(t *testing.T, l, whole []spot.Spot, h clip.Half) {
	t.Helper()
	isSame(t, "Convex of Clip", clip.Convex(l), true, text(l), text(whole), h)
	for _, s := range l {
		isSame(t, "a corner's Value is more than 0", frac.Sign(clip.Value(h, s)) > 0, false, text(l), text(whole), h)
		for i, a := range whole {
			isSame(t, "a corner lies outside", spot.Side(a, whole[(i+1)%len(whole)], s) < 0, false, text(l), text(whole))
		}
	}
}

// TestClip: both parts lie within all of it, to either side, and have all its area: so neither lacks any.
func TestClip(t *testing.T) {
	for _, l := range polygons() {
		for _, h := range halves() {
			if frac.Sign(h.A) == 0 && frac.Sign(h.B) == 0 {
				continue
			}
			here, there := clip.Clip(l, h), clip.Clip(l, back(h))
			isPart(t, here, l, h)
			isPart(t, there, l, back(h))
			both := frac.Add(spot.Area2(here...), spot.Area2(there...))
			isFrac(t, "both parts of "+text(l), both, spot.Area2(l...))
			isPolygon(t, "Clip again", clip.Clip(here, h), here)
			isPolygon(t, "Clip of the other part", clip.Clip(here, back(h)), nil)
		}
	}
}

// TestClipFromAnyCorner: where the polygon begins doesn't matter.
func TestClipFromAnyCorner(t *testing.T) {
	for _, l := range polygons() {
		for i, h := range halves() {
			if len(l) == 0 || frac.Sign(h.A) == 0 && frac.Sign(h.B) == 0 {
				continue
			}
			from := i % len(l)
			turned := append(slices.Clone(l[from:]), l[:from]...)
			isPolygon(t, "Clip", clip.Clip(turned, h), clip.Clip(l, h))
		}
	}
}

func TestCellInWords(t *testing.T) {
	box := clip.Box(9)
	cross := []api.Pt{pt(2, 0), pt(-2, 0), pt(0, 2), pt(0, -2)}
	for _, x := range []struct {
		what   string
		p      api.Pt
		others []api.Pt
		from   []spot.Spot
		want   []spot.Spot
	}{
		{"with no others", pt(1, 2), nil, box, box},
		{"of nothing", pt(0, 0), cross, nil, nil},
		{"within four", pt(0, 0), cross, box, clip.Box(1)},
		{"within four, each twice", pt(0, 0), append(cross, cross...), box, clip.Box(1)},
		{"of one of them", pt(2, 0), append(cross[1:], pt(0, 0)), box, spots(1, -1, 9, -9, 9, 9, 1, 1)},
		{"just at a corner of another one's", pt(2, 2), append(cross, pt(0, 0)), clip.Box(1), nil},
		{"far from what is cut", pt(9, 9), []api.Pt{pt(0, 0)}, clip.Box(2), nil},
		{"beside what is cut", pt(9, 0), []api.Pt{pt(20, 0)}, clip.Box(2), clip.Box(2)},
		{"of three", pt(0, 0), []api.Pt{pt(4, 0), pt(0, 4)}, spots(0, 0, 9, 0, 0, 9), spots(0, 0, 2, 0, 2, 2, 0, 2)},
		{"at the ends of all", pt(-far, -far), []api.Pt{pt(far, far)}, clip.Box(far), spots(-far, -far, far, -far, -far, far)},
	} {
		isPolygon(t, "Cell "+x.what, clip.Cell(x.p, x.others, x.from), x.want)
	}
	isPolygon(t, "Cell of three beside each other", clip.Cell(pt(0, 0), []api.Pt{pt(3, 1), pt(1, 2)}, spots(0, 0, 9, 0, 0, 9)),
		[]spot.Spot{at(of(0, 1), of(0, 1)), at(of(5, 3), of(0, 1)), at(of(3, 2), of(1, 2)), at(of(0, 1), of(5, 4))})
}

// distinct are the points of l, each once.
func distinct(l []api.Pt) []api.Pt {
	var out []api.Pt
	for _, p := range l {
		if !slices.Contains(out, p) {
			out = append(out, p)
		}
	}
	return out
}

// without is l but for one.
func without(l []api.Pt, i int) []api.Pt {
	return slices.Delete(slices.Clone(l), i, i+1)
}

// TestCell: the cells of all points lie within all of it, each corner as near to its point as to others, and have all its area: so none lacks any.
func TestCell(t *testing.T) {
	for _, l := range [][]api.Pt{board(-1, 0, 2), distinct(mixed(12, 6)), mixed(12, far), board(-far, far-1, far)} {
		for _, from := range polygons() {
			total := frac.Of(0)
			for i, p := range l {
				others := without(l, i)
				cell := clip.Cell(p, others, from)
				total = frac.Add(total, spot.Area2(cell...))
				isSame(t, "Convex of Cell", clip.Convex(cell), true, text(cell))
				for _, q := range others {
					isPart(t, cell, from, clip.Nearer(p, q))
				}
				slices.Reverse(others)
				isPolygon(t, "Cell the other way round", clip.Cell(p, others, from), cell)
			}
			isFrac(t, "all cells", total, spot.Area2(from...))
		}
	}
}

// TestCellOfMany: one point within many others, none of which is left out.
func TestCellOfMany(t *testing.T) {
	others := slices.DeleteFunc(distinct(mixed(300, 1000)), func(p api.Pt) bool { return p == pt(1, 1) })
	cell := clip.Cell(pt(1, 1), others, clip.Box(1<<40))
	for _, q := range others {
		isPart(t, cell, nil, clip.Nearer(pt(1, 1), q))
	}
	want := clip.Box(1 << 40)
	for _, q := range others {
		want = clip.Clip(want, clip.Nearer(pt(1, 1), q))
	}
	isPolygon(t, "Cell", cell, want)
}
