package fault_test

import (
	"math"
	"slices"
	"testing"

	"isohyet/api"
	"isohyet/fault"
	"isohyet/grow"
	"isohyet/mesh"
)

// forced forces a line, and tells it, if the answer, or the mesh then, isn't as the words have it. The faults there are beside those that are told.
func forced(t *testing.T, what string, m *mesh.Mesh, points []int, lines [][2]int, a, b int) ([][2]int, api.Errno) {
	t.Helper()
	was := m.Copy()
	want := api.OK
	switch {
	case a == b:
		want = api.ErrArg
	case isBarred(m.Pts, faultsOf(m), a, b):
		want = api.ErrCross
	}
	isSame(t, "Force: "+what, fault.Force(m, a, b), want, a, b)
	if want != api.OK {
		isAsItWas(t, "an error changes nothing: "+what, m, was, a, b)
		return lines, want
	}
	isList(t, "the points: "+what, m.Pts, was.Pts, a, b)
	lines = append(slices.Clone(lines), ordered(a, b))
	isTriangulation(t, what, m, points, lines, a, b)
	return lines, want
}

// TestForce: each two points of each mesh, either way.
func TestForce(t *testing.T) {
	seen := map[api.Errno]int{}
	for _, s := range shapes() {
		was := s.m.Copy()
		for i, a := range s.points {
			for j, b := range s.points {
				// Of great meshes not all.
				if len(s.points) > 12 && (i+2*j)%5 != 0 {
					continue
				}
				m := s.m.Copy()
				_, e := forced(t, s.what, m, s.points, s.faults, a, b)
				seen[e]++
				if (i+j)%17 == 0 && e == api.OK {
					isUnseen(t, s.what, m, a, b)
				}
				again := s.m.Copy()
				isSame(t, "the same call: "+s.what, fault.Force(again, a, b), e, a, b)
				isAsItWas(t, "the same call: "+s.what, again, m, a, b)
			}
		}
		isAsItWas(t, "a copy: "+s.what, s.m, was)
	}
	isSame(t, "all kinds are seen", min(seen[api.OK], seen[api.ErrArg], seen[api.ErrCross]) > 50, true, seen)
}

// TestForceMany: many lines, one behind the other, in one mesh: more and more of them are barred.
func TestForceMany(t *testing.T) {
	d := dice(3)
	for _, s := range shapes() {
		m, lines := s.m.Copy(), s.faults
		var all [][2]int
		for _, a := range s.points {
			for _, b := range s.points {
				all = append(all, [2]int{a, b})
			}
		}
		for n, e := range shuffled(&d, all) {
			var errno api.Errno
			lines, errno = forced(t, s.what, m, s.points, lines, e[0], e[1])
			if errno == api.OK && n%5 == 0 {
				isUnseen(t, s.what, m, e)
			}
			if n > 150 && d.below(4) > 0 {
				break
			}
		}
	}
}

// TestForceAll: when all lines have been asked for all edges are faults.
func TestForceAll(t *testing.T) {
	for _, s := range shapes() {
		m := s.m.Copy()
		for _, a := range s.points {
			for _, b := range s.points {
				fault.Force(m, a, b)
			}
		}
		isSame(t, "Sound: "+s.what, m.Sound(), true)
		for e := range m.Edges() {
			isSame(t, "an edge is no fault: "+s.what, e.Fault, true, e)
		}
	}
}

// TestForceArg: numbers that aren't there, and a line that has but one point; that goes ahead of what is crossed.
func TestForceArg(t *testing.T) {
	for _, s := range shapes() {
		m := s.m.Copy()
		for _, v := range strange(s) {
			for _, w := range append(strange(s), s.points...) {
				isSame(t, "Force: "+s.what, fault.Force(m, v, w), api.ErrArg, v, w)
				isSame(t, "Force: "+s.what, fault.Force(m, w, v), api.ErrArg, w, v)
			}
		}
		for _, v := range s.points {
			isSame(t, "Force to itself: "+s.what, fault.Force(m, v, v), api.ErrArg, v)
		}
		isAsItWas(t, "an error changes nothing: "+s.what, m, s.m)
	}
	// A point that isn't in the mesh, across a fault.
	m := barred()
	isSame(t, "Force", fault.Force(m, 6, m.Add(pt(11, 6))), api.ErrArg)
}

// TestForceTwice: what is a fault stays one, and nothing changes, asked either way, as a whole or in part.
func TestForceTwice(t *testing.T) {
	for _, s := range shapes() {
		for i, a := range s.points {
			b := s.points[(i+3)%len(s.points)]
			m := s.m.Copy()
			if fault.Force(m, a, b) != api.OK {
				continue
			}
			was := m.Copy()
			row := fault.Points(m, a, b)
			for j := range row {
				for k := range j {
					isSame(t, "Force again: "+s.what, fault.Force(m, row[j], row[k]), api.OK, a, b)
					isSame(t, "Force again: "+s.what, fault.Force(m, row[k], row[j]), api.OK, a, b)
				}
			}
			isAsItWas(t, "Force again: "+s.what, m, was, a, b)
		}
	}
}

// TestForceInWords: by hand, what there is, and what comes of it.
func TestForceInWords(t *testing.T) {
	square := pts(0, 0, 4, 0, 5, 5, 0, 4)
	row := pts(0, 0, 2, 0, 4, 0, 6, 0, 3, 5, 3, -5)
	for _, x := range []struct {
		what   string
		pts    []api.Pt
		lines  [][2]int
		reals  [][3]int
		faults [][2]int
	}{
		{"the diagonal that is there", square, pairs(1, 3), [][3]int{{0, 1, 3}, {1, 2, 3}}, pairs(1, 3)},
		{"the other diagonal", square, pairs(0, 2), [][3]int{{0, 1, 2}, {0, 2, 3}}, pairs(0, 2)},
		{"the border", square, pairs(1, 0, 1, 2), [][3]int{{0, 1, 3}, {1, 2, 3}}, pairs(0, 1, 1, 2)},
		{"the border, and the other diagonal", square, pairs(2, 3, 0, 1, 2, 0, 0, 3, 1, 2), [][3]int{{0, 1, 2}, {0, 2, 3}}, pairs(0, 1, 0, 2, 0, 3, 1, 2, 2, 3)},
		{"along a row", row, pairs(3, 0), [][3]int{{0, 1, 4}, {1, 2, 4}, {2, 3, 4}, {0, 5, 1}, {1, 5, 2}, {2, 5, 3}}, pairs(0, 1, 1, 2, 2, 3)},
		{"over a part", row, pairs(1, 2, 0, 2), [][3]int{{0, 1, 4}, {1, 2, 4}, {2, 3, 4}, {0, 5, 1}, {1, 5, 2}, {2, 5, 3}}, pairs(0, 1, 1, 2)},
		{"through a row", row, pairs(4, 5), [][3]int{{0, 1, 4}, {1, 5, 4}, {2, 4, 5}, {2, 3, 4}, {0, 5, 1}, {2, 5, 3}}, pairs(4, 5)},
	} {
		m, _ := grow.Build(x.pts)
		for _, e := range x.lines {
			isSame(t, x.what, fault.Force(m, e[0], e[1]), api.OK, e)
		}
		isList(t, "the triangles: "+x.what, realsOf(m), byPoints(x.reals))
		isList(t, "the faults: "+x.what, faultsOf(m), x.faults)
		isTriangulation(t, x.what, m, inIt(m), x.lines)
	}
}

// TestForceCross: what crosses is refused, till there is a point where it crosses; what only touches comes.
func TestForceCross(t *testing.T) {
	m := barred()
	lines := pairs(4, 5)
	_, e := forced(t, "across", m, inIt(m), lines, 6, 7)
	isSame(t, "across", e, api.ErrCross)
	_, e = forced(t, "from corner to corner", m, inIt(m), lines, 0, 2)
	isSame(t, "from corner to corner", e, api.ErrCross)
	lines, e = forced(t, "from its end", m, inIt(m), lines, 4, 2)
	isSame(t, "from its end", e, api.OK)
	lines, e = forced(t, "over it", m, inIt(m), lines, 9, 8)
	isSame(t, "over it", e, api.OK)
	mid := m.Add(pt(10, 10))
	isSame(t, "a point comes", grow.Insert(m, mid, 0), true)
	lines, e = forced(t, "through a point of it", m, inIt(m), lines, 7, mid)
	isSame(t, "through a point of it", e, api.OK)
	_, e = forced(t, "through a point of it, and across another one", m, inIt(m), lines, 6, 7)
	isSame(t, "through a point of it, and across another one", e, api.ErrCross)
	isUnseen(t, "all of them", m)
}

// TestForceBesideSpikes: faults that end in the midst of what a line takes away stay faults, though all triangles beside them go.
func TestForceBesideSpikes(t *testing.T) {
	for _, x := range []struct {
		what  string
		l     []api.Pt
		lines [][2]int
	}{
		{"one", pts(-10, 0, 10, 0, 0, 10, 0, 1, -4, -1, 4, -1), pairs(2, 3)},
		{"one, from below", pts(-10, 0, 10, 0, 0, -10, 0, -1, -4, 1, 4, 1), pairs(2, 3)},
		{"one of two parts", pts(-10, 0, 10, 0, 0, 10, 0, 5, 0, 1, -4, -1, 4, -1), pairs(2, 3, 3, 4)},
		{"bent", pts(-10, 0, 10, 0, 0, 10, 1, 4, 0, 1, -4, -1, 4, -1), pairs(2, 3, 3, 4)},
		{"forked", pts(-20, 0, 20, 0, 0, 30, 0, 9, -5, 1, 5, 1, -9, -1, 0, -1, 9, -1), pairs(2, 3, 3, 4, 3, 5)},
		{"a ring on a stalk", pts(-60, 0, 60, 0, 0, 30, 0, 9, -3, 2, 3, 2, -9, -1, 0, -1, 9, -1), pairs(2, 3, 3, 4, 4, 5, 5, 3)},
		{"from both sides", pts(-200, 0, 200, 0, -10, 40, -10, 1, 10, -40, 10, -1, -18, -3, 18, 3), pairs(2, 3, 4, 5)},
		{"a comb", pts(-200, 0, 200, 0, -60, 30, -60, 1, -20, 30, -20, 1, 20, 30, 20, 1, 60, 30, 60, 1, -80, -2, -40, -2, 0, -2, 40, -2, 80, -2), pairs(2, 3, 4, 5, 6, 7, 8, 9)},
	} {
		orders(x.lines, func(lines [][2]int) {
			m, _ := grow.Build(x.l)
			var there [][2]int
			for _, e := range lines {
				there, _ = forced(t, x.what, m, inIt(m), there, e[0], e[1])
			}
			lost := slices.ContainsFunc(x.lines, func(e [2]int) bool { return besideLine(m, e, 0, 1) == 2 })
			isSame(t, "a spike loses all that is beside it: "+x.what, lost, true, x.lines)
			there, e := forced(t, x.what, m, inIt(m), there, 0, 1)
			isSame(t, x.what, e, api.OK)
			isSame(t, "how many faults: "+x.what, len(faultsOf(m)), len(there))
			isUnseen(t, x.what, m)
		})
	}
}

// besideLine is how many of the triangles beside an edge have an edge that the line from a to b crosses.
func besideLine(m *mesh.Mesh, e [2]int, a, b int) int {
	n := 0
	for _, v := range realsOf(m) {
		crossed := false
		for i := range v {
			crossed = crossed || cross(m.Pts[a], m.Pts[b], m.Pts[v[i]], m.Pts[v[(i+1)%3]])
		}
		if crossed && slices.Contains(v[:], e[0]) && slices.Contains(v[:], e[1]) {
			n++
		}
	}
	return n
}

// orders goes through all orders of a list.
func orders[T any](l []T, do func([]T)) {
	if len(l) == 0 {
		do(nil)
		return
	}
	for i, x := range l {
		rest := slices.Delete(slices.Clone(l), i, i+1)
		orders(rest, func(m []T) { do(append([]T{x}, m...)) })
	}
}

// TestForceOrders: faults in all orders: since no four points are on one circle the triangles are the same.
func TestForceOrders(t *testing.T) {
	l := pts(0, 0, 41, 3, 44, 39, 2, 35, 20, 21, 9, 11, 31, 8, 33, 30, 12, 27, 21, 5)
	var first [][3]int
	orders(pairs(0, 2, 5, 7, 3, 4, 1, 9, 6, 2), func(lines [][2]int) {
		m, _ := grow.Build(l)
		var there [][2]int
		for _, e := range lines {
			var errno api.Errno
			there, errno = forced(t, "in any order", m, inIt(m), there, e[0], e[1])
			isSame(t, "each comes", errno, api.OK, lines, e)
		}
		if first == nil {
			first = realsOf(m)
		}
		isList(t, "the triangles", realsOf(m), first, lines)
	})
}

// TestForceAndInsert: points and faults come by turns, whatever is there first.
func TestForceAndInsert(t *testing.T) {
	d := dice(31)
	for n := range 40 {
		most := 6 + n*n
		m, _ := grow.Build(mixed(&d, 6+n/4, most))
		points := inIt(m)
		var lines [][2]int
		for range 25 {
			if d.below(3) > 0 {
				a, b := points[d.below(len(points))], points[d.below(len(points))]
				lines, _ = forced(t, "by turns", m, points, lines, a, b)
				continue
			}
			p := pt(d.below(2*most+1)-most, d.below(2*most+1)-most)
			if len(lines) > 0 && d.below(2) == 0 {
				// Near a fault, or on it.
				e := lines[d.below(len(lines))]
				p = pt((m.Pts[e[0]].X+m.Pts[e[1]].X)/2, (m.Pts[e[0]].Y+m.Pts[e[1]].Y)/2)
			}
			if v := m.Add(p); grow.Insert(m, v, 0) {
				points = append(points, v)
			}
			isTriangulation(t, "by turns", m, points, lines, p)
		}
		isUnseen(t, "by turns", m)
	}
}

// TestForceTwoLines: small sets of points, close together, with two lines, in both orders.
func TestForceTwoLines(t *testing.T) {
	d := dice(41)
	for range 300 {
		l := mixed(&d, 5+d.below(6), 2+d.below(3))
		if _, ok := grow.Base(l); !ok {
			continue
		}
		one, _ := grow.Build(l)
		two := one.Copy()
		n := len(l)
		a, b, c, e := d.below(n), d.below(n), d.below(n), d.below(n)
		lines, first := forced(t, "one way", one, inIt(one), nil, a, b)
		_, second := forced(t, "one way", one, inIt(one), lines, c, e)
		lines, firstToo := forced(t, "the other way", two, inIt(two), nil, c, e)
		_, secondToo := forced(t, "the other way", two, inIt(two), lines, b, a)
		if first == api.OK && firstToo == api.OK {
			isSame(t, "each bars the other one, or neither does", second, secondToo, l, a, b, c, e)
		}
		isUnseen(t, "one way", one)
		isUnseen(t, "the other way", two)
	}
}

// TestForceFarthest: the longest lines, a step beside others.
func TestForceFarthest(t *testing.T) {
	l := pts(-far, -far, far, far, -far, far, far, -far, 1, 0, 0, 1, -1, 0, 0, -1, far, far-1, far-1, far, -far, 1-far, 1-far, -far)
	for _, lines := range [][][2]int{pairs(0, 1), pairs(2, 3), pairs(0, 8, 0, 9), pairs(10, 1, 11, 1), pairs(10, 9, 0, 1, 11, 8), pairs(4, 2, 6, 3, 0, 1), pairs(2, 3, 4, 1)} {
		m, _ := grow.Build(l)
		var there [][2]int
		for _, e := range lines {
			there, _ = forced(t, "the farthest", m, inIt(m), there, e[0], e[1])
		}
		isUnseen(t, "the farthest", m, lines)
	}
}

// TestForceGreat: as many points as there may be, and as many faults.
func TestForceGreat(t *testing.T) {
	d := dice(51)
	l := mixed(&d, api.MaxSamples-4, 1000000)
	l = append(l, pt(-2000000, 0), pt(2000000, 1), pt(1, 2000000), pt(0, -2000000))
	m, _ := grow.Build(l)
	n := len(l)
	lines, _ := forced(t, "great", m, inIt(m), nil, n-4, n-3)
	_, e := forced(t, "great", m, inIt(m), lines, n-2, n-1)
	isSame(t, "great", e, api.ErrCross)
	came := 1
	for came < api.MaxFaults {
		a, b := d.below(n), d.below(n)
		if abs(l[a].X-l[b].X)+abs(l[a].Y-l[b].Y) < 100000 && fault.Force(m, a, b) == api.OK {
			came++
			lines = append(lines, ordered(a, b))
		}
	}
	isSame(t, "Sound", m.Sound(), true)
	var edges [][2]int
	for _, e := range lines {
		row := fault.Points(m, e[0], e[1])
		for i := range row[1:] {
			edges = append(edges, ordered(row[i], row[i+1]))
		}
	}
	slices.SortFunc(edges, func(a, b [2]int) int { return slices.Compare(a[:], b[:]) })
	edges = slices.Compact(edges)
	isList(t, "the faults", faultsOf(m), edges)
	isDelaunay(t, "great", m.Pts, realsOf(m), edges)
}

func abs(n int) int {
	return max(n, -n)
}

// TestForceLongRow: a row through all of a mesh, in one call.
func TestForceLongRow(t *testing.T) {
	var l []api.Pt
	for i := range 300 {
		l = append(l, pt(i*i, 0), pt(i*i+7, 1+i%3), pt(i*i+5, -1-i%4))
	}
	m, _ := grow.Build(l)
	lines, e := forced(t, "a row", m, inIt(m), nil, 0, 299*3)
	isSame(t, "a row", e, api.OK)
	isSame(t, "how many faults", len(faultsOf(m)), 299)
	_, e = forced(t, "across the row", m, inIt(m), lines, 1, 299*3+2)
	isSame(t, "across the row", e, api.ErrCross)
}

// TestForceArches: the points to each side of a line lie on arches, so that of each of them many must be asked.
func TestForceArches(t *testing.T) {
	l := pts(-1000, 0, 1000, 0)
	for x := -60; x <= 60; x++ {
		l = append(l, pt(x, 5000-x*x), pt(x, x*x-5001))
	}
	m, _ := grow.Build(l)
	_, e := forced(t, "arches", m, inIt(m), nil, 0, 1)
	isSame(t, "arches", e, api.OK)
	l = l[:2]
	for x := -60; x <= 60; x++ {
		l = append(l, pt(x, 1+x*x), pt(x, -1-x*x))
	}
	m, _ = grow.Build(l)
	_, e = forced(t, "arches, the other way", m, inIt(m), nil, 1, 0)
	isSame(t, "arches, the other way", e, api.OK)
}

// TestFarther: of coordinates beyond MaxCoord nothing is said, but there is an answer, and always the same.
func TestFarther(t *testing.T) {
	numbers := []int{math.MinInt, -1 << 62, -far - 1, 0, far + 1, 1 << 40, math.MaxInt}
	m, _ := mesh.New(pts(0, 0, 4, 0, 0, 4), 0, 1, 2)
	for _, p := range board(numbers...) {
		grow.Insert(m, m.Add(p), 0)
	}
	other := m.Copy()
	for a := range m.Pts {
		for b := range m.Pts {
			isList(t, "Points", fault.Points(m, a, b), fault.Points(other, a, b), a, b)
			isSame(t, "Crosses", fault.Crosses(m, a, b), fault.Crosses(other, a, b), a, b)
			isSame(t, "Force", fault.Force(m, a, b), fault.Force(other, a, b), a, b)
			isAsItWas(t, "Force", m, other, a, b)
		}
	}
}

// TestNotSound: of meshes that aren't sound nothing is said, but there is an answer, and always the same: of triangles with nothing across, of those across from which one is gone, and of those whose points aren't there.
func TestNotSound(t *testing.T) {
	const g = mesh.Ghost
	more := [][3]int{{1, 3, 2}, {3, 1, 2}, {0, 0, 0}, {0, 1, 3}, {2, 1, g}, {0, 2, g}, {g, 3, 3}, {1, 9, 2}, {7, 8, 9}, {1, 4, 3}, {4, 2, 3}}
	d := dice(19)
	for range 2000 {
		m, _ := mesh.New(pts(0, 0, 4, 0, 0, 4, 4, 4, 9, 9), 0, 1, 2)
		for range d.below(3) {
			m.Drop(d.below(len(m.Tris)))
		}
		for range d.below(8) {
			v := more[d.below(len(more))]
			m.Link(d.below(len(m.Tris)), d.below(3), m.Make(v[0], v[1], v[2]), d.below(3), d.below(3) == 0)
		}
		other := m.Copy()
		for a := -1; a < 11; a++ {
			for b := -1; b < 11; b++ {
				isList(t, "Points", fault.Points(m, a, b), fault.Points(other, a, b), a, b)
				isSame(t, "Crosses", fault.Crosses(m, a, b), fault.Crosses(other, a, b), a, b)
				isSame(t, "Force", fault.Force(m, a, b), fault.Force(other, a, b), a, b)
				isAsItWas(t, "Force", m, other, a, b)
			}
		}
	}
}
