package grow_test

import (
	"math/big"
	"slices"
	"testing"

	"isohyet/api"
	"isohyet/grow"
	"isohyet/mesh"
)

// all are the numbers from 0 up to less than n.
func all(n int) []int {
	var out []int
	for i := range n {
		out = append(out, i)
	}
	return out
}

// built is the mesh of points, which is told, if it isn't one of Delaunay's, without faults, of all of them.
func built(t *testing.T, what string, l []api.Pt) *mesh.Mesh {
	t.Helper()
	was := slices.Clone(l)
	m, ok := grow.Build(l)
	isSame(t, "Build: "+what, ok, true, l)
	isList(t, "the mesh's points: "+what, m.Pts, was)
	isList(t, "Build changes nothing: "+what, l, was)
	isTriangulation(t, what, m, all(len(l)), nil, l)
	return m
}

// orders goes through all orders of a list.
func orders(l []api.Pt, do func([]api.Pt)) {
	if len(l) == 0 {
		do(nil)
		return
	}
	for i, p := range l {
		rest := slices.Delete(slices.Clone(l), i, i+1)
		orders(rest, func(m []api.Pt) { do(append([]api.Pt{p}, m...)) })
	}
}

// places are a mesh's real triangles, by the places of their points, in order: the least place first.
func places(m *mesh.Mesh) [][3]api.Pt {
	order := inOrder(m.Pts)
	rank := make([]int, len(order))
	for i, v := range order {
		rank[v] = i
	}
	var ranked [][3]int
	for _, v := range realsOf(m) {
		ranked = append(ranked, [3]int{rank[v[0]], rank[v[1]], rank[v[2]]})
	}
	var out [][3]api.Pt
	for _, v := range byPoints(ranked) {
		out = append(out, [3]api.Pt{m.Pts[order[v[0]]], m.Pts[order[v[1]]], m.Pts[order[v[2]]]})
	}
	return out
}

// several are sets of points that aren't all on a line.
func several() map[string][]api.Pt {
	d := dice(11)
	return map[string][]api.Pt{
		"three":                    pts(0, 0, 3, 1, 1, 2),
		"a square":                 board(0, 1),
		"the greatest square":      board(-far, far),
		"a point within":           pts(0, 0, 9, 0, 0, 9, 2, 3),
		"a point on a side":        pts(0, 0, 4, 0, 2, 0, 1, 3),
		"a row and one beside":     pts(0, 0, 1, 0, 2, 0, 3, 0, 5, 7),
		"a row and two beside":     pts(0, 0, 2, 0, 4, 0, 6, 0, 1, -1, 5, 9),
		"a cross":                  pts(0, 0, 2, 0, -2, 0, 0, 2, 0, -2, 7, 0),
		"on a circle":              pts(5, 0, 4, 3, 3, 4, 0, 5, -5, 0, 0, -5),
		"a circle with its midst":  pts(0, 0, 5, 0, 0, 5, -5, 0, 3, 4, -3, -4),
		"two rows":                 pts(0, 0, 1, 0, 2, 0, 0, 1, 1, 1, 2, 1),
		"a sliver":                 pts(-far, -far, far, far, far-1, far, 0, 0, 1, 1),
		"nearly on a line":         pts(-far, -far, far, far, 0, -1, -1, 0, 0, 1),
		"the greatest circle":      pts(far, 0, 0, far, -far, 0, 0, -far, 0, 0, 1, 0),
		"mixed, small":             mixed(&d, 6, 3),
		"mixed, far":               mixed(&d, 6, far),
		"beside the greatest ones": pts(far, far, far, far-1, far-1, far, -far, -far, 1-far, -far, -far, far),
	}
}

// TestBuildOrders: in all orders.
func TestBuildOrders(t *testing.T) {
	for what, l := range several() {
		orders(l, func(l []api.Pt) { built(t, what, l) })
	}
}

// TestBuildSeen: no point at all is within a real triangle's circle.
func TestBuildSeen(t *testing.T) {
	d := dice(5)
	sets := several()
	sets["a board"] = board(0, 1, 2, 3, 4, 5, 6)
	sets["mixed, many"] = mixed(&d, 60, 10)
	for what, l := range sets {
		m := built(t, what, l)
		isUnseen(t, what, m)
		for _, v := range realsOf(m) {
			for q := range l {
				in := circle(l[v[0]], l[v[1]], l[v[2]], l[q]) > 0
				isSame(t, "a point lies within a circle: "+what, in, false, v, q)
			}
		}
	}
}

// TestBuildMixed: greater sets, each in several orders; where no four points are on one circle there is but one triangulation.
func TestBuildMixed(t *testing.T) {
	d := dice(2)
	for n := range 12 {
		for what, l := range map[string][]api.Pt{
			"near":       mixed(&d, 10+n*3, 6),
			"a way off":  mixed(&d, 10+n*5, 1000),
			"far":        mixed(&d, 10+n*5, far),
			"a long row": append(mixed(&d, 3, 40), rowOf(20+n, 50)...),
		} {
			built(t, what, l)
			built(t, what+", sorted", sorted(l))
			other := sorted(l)
			slices.Reverse(other)
			built(t, what+", sorted, from the greatest on", other)
			one, two := built(t, what, l), built(t, what, shuffled(&d, l))
			if what == "far" {
				isList(t, "the triangles", places(one), places(two))
			}
		}
	}
}

// rowOf are n points on a line that goes up by 1 as it goes on by 2, the first one so far from 0.
func rowOf(n, from int) []api.Pt {
	var out []api.Pt
	for i := range n {
		out = append(out, pt(from+2*i, from+i))
	}
	return out
}

// sorted are points, the least first.
func sorted(l []api.Pt) []api.Pt {
	var out []api.Pt
	for _, v := range inOrder(l) {
		out = append(out, l[v])
	}
	return out
}

// TestBuildBoards: boards, all of whose squares have four points on a circle.
func TestBuildBoards(t *testing.T) {
	d := dice(8)
	for n := 2; n <= 9; n++ {
		var l []api.Pt
		for x := range n {
			for y := range n {
				l = append(l, pt(x*(far/8)-far/2, y*(far/8)-far/2))
			}
		}
		for range 5 {
			m := built(t, "a board", l)
			isSame(t, "each square has two", len(realsOf(m)), 2*(n-1)*(n-1), n)
			l = shuffled(&d, l)
		}
	}
}

// TestBuildMost: as many points as there may be samples.
func TestBuildMost(t *testing.T) {
	d := dice(4)
	for _, most := range []int{40, far} {
		l := mixed(&d, api.MaxSamples, most)
		m, ok := grow.Build(l)
		isSame(t, "Build", ok, true)
		isSame(t, "Sound", m.Sound(), true)
		seen := make([]int, len(l))
		filled := new(big.Int)
		for _, x := range m.All() {
			filled.Add(filled, area(l[x.V[0]], l[x.V[1]], l[x.V[2]]))
			for _, v := range x.V {
				seen[v]++
			}
		}
		isSame(t, "all are in it", slices.Min(seen) > 0, true)
		isSame(t, "what real triangles fill", filled.Cmp(inHull(l)), 0)
		isDelaunay(t, "as many as there may be", l, realsOf(m), nil)
		isSame(t, "faults", len(faultsOf(m)), 0)
	}
}

// TestBuildNot: points on a line have no mesh.
func TestBuildNot(t *testing.T) {
	for _, l := range [][]api.Pt{
		nil,
		pts(),
		pts(1, 2),
		pts(1, 2, 3, 5),
		pts(1, 2, 3, 5, -1, -1),
		pts(-far, -far, far, far, 0, 0, 1, 1, -1, -1),
		pts(far, -far, far, far, far, 0),
		pts(-far, far, far, far, 7, far, 5, far),
		rowOf(50, -30),
	} {
		m, ok := grow.Build(l)
		isSame(t, "Build of a line", ok, false, l)
		isSame(t, "Build of a line", m, nil, l)
	}
}

// TestBuildLate: one point beside a line, wherever it stands in the list.
func TestBuildLate(t *testing.T) {
	for _, row := range [][]api.Pt{
		pts(0, 0, 1, 0, 2, 0, 3, 0, 4, 0, 5, 0),
		pts(0, 0, 5, 0, 2, 0, 4, 0, 1, 0, 3, 0),
		pts(-far, -far, far, far, 0, 0, 1, 1, -1, -1),
	} {
		for _, p := range pts(2, 7, -far, far, 0, -1, 1, 0, 9, 1) {
			for i := range len(row) + 1 {
				if l := slices.Insert(slices.Clone(row), i, p); !onLine(l) && !slices.Contains(row, p) {
					m := built(t, "a line and one beside", l)
					isSame(t, "one triangle a part of the line", len(realsOf(m)), len(row)-1, l)
				}
			}
		}
	}
}

// TestBuildInWords: the chapter's example, and others that are as small.
func TestBuildInWords(t *testing.T) {
	for _, x := range []struct {
		what  string
		l     []api.Pt
		reals int
		want  [][3]int
	}{
		{"four corners of a square", pts(0, 0, 1, 0, 1, 1, 0, 1), 2, nil},
		{"three", pts(0, 0, 1, 0, 0, 1), 1, [][3]int{{0, 1, 2}}},
		{"three, to the right", pts(0, 0, 0, 1, 1, 0), 1, [][3]int{{0, 2, 1}}},
		{"a kite", pts(0, 0, 4, 0, 2, 1, 2, -1), 2, [][3]int{{0, 3, 2}, {1, 2, 3}}},
		{"one within", pts(0, 0, 9, 0, 0, 9, 2, 3), 3, [][3]int{{0, 1, 3}, {0, 3, 2}, {1, 2, 3}}},
	} {
		m := built(t, x.what, x.l)
		isSame(t, "how many: "+x.what, len(realsOf(m)), x.reals)
		if x.want != nil {
			isList(t, "the triangles: "+x.what, realsOf(m), x.want)
		}
	}
}

// TestBuildOwn: what is handed in isn't kept, and two answers, which are the same, share nothing.
func TestBuildOwn(t *testing.T) {
	d := dice(6)
	for what, l := range several() {
		was := slices.Clone(l)
		l = append(l, mixed(&d, 5, 3)...)
		one, _ := grow.Build(l[:len(was)])
		rest := slices.Clone(l)
		clear(l)
		isList(t, "the mesh's points: "+what, one.Pts, was)
		two, _ := grow.Build(rest[:len(was)])
		isAsItWas(t, "the same points: "+what, one, two)
		grow.Insert(one, one.Add(pt(1, -2)), 0)
		again, _ := grow.Build(was)
		isAsItWas(t, "one's own: "+what, two, again)
		isList(t, "behind the list's end: "+what, rest[:len(was)], was)
	}
}

// TestBuildTwice: of points at one place nothing is said, but there is an answer, and always the same.
func TestBuildTwice(t *testing.T) {
	d := dice(14)
	for range 200 {
		var l []api.Pt
		for range 3 + d.below(12) {
			l = append(l, pt(d.below(4), d.below(3)))
		}
		one, ok := grow.Build(l)
		two, too := grow.Build(l)
		isSame(t, "Build", ok, too, l)
		isSame(t, "Build of a line", ok, !onLine(l), l)
		if ok {
			isAsItWas(t, "Build", one, two, l)
		}
	}
}

// TestBuildFarther: of coordinates beyond MaxCoord nothing is said, but there is an answer, and always the same.
func TestBuildFarther(t *testing.T) {
	d := dice(15)
	for shift := 32; shift < 64; shift++ {
		for range 20 {
			var l []api.Pt
			for range 3 + d.below(8) {
				l = append(l, pt((d.below(7)-3)<<(shift-2)-d.below(2), (d.below(7)-3)<<(shift-2)+d.below(2)))
			}
			one, ok := grow.Build(l)
			two, too := grow.Build(l)
			isSame(t, "Build", ok, too, l)
			if ok {
				isAsItWas(t, "Build", one, two, l)
			}
			was, is := grow.Base(l)
			base, there := grow.Base(l)
			isSame(t, "Base", base, was, l)
			isSame(t, "Base", there, is, l)
		}
	}
}
