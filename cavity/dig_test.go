package cavity_test

import (
	"math"
	"slices"
	"testing"

	"isohyet/api"
	"isohyet/cavity"
	"isohyet/mesh"
	"isohyet/walk"
)

// TestDig: of each point, whatever its place, with the mesh as it was.
func TestDig(t *testing.T) {
	for _, s := range shapes() {
		was := s.m.Copy()
		eachAsked(s, func(p api.Pt, at walk.Place) {
			isCavity(t, s.what, cavity.Dig(s.m, p, at), inWords(t, s.m, p, at), p, at)
		})
		isAsItWas(t, "Dig: "+s.what, s.m, was)
	}
}

// TestDigEverywhere: all points of a small board, and about it, with all kinds of faults.
func TestDigEverywhere(t *testing.T) {
	d := dice(13)
	for n := range 40 {
		s := shapeOf("small", mixed(&d, 4+n/4, 5), n%3, n%5)
		for _, p := range board(-7, -6, -5, -4, -3, -2, -1, 0, 1, 2, 3, 4, 5, 6, 7) {
			if at := walk.Look(s.m, p); at.Kind != walk.OnPoint {
				isCavity(t, s.what, cavity.Dig(s.m, p, at), inWords(t, s.m, p, at), p, at, n)
			}
		}
	}
}

// TestDigWhereEver: whichever triangle a place tells, where several may be it, the cavity is the same.
func TestDigWhereEver(t *testing.T) {
	others := 0
	for _, s := range shapes() {
		eachAsked(s, func(p api.Pt, look walk.Place) {
			want := cavity.Dig(s.m, p, look)
			for from := range s.m.All() {
				at, _ := walk.Find(s.m, p, from, math.MaxInt)
				isCavity(t, s.what, cavity.Dig(s.m, p, at), want, p, at)
				if at != look {
					others++
				}
			}
		})
	}
	isSame(t, "some places tell another triangle", others > 1000, true, others)
}

// TestKindsOfCavities: these tests ask of all kinds, cut and not.
func TestKindsOfCavities(t *testing.T) {
	kinds := []string{"inside", "on an edge", "at a point", "outside"}
	seen := map[string]int{}
	for _, s := range shapes() {
		eachAsked(s, func(p api.Pt, at walk.Place) {
			count := func(is bool, what string) {
				if is {
					seen[kinds[at.Kind]+": "+what]++
				}
			}
			c := cavity.Dig(s.m, p, at)
			walled := slices.ContainsFunc(c.Rim, func(s cavity.Side) bool { return s.Fault })
			count(c.Cut, "cut")
			count(walled && !c.Cut, "with a fault at its rim, not cut")
			count(!walled, "without faults at its rim")
			count(len(c.Tris) > 5, "great")
			count(len(c.Tris) > 2 && slices.ContainsFunc(c.Tris, s.m.Real), "with a real triangle")
			for e := range s.m.Edges() {
				if at.Kind == walk.OnEdge && e.A == at.A && e.B == at.B {
					count(e.Fault && e.Hull, "a fault of the border")
					count(e.Fault && !e.Hull, "a fault within")
					count(!e.Fault && e.Hull, "of the border")
				}
			}
		})
	}
	edge := kinds[walk.OnEdge]
	wanted := []string{edge + ": a fault of the border", edge + ": a fault within", edge + ": of the border"}
	for _, at := range []int{walk.Inside, walk.OnEdge, walk.Outside} {
		for _, what := range []string{"cut", "with a fault at its rim, not cut", "without faults at its rim", "great", "with a real triangle"} {
			wanted = append(wanted, kinds[at]+": "+what)
		}
	}
	for _, what := range wanted {
		isSame(t, "some are asked", seen[what] > 5, true, what, seen[what])
	}
}

// TestRim: each side has the point strictly to its left, begins where the one ahead ends, and tells what lies across; each point begins one at most.
func TestRim(t *testing.T) {
	for _, s := range shapes() {
		eachAsked(s, func(p api.Pt, at walk.Place) {
			c := cavity.Dig(s.m, p, at)
			for i, x := range c.Rim {
				next := c.Rim[(i+1)%len(c.Rim)]
				isSame(t, "where the next one begins: "+s.what, next.A, x.B, p, c)
				isSame(t, "the least first: "+s.what, i == 0 || x.A > c.Rim[0].A, true, p, c)
				if min(x.A, x.B) >= 0 {
					isSame(t, "the point is to the left: "+s.what, turn(s.m.Pts[x.A], s.m.Pts[x.B], p), 1, p, c)
				}
				out := s.m.Tris[x.Out]
				isSame(t, "what lies across: "+s.what, [2]int{out.V[(x.I+1)%3], out.V[(x.I+2)%3]}, [2]int{x.B, x.A}, p, c)
				isSame(t, "it isn't of the cavity: "+s.what, slices.Contains(c.Tris, x.Out), false, p, c)
				isSame(t, "it is of the cavity: "+s.what, slices.Contains(c.Tris, out.N[x.I]), true, p, c)
				isSame(t, "whether it is a fault: "+s.what, x.Fault, out.F[x.I], p, c)
			}
		})
	}
}

// TestWithoutFaults: what is in conflict is the cavity, and that isn't cut.
func TestWithoutFaults(t *testing.T) {
	asked := 0
	for _, s := range shapes() {
		if len(s.faults) > 0 {
			continue
		}
		eachAsked(s, func(p api.Pt, at walk.Place) {
			asked++
			var want []int
			for u, in := range inConflict(s.m, p) {
				if in {
					want = append(want, u)
				}
			}
			c := cavity.Dig(s.m, p, at)
			isList(t, "all that is in conflict: "+s.what, c.Tris, want, p)
			isSame(t, "it isn't cut: "+s.what, c.Cut, false, p)
		})
	}
	isSame(t, "there are some", asked > 500, true, asked)
}

// TestFilled: in the cavity's place a triangle for each side of the rim, of that side and the point, makes a constrained Delaunay triangulation again.
func TestFilled(t *testing.T) {
	for _, s := range shapes() {
		eachAsked(s, func(p api.Pt, at walk.Place) {
			l := append(slices.Clone(s.m.Pts), p)
			v := len(l) - 1
			c := cavity.Dig(s.m, p, at)
			var real, rest, beyond [][3]int
			for u, x := range s.m.Tris {
				if s.m.Real(u) && !slices.Contains(c.Tris, u) {
					rest = append(rest, x.V)
				}
			}
			for _, x := range c.Rim {
				if min(x.A, x.B) >= 0 {
					real = append(real, [3]int{x.A, x.B, v})
				} else {
					beyond = append(beyond, [3]int{x.A, x.B, v})
				}
			}
			faults := slices.Clone(s.faults)
			if at.Kind == walk.OnEdge && slices.Contains(faults, [2]int{at.A, at.B}) {
				faults = append(faults, ordered(at.A, v), ordered(at.B, v))
			}
			real = append(real, rest...)
			d := dice(1)
			isSame(t, "Sound: "+s.what, assemble(&d, l, real, faults).Sound(), true, p)
			isDelaunay(t, s.what, l, real, faults, p)
			isSame(t, "ghosts of the point: "+s.what, len(beyond), havingGhosts(real, v), p, c)
		})
	}
}

// havingGhosts is how many ghosts of real triangles have the point v.
func havingGhosts(real [][3]int, v int) int {
	n := 0
	for _, x := range ghosts(real) {
		if slices.Contains(x[:], v) {
			n++
		}
	}
	return n
}

// sides are those of a rim that goes through these points, each of which tells what it finds in the mesh.
func sides(t *testing.T, m *mesh.Mesh, l ...int) []cavity.Side {
	t.Helper()
	var out []cavity.Side
	for i, a := range l {
		b := l[(i+1)%len(l)]
		u, j, ok := m.Find(b, a)
		isSame(t, "there is an edge", ok, true, b, a)
		out = append(out, cavity.Side{A: a, B: b, Out: u, I: j, Fault: m.Tris[u].F[j]})
	}
	return out
}

// TestDigInWords: the chapter's example, each kind of place, and what faults keep away.
func TestDigInWords(t *testing.T) {
	const g = mesh.Ghost
	one := shapeOf("one triangle", pts(0, 0, 4, 0, 0, 4), 0, 0).m
	closed := shapeOf("one triangle of faults", pts(0, 0, 4, 0, 0, 4), 0, 1).m
	// The fault of the tooth goes from 5 to 4; those of the hall go from 0 to 1 and from 2 to 3.
	toothed, walled := tooth().m, hall().m
	for _, x := range []struct {
		what string
		m    *mesh.Mesh
		p    api.Pt
		// The cavity's triangles are those that have these edges.
		edges [][2]int
		rim   []int
		cut   bool
	}{
		{"within", one, pt(1, 1), [][2]int{{0, 1}}, []int{0, 1, 2}, false},
		{"on the border", one, pt(2, 0), [][2]int{{0, 1}, {1, 0}}, []int{g, 1, 2, 0}, false},
		{"beyond, in the circle", one, pt(3, 3), [][2]int{{1, 2}, {2, 1}}, []int{g, 2, 0, 1}, false},
		{"beyond, on the circle", one, pt(4, 4), [][2]int{{2, 1}}, []int{g, 2, 1}, false},
		{"beyond two edges", one, pt(-1, -1), [][2]int{{1, 0}, {0, 2}}, []int{g, 1, 0, 2}, false},
		{"on the line of an edge", one, pt(5, 0), [][2]int{{2, 1}}, []int{g, 2, 1}, false},
		{"within faults", closed, pt(1, 1), [][2]int{{0, 1}}, []int{0, 1, 2}, false},
		{"on a fault of the border", closed, pt(2, 2), [][2]int{{1, 2}, {2, 1}}, []int{g, 2, 0, 1}, false},
		{"beyond a fault, in the circle", closed, pt(3, 3), [][2]int{{2, 1}}, []int{g, 2, 1}, true},
		{"beyond a fault, on the circle", closed, pt(4, 4), [][2]int{{2, 1}}, []int{g, 2, 1}, false},
		{"beyond two faults", closed, pt(-1, -1), [][2]int{{1, 0}, {0, 2}}, []int{g, 1, 0, 2}, false},
		{"left of the tooth", toothed, pt(8, 5), [][2]int{{0, 5}, {3, 0}}, []int{0, 5, 4, 3}, true},
		{"left of the tooth, far from it", toothed, pt(1, 1), [][2]int{{0, 5}, {3, 0}}, []int{0, 5, 4, 3}, false},
		{"on the tooth", toothed, pt(10, 5), [][2]int{{0, 5}, {5, 1}}, []int{0, 5, 1, 4}, false},
		{"above the tooth", toothed, pt(11, 13), [][2]int{{2, 3}, {1, 2}}, []int{1, 2, 3, 4}, false},
		{"in the hall", walled, pt(30, 1), [][2]int{{0, 1}, {3, 2}}, []int{0, 1, 3, 2}, true},
		{"on a wall of the hall", walled, pt(30, 0), [][2]int{{0, 1}, {1, 0}, {3, 2}}, []int{0, 4, 1, 3, 2}, true},
	} {
		var tris []int
		for _, e := range x.edges {
			tris = append(tris, number(t, x.m, e[0], e[1]))
		}
		slices.Sort(tris)
		want := cavity.Cavity{Tris: tris, Rim: sides(t, x.m, x.rim...), Cut: x.cut}
		isCavity(t, x.what, cavity.Dig(x.m, x.p, walk.Look(x.m, x.p)), want, x.p)
	}
}

// TestOwnLists: who writes into an answer changes neither the mesh nor what is answered next.
func TestOwnLists(t *testing.T) {
	for _, s := range shapes() {
		was := s.m.Copy()
		eachAsked(s, func(p api.Pt, at walk.Place) {
			want, got := cavity.Dig(s.m, p, at), cavity.Dig(s.m, p, at)
			isCavity(t, "the same call: "+s.what, got, want, p)
			clear(got.Tris)
			clear(got.Rim)
			isCavity(t, "the next call: "+s.what, cavity.Dig(s.m, p, at), want, p)
			isCavity(t, "a copy's: "+s.what, cavity.Dig(was, p, at), want, p)
		})
		isAsItWas(t, "Dig: "+s.what, s.m, was)
	}
}

// TestOtherPlaces: of what is not the point's place, or OnPoint, nothing is said, but there is an answer, and always the same.
func TestOtherPlaces(t *testing.T) {
	numbers := []int{math.MinInt, -3, -2, -1, 0, 1, 2, 5, 70, 1000, math.MaxInt}
	d := dice(3)
	for _, s := range shapes() {
		was := s.m.Copy()
		for range 1000 {
			any := func() int { return numbers[d.below(len(numbers))] }
			p := slices.Concat(s.ask, s.m.Pts)[d.below(len(s.ask)+len(s.m.Pts))]
			at := walk.Place{Kind: d.below(5), Tri: d.below(len(s.m.Tris)), A: d.below(len(s.m.Pts)), B: d.below(len(s.m.Pts))}
			if d.below(2) == 0 {
				at = walk.Place{Kind: any(), Tri: any(), A: any(), B: any()}
			}
			isCavity(t, s.what, cavity.Dig(s.m, p, at), cavity.Dig(was, p, at), p, at)
		}
		for _, p := range s.m.Pts {
			at := walk.Look(s.m, p)
			isCavity(t, "at a point: "+s.what, cavity.Dig(s.m, p, at), cavity.Dig(was, p, at), p)
		}
		isAsItWas(t, "Dig: "+s.what, s.m, was)
	}
}

// TestFarther: of coordinates beyond MaxCoord nothing is said, but there is an answer, and always the same.
func TestFarther(t *testing.T) {
	for _, s := range shapes() {
		for _, p := range board(math.MinInt, -far-1, 3, far+1, math.MaxInt) {
			for u := range s.m.Tris {
				isSame(t, "Conflict: "+s.what, cavity.Conflict(s.m, u, p), cavity.Conflict(s.m, u, p), p, u)
			}
			at := walk.Look(s.m, p)
			isCavity(t, s.what, cavity.Dig(s.m, p, at), cavity.Dig(s.m, p, at), p, at)
		}
	}
}

// TestNotSound: of meshes that aren't sound nothing is said, but there is an answer, and always the same: of triangles with nothing across, of those across from which one is gone, and of those whose points aren't there.
func TestNotSound(t *testing.T) {
	const g = mesh.Ghost
	m, _ := mesh.New(pts(0, 0, 4, 0, 0, 4, 4, 4), 0, 1, 2)
	m.Drop(1)
	for _, v := range [][3]int{{1, 3, 2}, {3, 1, 2}, {0, 0, 0}, {7, 8, 9}, {0, 1, 4}, {g, g, 1}, {g, g, g}, {0, g, 9}, {-5, 1, 2}, {mesh.Gone, 1, 2}} {
		m.Link(0, 0, m.Make(v[0], v[1], v[2]), 1, v[0] > 3)
	}
	was := m.Copy()
	for _, p := range board(-1, 0, 1, 2, 3, 5) {
		for u := range m.Tris {
			isSame(t, "Conflict", cavity.Conflict(m, u, p), cavity.Conflict(was, u, p), u, p)
			for _, at := range []walk.Place{{Tri: u}, {Kind: walk.OnEdge, Tri: u, A: 1, B: 2}, {Kind: walk.OnPoint, Tri: u}, {Kind: walk.Outside, Tri: u}} {
				isCavity(t, "Dig", cavity.Dig(m, p, at), cavity.Dig(was, p, at), p, at)
			}
		}
	}
	isAsItWas(t, "Dig", m, was)
}
