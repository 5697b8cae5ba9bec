package grow_test

import (
	"math"
	"slices"
	"testing"

	"isohyet/api"
	"isohyet/cavity"
	"isohyet/grow"
	"isohyet/mesh"
	"isohyet/walk"
)

// An outcome is a mesh's triangles, by their points, and faults.
type outcome struct {
	tris   [][3]int
	faults [][2]int
}

func outcomeOf(m *mesh.Mesh) outcome {
	return outcome{trisOf(m), faultsOf(m)}
}

// isOutcome tells it, if a mesh hasn't the triangles and faults that are asked.
func isOutcome(t *testing.T, what string, m *mesh.Mesh, want outcome, of ...any) {
	t.Helper()
	isList(t, "the triangles: "+what, trisOf(m), want.tris, of...)
	isList(t, "the faults: "+what, faultsOf(m), want.faults, of...)
}

// inWords is what a mesh is, by the chapter's words, when the point v has come, the place of which is at.
func inWords(m *mesh.Mesh, v int, at walk.Place) outcome {
	c := cavity.Dig(m, m.Pts[v], at)
	var tris [][3]int
	for u, x := range m.Tris {
		if x.V[0] != mesh.Gone && !slices.Contains(c.Tris, u) {
			tris = append(tris, x.V)
		}
	}
	for _, s := range c.Rim {
		tris = append(tris, [3]int{s.A, s.B, v})
	}
	var faults [][2]int
	for _, e := range faultsOf(m) {
		if on(m.Pts[v], m.Pts[e[0]], m.Pts[e[1]]) {
			faults = append(faults, ordered(e[0], v), ordered(e[1], v))
		} else {
			faults = append(faults, e)
		}
	}
	slices.SortFunc(faults, func(a, b [2]int) int { return slices.Compare(a[:], b[:]) })
	return outcome{byPoints(tris), faults}
}

// someFrom are numbers of triangles to begin at, and numbers that are none.
func someFrom(d *dice, m *mesh.Mesh) []int {
	n := len(m.Tris)
	return []int{0, d.below(n), d.below(n), d.below(n), n - 1, n, -1, -2, math.MinInt, math.MaxInt}
}

// TestInsert: each point that is asked, into each mesh, from anywhere on: as the words say, and a constrained Delaunay triangulation again.
func TestInsert(t *testing.T) {
	d := dice(1)
	for _, s := range shapes() {
		for _, p := range s.ask {
			m := s.m.Copy()
			v := m.Add(p)
			was := m.Copy()
			want := inWords(m, v, walk.Look(m, p))
			isSame(t, "Insert: "+s.what, grow.Insert(m, v, 0), true, p)
			isOutcome(t, s.what, m, want, p)
			isList(t, "the points: "+s.what, m.Pts, was.Pts, p)
			isTriangulation(t, s.what, m, append(slices.Clone(s.points), v), s.faults, p)
			isAsItWas(t, "a copy: "+s.what, was, was.Copy())
			for _, from := range someFrom(&d, was) {
				other, again := was.Copy(), was.Copy()
				isSame(t, "Insert: "+s.what, grow.Insert(other, v, from), true, p, from)
				isOutcome(t, s.what, other, want, p, from)
				isSame(t, "Sound: "+s.what, other.Sound(), true, p, from)
				isSame(t, "Insert: "+s.what, grow.Insert(again, v, from), true, p, from)
				isAsItWas(t, "the same call: "+s.what, again, other, p, from)
			}
		}
	}
}

// TestInsertSeen: no point that is seen lies in a circle, by P2's own words.
func TestInsertSeen(t *testing.T) {
	for i, s := range shapes() {
		for j, p := range s.ask {
			if (i+j)%17 == 0 {
				m := s.m.Copy()
				grow.Insert(m, m.Add(p), 0)
				isUnseen(t, s.what, m, p)
			}
		}
	}
}

// TestKinds: these tests ask of all kinds of places.
func TestKinds(t *testing.T) {
	seen := map[string]int{}
	for _, s := range shapes() {
		for _, p := range s.ask {
			at := walk.Look(s.m, p)
			what := []string{"inside", "on an edge", "at a point", "outside"}[at.Kind]
			for e := range s.m.Edges() {
				if at.Kind == walk.OnEdge && e.A == at.A && e.B == at.B {
					what += map[bool]string{true: ", a fault"}[e.Fault] + map[bool]string{true: ", of the border"}[e.Hull]
				}
			}
			seen[what]++
			if c := cavity.Dig(s.m, p, at); c.Cut {
				seen[what+", cut"]++
			}
		}
	}
	for _, what := range []string{"inside", "on an edge", "on an edge, a fault", "on an edge, of the border", "on an edge, a fault, of the border", "outside"} {
		isSame(t, "some are asked: "+what, seen[what] > 20, true, seen)
	}
	for _, what := range []string{"inside", "on an edge, a fault", "outside"} {
		isSame(t, "some are cut: "+what, seen[what+", cut"] > 5, true, seen)
	}
}

// TestInsertEverywhere: all points of a small board, and about it, with all kinds of faults.
func TestInsertEverywhere(t *testing.T) {
	d := dice(13)
	for n := range 30 {
		s := shapeOf("small", mixed(&d, 4+n/3, 5), n%3, n%5)
		for _, p := range board(-7, -6, -5, -4, -3, -2, -1, 0, 1, 2, 3, 4, 5, 6, 7) {
			m := s.m.Copy()
			v := m.Add(p)
			was := m.Copy()
			at := walk.Look(m, p)
			isSame(t, "Insert", grow.Insert(m, v, n), at.Kind != walk.OnPoint, p, n)
			if at.Kind == walk.OnPoint {
				isAsItWas(t, "at a point", m, was, p, n)
				continue
			}
			isOutcome(t, s.what, m, inWords(was, v, at), p, n)
			isTriangulation(t, s.what, m, append(slices.Clone(s.points), v), s.faults, p, n)
		}
	}
}

// TestInsertMany: many points, one behind the other, into one mesh; faults are parted again and again.
func TestInsertMany(t *testing.T) {
	d := dice(21)
	parted := 0
	for _, s := range shapes() {
		m, points := s.m.Copy(), slices.Clone(s.points)
		for _, p := range shuffled(&d, s.ask)[:min(len(s.ask), 40)] {
			// Midway between two points that are in it already, or as asked.
			if a, b := m.Pts[points[d.below(len(points))]], m.Pts[points[d.below(len(points))]]; d.below(2) == 0 {
				p = pt((a.X+b.X)/2, (a.Y+b.Y)/2)
			}
			there := slices.ContainsFunc(points, func(v int) bool { return m.Pts[v] == p })
			v := m.Add(p)
			was := m.Copy()
			isSame(t, "Insert: "+s.what, grow.Insert(m, v, d.below(len(m.Tris))), !there, p)
			if there {
				isAsItWas(t, "at a point: "+s.what, m, was, p)
				continue
			}
			points = append(points, v)
			isTriangulation(t, s.what, m, points, s.faults, p)
		}
		isUnseen(t, s.what, m)
		parted += len(faultsOf(m)) - len(s.faults)
	}
	isSame(t, "faults are parted", parted > 50, true, parted)
}

// TestInsertOrders: some points, in all orders, into a mesh with faults: where no four are on one circle the triangles are the same.
func TestInsertOrders(t *testing.T) {
	start := tooth()
	// The points are to the left of the tooth, to its right, on it, above it and beyond.
	orders(pts(7, 5, 14, 4, 10, 5, 9, 16, 33, 8), func(l []api.Pt) {
		m := start.m.Copy()
		for i, p := range l {
			isSame(t, "Insert", grow.Insert(m, m.Add(p), i), true, l)
		}
		points := slices.Concat(start.points, []int{len(m.Pts) - 5, len(m.Pts) - 4, len(m.Pts) - 3, len(m.Pts) - 2, len(m.Pts) - 1})
		isTriangulation(t, "the tooth", m, points, start.faults, l)
		isSame(t, "the faults", len(faultsOf(m)), 2, l)
		isUnseen(t, "the tooth", m, l)
	})
}

// TestInsertNot: where a point of the mesh lies nothing comes, from wherever one looks.
func TestInsertNot(t *testing.T) {
	d := dice(17)
	for _, s := range shapes() {
		m := s.m.Copy()
		for _, v := range s.points {
			double := m.Add(m.Pts[v])
			was := m.Copy()
			for _, from := range someFrom(&d, m) {
				isSame(t, "Insert at a point: "+s.what, grow.Insert(m, double, from), false, v, from)
				isAsItWas(t, "Insert at a point: "+s.what, m, was, v, from)
			}
		}
		v := m.Add(s.ask[0])
		isSame(t, "Insert: "+s.what, grow.Insert(m, v, 0), true)
		was := m.Copy()
		isSame(t, "Insert of what is in it: "+s.what, grow.Insert(m, v, 0), false)
		isAsItWas(t, "Insert of what is in it: "+s.what, m, was)
	}
}

// TestInsertLone: points that aren't in the mesh keep none away that comes to their place, but one that has come does.
func TestInsertLone(t *testing.T) {
	m, _ := mesh.New(pts(0, 0, 4, 0, 0, 4, 1, 1, 1, 1, 9, 9, 9, 9), 0, 1, 2)
	for _, x := range []struct {
		v    int
		want bool
	}{{4, true}, {3, false}, {5, true}, {6, false}, {4, false}} {
		isSame(t, "Insert", grow.Insert(m, x.v, 0), x.want, x.v)
	}
	isTriangulation(t, "the others", m, []int{0, 1, 2, 4, 5}, nil)
}

// TestInsertInWords: each kind of place, by hand.
func TestInsertInWords(t *testing.T) {
	const g = mesh.Ghost
	// One triangle; the same with faults; a square with a fault from corner to corner.
	one, closed := shapeOf("one", pts(0, 0, 4, 0, 0, 4), 0, 0), shapeOf("closed", pts(0, 0, 4, 0, 0, 4), 0, 1)
	crossed := hand("crossed", pts(0, 0, 4, 0, 4, 4, 0, 4), [][3]int{{0, 1, 2}, {0, 2, 3}}, 0, 2)
	for _, x := range []struct {
		what   string
		s      shape
		p      api.Pt
		tris   [][3]int
		faults [][2]int
	}{
		{"within", one, pt(1, 1), [][3]int{{0, 1, 9}, {1, 2, 9}, {2, 0, 9}, {1, 0, g}, {2, 1, g}, {0, 2, g}}, nil},
		{"on the border", one, pt(2, 0), [][3]int{{1, 2, 9}, {2, 0, 9}, {9, 0, g}, {1, 9, g}, {2, 1, g}, {0, 2, g}}, nil},
		{"beyond, in the circle", one, pt(3, 3), [][3]int{{0, 1, 9}, {2, 0, 9}, {1, 0, g}, {9, 1, g}, {2, 9, g}, {0, 2, g}}, nil},
		{"beyond, outside of the circle", one, pt(5, 5), [][3]int{{0, 1, 2}, {1, 9, 2}, {1, 0, g}, {9, 1, g}, {2, 9, g}, {0, 2, g}}, nil},
		{"beyond two edges", one, pt(-1, -1), [][3]int{{0, 1, 2}, {0, 9, 1}, {0, 2, 9}, {1, 9, g}, {2, 1, g}, {9, 2, g}}, nil},
		{"on the line of an edge", one, pt(9, 0), [][3]int{{0, 1, 2}, {1, 9, 2}, {1, 0, g}, {9, 1, g}, {2, 9, g}, {0, 2, g}}, nil},
		{"within faults", closed, pt(1, 1), [][3]int{{0, 1, 9}, {1, 2, 9}, {2, 0, 9}, {1, 0, g}, {2, 1, g}, {0, 2, g}}, [][2]int{{0, 1}, {0, 2}, {1, 2}}},
		{"on a fault of the border", closed, pt(2, 0), [][3]int{{1, 2, 9}, {2, 0, 9}, {9, 0, g}, {1, 9, g}, {2, 1, g}, {0, 2, g}}, [][2]int{{0, 2}, {0, 9}, {1, 2}, {1, 9}}},
		{"beyond a fault, in the circle", closed, pt(3, 3), [][3]int{{0, 1, 2}, {1, 9, 2}, {1, 0, g}, {9, 1, g}, {2, 9, g}, {0, 2, g}}, [][2]int{{0, 1}, {0, 2}, {1, 2}}},
		{"beside a fault", crossed, pt(3, 1), [][3]int{{0, 1, 9}, {1, 2, 9}, {0, 9, 2}, {0, 2, 3}, {1, 0, g}, {2, 1, g}, {3, 2, g}, {0, 3, g}}, [][2]int{{0, 2}}},
		{"on a fault", crossed, pt(1, 1), [][3]int{{0, 1, 9}, {1, 2, 9}, {2, 3, 9}, {3, 0, 9}, {1, 0, g}, {2, 1, g}, {3, 2, g}, {0, 3, g}}, [][2]int{{0, 9}, {2, 9}}},
		{"beyond a fault's end", crossed, pt(-1, -1), [][3]int{{0, 1, 2}, {0, 2, 3}, {0, 9, 1}, {0, 3, 9}, {1, 9, g}, {2, 1, g}, {3, 2, g}, {9, 3, g}}, [][2]int{{0, 2}}},
	} {
		m := x.s.m.Copy()
		for len(m.Pts) < 9 {
			m.Add(pt(0, 0))
		}
		isSame(t, "the number: "+x.what, m.Add(x.p), 9)
		isSame(t, "Insert: "+x.what, grow.Insert(m, 9, 0), true)
		isOutcome(t, x.what, m, outcome{byPoints(x.tris), x.faults})
		isTriangulation(t, x.what, m, append(slices.Clone(x.s.points), 9), x.s.faults)
	}
}

// TestInsertNone: of numbers that no point has nothing is said, but nothing comes, and nothing is changed.
func TestInsertNone(t *testing.T) {
	for _, s := range shapes() {
		was := s.m.Copy()
		n := len(s.m.Pts)
		for _, v := range []int{-1, -2, n, n + 1, math.MinInt, math.MaxInt} {
			isSame(t, "Insert of none: "+s.what, grow.Insert(s.m, v, 0), false, v)
		}
		isAsItWas(t, "Insert of none: "+s.what, s.m, was)
	}
}

// TestInsertFarther: of coordinates beyond MaxCoord nothing is said, but there is an answer, and always the same.
func TestInsertFarther(t *testing.T) {
	numbers := []int{math.MinInt, math.MinInt + 1, -1 << 62, -far - 1, 0, 1, far + 1, 1 << 40, 1 << 62, math.MaxInt}
	for _, s := range shapes() {
		one, two := s.m.Copy(), s.m.Copy()
		for _, p := range board(numbers...) {
			v := one.Add(p)
			two.Add(p)
			isSame(t, "Insert: "+s.what, grow.Insert(one, v, v), grow.Insert(two, v, v), p)
			isAsItWas(t, "Insert: "+s.what, one, two, p)
		}
	}
}

// TestNotSound: of meshes that aren't sound nothing is said, but there is an answer, and always the same: of triangles with nothing across, of those across from which one is gone, and of those whose points aren't there.
func TestNotSound(t *testing.T) {
	const g = mesh.Ghost
	more := [][3]int{{1, 3, 2}, {3, 1, 2}, {0, 0, 0}, {0, 1, 3}, {2, 1, g}, {0, 2, g}, {g, 3, 3}}
	d := dice(19)
	for range 300 {
		m, _ := mesh.New(pts(0, 0, 4, 0, 0, 4, 4, 4), 0, 1, 2)
		for range d.below(3) {
			m.Drop(d.below(len(m.Tris)))
		}
		for range d.below(4) {
			v := more[d.below(len(more))]
			m.Link(d.below(len(m.Tris)), d.below(3), m.Make(v[0], v[1], v[2]), d.below(3), d.below(2) == 0)
		}
		other := m.Copy()
		for _, p := range board(-1, 0, 1, 2, 3, 5) {
			v, from := m.Add(p), d.below(len(m.Tris))
			other.Add(p)
			isSame(t, "Insert", grow.Insert(m, v, from), grow.Insert(other, v, from), p)
			isAsItWas(t, "Insert", m, other, p)
		}
	}
}
