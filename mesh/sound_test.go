package mesh_test

import (
	"slices"
	"testing"

	"isohyet/api"
	"isohyet/mesh"
)

// isAsWords tells it, if Sound isn't as the chapter's words have it, and hands on what it is.
func isAsWords(t *testing.T, what string, m *mesh.Mesh) bool {
	t.Helper()
	want := soundInWords(m)
	isSame(t, "Sound: "+what, m.Sound(), want, m.Pts, m.Tris)
	return want
}

// loose is a mesh of its own, as nobody made it: for Sound alone.
func loose(m *mesh.Mesh) *mesh.Mesh {
	return &mesh.Mesh{Pts: slices.Clone(m.Pts), Tris: slices.Clone(m.Tris)}
}

func TestSoundShapes(t *testing.T) {
	for _, s := range shapes() {
		m := s.mesh()
		isSame(t, "Sound: "+s.what, m.Sound(), true, m.Pts, m.Tris)
		isSame(t, "sound in words: "+s.what, soundInWords(m), true)
		isSame(t, "Sound of one that nobody made: "+s.what, loose(m).Sound(), true)
	}
}

// TestSoundOfTurned: where a triangle's points begin doesn't matter, nor which number it has, nor what one that is gone says.
func TestSoundOfTurned(t *testing.T) {
	d := dice(3)
	for _, s := range shapes() {
		m := loose(s.mesh())
		for i := range m.Tris {
			x := m.Tris[i]
			for k, by := range [3]int{1, 2, 0} {
				m.Tris[i].V[k], m.Tris[i].N[k], m.Tris[i].F[k] = x.V[by], x.N[by], x.F[by]
			}
		}
		gone := mesh.Tri{V: [3]int{mesh.Gone, mesh.Gone, mesh.Gone}, N: [3]int{-9, 0, 99}, F: [3]bool{true}}
		for range 5 {
			m.Tris = append(m.Tris, gone)
		}
		for range 50 {
			swap(m, d.below(len(m.Tris)), d.below(len(m.Tris)))
		}
		isSame(t, "Sound: "+s.what, m.Sound(), true, m.Pts, m.Tris)
	}
}

// swap gives two triangles each other's number.
func swap(m *mesh.Mesh, a, b int) {
	m.Tris[a], m.Tris[b] = m.Tris[b], m.Tris[a]
	for t := range m.Tris {
		if m.Tris[t].V[0] == mesh.Gone {
			continue
		}
		for i, u := range m.Tris[t].N {
			switch u {
			case a:
				m.Tris[t].N[i] = b
			case b:
				m.Tris[t].N[i] = a
			}
		}
	}
}

// small are the shapes of few triangles.
func small() []shape {
	return slices.DeleteFunc(shapes(), func(s shape) bool { return len(s.real) > 8 })
}

// TestSoundOfOneWrong: any one number, or fault, that is another one.
func TestSoundOfOneWrong(t *testing.T) {
	for _, s := range small() {
		m := loose(s.mesh())
		was := slices.Clone(m.Tris)
		for i := range m.Tris {
			for k := range 3 {
				for v := mesh.Gone; v < len(m.Pts); v++ {
					m.Tris[i].V[k] = v
					isAsWords(t, s.what+", a point", m)
				}
				m.Tris[i] = was[i]
				for n := -3; n < len(m.Tris)+3; n++ {
					m.Tris[i].N[k] = n
					sound := isAsWords(t, s.what+", a triangle across", m)
					isSame(t, "sound with another triangle across", sound, n == was[i].N[k])
				}
				m.Tris[i] = was[i]
				m.Tris[i].F[k] = !was[i].F[k]
				isSame(t, "sound with a fault that only one tells", isAsWords(t, s.what+", a fault", m), false)
				m.Tris[i] = was[i]
			}
			m.Tris[i].V = [3]int{mesh.Gone, mesh.Gone, mesh.Gone}
			isSame(t, "sound with a hole", isAsWords(t, s.what+", a hole", m), false)
			m.Tris[i] = was[i]
		}
	}
}

// TestSoundOfSomeWrong: some numbers and faults, and points' places, that are others.
func TestSoundOfSomeWrong(t *testing.T) {
	d := dice(11)
	for _, s := range shapes() {
		m := s.mesh()
		for range 300 {
			n := loose(m)
			for range 1 + d.below(3) {
				x, k := &n.Tris[d.below(len(n.Tris))], d.below(3)
				switch d.below(4) {
				case 0:
					x.V[k] = d.below(len(n.Pts)+2) - 2
				case 1:
					x.N[k] = d.below(len(n.Tris)+2) - 1
				case 2:
					x.F[k] = !x.F[k]
				case 3:
					n.Pts[d.below(len(n.Pts))] = n.Pts[d.below(len(n.Pts))]
				}
			}
			isAsWords(t, s.what, n)
		}
	}
}

// TestSoundOfFaults: any edge of points may be one, if both its triangles say so, none of Ghost.
func TestSoundOfFaults(t *testing.T) {
	for _, s := range shapes() {
		m := s.mesh()
		for u, x := range m.Tris {
			for i := range 3 {
				o := x.N[i]
				j := slices.Index(m.Tris[o].N[:], u)
				n := loose(m)
				n.Tris[u].F[i] = !n.Tris[u].F[i]
				n.Tris[o].F[j] = n.Tris[u].F[i]
				ofGhost := x.V[(i+1)%3] == mesh.Ghost || x.V[(i+2)%3] == mesh.Ghost
				isSame(t, "Sound: a fault, "+s.what, n.Sound(), !ofGhost, u, i)
			}
		}
	}
}

// everywhere puts the points of a mesh at all places of a list, each of them at any.
func everywhere(l []api.Pt, m *mesh.Mesh, from int, do func()) {
	if from == len(m.Pts) {
		do()
		return
	}
	for _, p := range l {
		m.Pts[from] = p
		everywhere(l, m, from+1, do)
	}
}

// TestSoundWhereverPointsLie: triangles that are linked as they should be, with points at all places of a small board: turned, flat, one upon the other, with a border that turns right, or back.
func TestSoundWhereverPointsLie(t *testing.T) {
	kite := pts(1, 1, 0, 0, 2, 0, 2, 2, 0, 2)
	for _, s := range []shape{
		{what: "two triangles", pts: kite[1:], real: [][3]int{{0, 1, 2}, {0, 2, 3}}},
		{what: "three triangles about a point", pts: kite[:4], real: [][3]int{{0, 1, 2}, {0, 2, 3}, {0, 3, 1}}},
		{what: "three triangles in a row", pts: pts(0, 0, 1, 0, 2, 0, 2, 1, 0, 1), real: [][3]int{{0, 1, 4}, {1, 3, 4}, {1, 2, 3}}, faults: [][2]int{{1, 3}}},
		{what: "four triangles about a point", pts: kite, real: [][3]int{{0, 1, 2}, {0, 2, 3}, {0, 3, 4}, {0, 4, 1}}},
	} {
		m, sound := loose(s.mesh()), 0
		everywhere(board(0, 1, 2), m, 0, func() {
			if isAsWords(t, s.what, m) {
				sound++
			}
		})
		isSame(t, "some are sound", sound > 0, true, s.what)
	}
}

// rounds is a point with n triangles about it, between others that lie at these places, one behind the other.
func rounds(around []api.Pt) shape {
	s := shape{pts: append(pts(0, 0), around...)}
	n := len(around)
	for i := range n {
		s.real = append(s.real, [3]int{0, 1 + i, 1 + (i+1)%n})
	}
	return s
}

// TestSoundGoesRoundOnce: a point with triangles that go round it twice, within a border that goes round twice, without a turn to the right.
func TestSoundGoesRoundOnce(t *testing.T) {
	once := pts(3, 0, 0, 3, -3, 0, 0, -3)
	twice := slices.Concat(once, once)
	star := pts(0, 4, -3, -4, 4, 2, -4, 2, 3, -4)
	third := pts(3, -3, 0, 3, -3, -3)
	for _, x := range []struct {
		what   string
		around []api.Pt
		sound  bool
	}{
		{"once", once, true},
		{"twice", twice, false},
		{"three times", slices.Concat(twice, once), false},
		{"a star", star, false},
		{"twice round three", slices.Concat(third, third), false},
		{"twice round three, once with a point on a side", slices.Concat(third, third[:1], pts(2, -1), third[1:]), false},
	} {
		m := rounds(x.around).mesh()
		isSame(t, "Sound: "+x.what, isAsWords(t, x.what, m), x.sound)
	}
}

// TestSoundOfParts: triangles that hang together by one point, or not at all, and such as share an edge with two.
func TestSoundOfParts(t *testing.T) {
	l := pts(0, 0, 2, 0, 0, 2, 4, 2, 2, 4, 6, 0, 9, 9, 9, 8, 8, 9)
	for _, x := range []struct {
		what string
		real [][3]int
	}{
		{"two by one point", [][3]int{{0, 1, 2}, {2, 3, 4}}},
		{"two that don't hang together", [][3]int{{0, 1, 2}, {6, 8, 7}}},
		{"two by one point, on one side of a line", [][3]int{{0, 1, 2}, {1, 5, 3}}},
		{"the same twice", [][3]int{{0, 1, 2}, {0, 1, 2}}},
		{"an edge of three", [][3]int{{0, 1, 2}, {1, 3, 2}, {1, 5, 2}}},
		{"a bay", [][3]int{{0, 1, 2}, {1, 3, 2}, {3, 6, 2}, {1, 5, 3}}},
	} {
		m := assemble(l, x.real)
		isSame(t, "Sound: "+x.what, isAsWords(t, x.what, m), false)
	}
}

// TestSoundWithout: one triangle that isn't there, with ghosts where it was: a hole, a bay, or a border that is as good.
func TestSoundWithout(t *testing.T) {
	holes := 0
	for _, s := range shapes() {
		for i := range s.real {
			if len(s.real) == 1 {
				continue
			}
			s := s
			s.real = slices.Delete(slices.Clone(s.real), i, i+1)
			if m := s.mesh(); !isAsWords(t, s.what, m) && len(ghosts(s.real)) == len(m.Hull())+3 {
				holes++
			}
		}
	}
	isSame(t, "some had a hole within", holes > 0, true)
}

// soup are triangles that turn left, of any points.
func soup(d *dice, l []api.Pt, n int) [][3]int {
	var out [][3]int
	for len(out) < n {
		v := [3]int{d.below(len(l)), d.below(len(l)), d.below(len(l))}
		if turn(l[v[0]], l[v[1]], l[v[2]]) > 0 {
			out = append(out, v)
		}
	}
	return out
}

// TestSoundOfSoups: any triangles, linked where they fit.
func TestSoundOfSoups(t *testing.T) {
	d := dice(5)
	l := pts(0, 0, 3, 0, 3, 3, 0, 3, 1, 2)
	sound := 0
	for i := range 20000 {
		if isAsWords(t, "a soup", assemble(l, soup(&d, l, 1+i%4))) {
			sound++
		}
	}
	isSame(t, "some are sound", sound > 0, true)
}

// TestSoundWithoutTriangles: where no triangle is real there is no border.
func TestSoundWithoutTriangles(t *testing.T) {
	var none *mesh.Mesh
	isSame(t, "Sound of nil", none.Sound(), false)
	isSame(t, "Sound of none", new(mesh.Mesh).Sound(), false)
	isSame(t, "Sound of points alone", (&mesh.Mesh{Pts: board(0, 1)}).Sound(), false)
	m := shapes()[0].mesh()
	for i := range m.Tris {
		m.Drop(i)
	}
	isSame(t, "Sound where all are gone", m.Sound(), false)
	back := &mesh.Mesh{Pts: board(0, 1), Tris: []mesh.Tri{
		{V: [3]int{0, 1, mesh.Ghost}, N: [3]int{1, 1, 1}},
		{V: [3]int{1, 0, mesh.Ghost}, N: [3]int{0, 0, 0}},
	}}
	isSame(t, "Sound of two ghosts, back to back", isAsWords(t, "two ghosts", back), false)
}

// TestSoundOfOneMore: one triangle more beside a sound mesh: such as is there already, and such as is neither real, nor a ghost, nor gone.
func TestSoundOfOneMore(t *testing.T) {
	for _, s := range shapes() {
		m := s.mesh()
		was := loose(m)
		for _, x := range was.Tris {
			m.Tris = append(was.Tris, x)
			isSame(t, "Sound: the same twice, "+s.what, isAsWords(t, s.what, m), false)
		}
		u := len(was.Tris)
		itself := mesh.Tri{N: [3]int{u, u, u}}
		for _, l := range board(mesh.Gone, mesh.Ghost, 0, 1) {
			for v := mesh.Gone; v < 2; v++ {
				itself.V = [3]int{l.X, l.Y, v}
				m.Tris = append(was.Tris, itself)
				gone := itself.V == [3]int{mesh.Gone, mesh.Gone, mesh.Gone}
				isSame(t, "Sound: a strange one, "+s.what, isAsWords(t, s.what, m), gone)
			}
		}
	}
}

// TestSoundOfFew: one or two triangles, of any points, with any across.
func TestSoundOfFew(t *testing.T) {
	few := board(mesh.Gone, mesh.Ghost, 0, 1, 2)
	for _, a := range few {
		for _, b := range few {
			one := mesh.Tri{V: [3]int{a.X, a.Y, b.X}, N: [3]int{b.Y % 2, b.Y % 2, b.Y % 2}}
			m := &mesh.Mesh{Pts: pts(0, 0, 1, 0, 0, 1), Tris: []mesh.Tri{one}}
			isSame(t, "Sound of one", isAsWords(t, "one", m), false)
			for _, v := range [][3]int{{a.X, b.X, a.Y}, {a.Y, a.X, b.X}, {a.X, b.Y, a.Y}} {
				m.Tris = []mesh.Tri{{V: one.V, N: [3]int{1, 1, 1}}, {V: v}}
				isSame(t, "Sound of two", isAsWords(t, "two", m), false)
			}
		}
	}
}

// TestSoundOfNoPoints: of triangles of points that aren't there nothing is said, but there is an answer.
func TestSoundOfNoPoints(t *testing.T) {
	for _, s := range small() {
		m := loose(s.mesh())
		for i := range m.Tris {
			for k := range 3 {
				for _, v := range []int{len(m.Pts), -3, -1 << 63, 1<<63 - 1} {
					n := loose(m)
					n.Tris[i].V[k] = v
					isSame(t, "Sound: "+s.what, n.Sound(), false, v)
				}
			}
		}
		m.Pts = m.Pts[:len(m.Pts)/2]
		isSame(t, "Sound of half the points: "+s.what, m.Sound(), false)
	}
}

// TestSoundAtTheEnds: a step of 1 beside the longest lines.
func TestSoundAtTheEnds(t *testing.T) {
	for _, x := range []struct {
		what  string
		pts   []api.Pt
		sound bool
	}{
		{"a border that turns left by little", pts(-far, -far, 0, -1, far, far, -far, far), true},
		{"a border that goes on straight", pts(-far, -far, 0, 0, far, far, -far, far), true},
		{"a border that turns right by little", pts(-far, -far, 0, 1, far, far, -far, far), false},
		{"a triangle that turns left by little", pts(-far, -far, far, far-1, far, far, far-1, far), true},
		{"one that lies on a line", pts(-far, -far, 0, 0, far, far, far, far), false},
	} {
		m := loose(assemble(pts(0, 0, 3, 0, 3, 3, 0, 3), [][3]int{{0, 1, 3}, {1, 2, 3}}))
		copy(m.Pts, x.pts)
		isSame(t, "Sound: "+x.what, isAsWords(t, x.what, m), x.sound)
	}
}

// TestSoundChangesNothing: nor does it answer anything else when it is asked once more.
func TestSoundChangesNothing(t *testing.T) {
	for _, s := range shapes() {
		m := s.mesh()
		was := loose(m)
		for range 3 {
			isSame(t, "Sound", m.Sound(), true)
		}
		isList(t, "the points", m.Pts, was.Pts)
		isList(t, "the triangles", m.Tris, was.Tris)
	}
}
