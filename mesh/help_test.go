package mesh_test

import (
	"cmp"
	"math/big"
	"slices"
	"testing"

	"isohyet/api"
	"isohyet/mesh"
)

const far = api.MaxCoord

func pt(x, y int) api.Pt {
	return api.Pt{X: x, Y: y}
}

// pts are the points of which these are x, y, x, y ..
func pts(coords ...int) []api.Pt {
	var out []api.Pt
	for i := 0; i < len(coords); i += 2 {
		out = append(out, pt(coords[i], coords[i+1]))
	}
	return out
}

// board are all points whose coordinates are any of those handed in.
func board(coords ...int) []api.Pt {
	var out []api.Pt
	for _, x := range coords {
		for _, y := range coords {
			out = append(out, pt(x, y))
		}
	}
	return out
}

// A dice tells numbers of mixed bits, always the same ones.
type dice uint64

// below is a number from 0 up to less than n.
func (d *dice) below(n int) int {
	*d = *d*6364136223846793005 + 1442695040888963407
	return int(*d>>31) % n
}

// mixed are n points at places of their own, no farther than most from 0 to either side.
func mixed(d *dice, n, most int) []api.Pt {
	var out []api.Pt
	for len(out) < n {
		p := pt(d.below(2*most+1)-most, d.below(2*most+1)-most)
		if !slices.Contains(out, p) {
			out = append(out, p)
		}
	}
	return out
}

// area2 is twice the area of three points, less than 0, if they turn right: what lies under each edge.
func area2(a, b, c api.Pt) *big.Int {
	out := new(big.Int)
	for _, e := range [][2]api.Pt{{a, b}, {b, c}, {c, a}} {
		one := big.NewInt(int64(e[0].X))
		two := big.NewInt(int64(e[0].Y))
		out.Add(out, one.Mul(one, big.NewInt(int64(e[1].Y))))
		out.Sub(out, two.Mul(two, big.NewInt(int64(e[1].X))))
	}
	return out
}

func turn(a, b, c api.Pt) int {
	return area2(a, b, c).Sign()
}

// hullOf are the corners of the least convex polygon of points, from the least one on; those on its sides, too, if they are asked for.
func hullOf(l []api.Pt, sides bool) []api.Pt {
	l = slices.Clone(l)
	slices.SortFunc(l, func(p, q api.Pt) int {
		return cmp.Or(cmp.Compare(p.X, q.X), cmp.Compare(p.Y, q.Y))
	})
	var out []api.Pt
	for range 2 {
		half := out
		from := len(out)
		for _, p := range l {
			for n := len(half); n-from > 1; n = len(half) {
				if s := turn(half[n-2], half[n-1], p); s > 0 || s == 0 && sides {
					break
				}
				half = half[:n-1]
			}
			half = append(half, p)
		}
		out = half[:len(half)-1]
		slices.Reverse(l)
	}
	return out
}

// sweep are triangles, turning left, that fill the least convex polygon of points (at places of their own, not all on a line).
func sweep(l []api.Pt) [][3]int {
	order := make([]int, len(l))
	for i := range order {
		order[i] = i
	}
	slices.SortFunc(order, func(i, j int) int {
		return cmp.Or(cmp.Compare(l[i].X, l[j].X), cmp.Compare(l[i].Y, l[j].Y))
	})
	first := 2
	for turn(l[order[0]], l[order[1]], l[order[first]]) == 0 {
		first++
	}
	rim := slices.Clone(order[:first])
	if turn(l[order[0]], l[order[1]], l[order[first]]) < 0 {
		slices.Reverse(rim)
	}
	var out [][3]int
	for i := range rim[1:] {
		out = append(out, [3]int{rim[i], rim[i+1], order[first]})
	}
	rim = append(rim, order[first])
	for _, v := range order[first+1:] {
		var more [][3]int
		rim, more = beyond(l, rim, v)
		out = append(out, more...)
	}
	return out
}

// beyond is a border that has one point more, which lies beyond it, and the triangles that come with that.
func beyond(l []api.Pt, rim []int, v int) ([]int, [][3]int) {
	sees := func(i int) bool {
		n := len(rim)
		return turn(l[rim[(i+n)%n]], l[rim[(i+1)%n]], l[v]) < 0
	}
	from := 0
	for !sees(from) || sees(from-1) {
		from++
	}
	rim = slices.Concat(rim[from:], rim[:from])
	var more [][3]int
	to := 0
	for ; sees(to); to++ {
		more = append(more, [3]int{rim[to+1], rim[to], v})
	}
	return slices.Concat(rim[:1], []int{v}, rim[to:]), more
}

// ghosts are those of real triangles: of each edge that only one of them has, in order.
func ghosts(real [][3]int) [][3]int {
	there := map[[2]int]bool{}
	for _, v := range real {
		for i := range v {
			there[[2]int{v[i], v[(i+1)%3]}] = true
		}
	}
	var out [][3]int
	for _, v := range real {
		for i := range v {
			if a, b := v[i], v[(i+1)%3]; !there[[2]int{b, a}] {
				out = append(out, [3]int{b, a, mesh.Ghost})
			}
		}
	}
	return out
}

// place is where an edge is.
type place struct{ t, i int }

// byEdge are the places of all edges of triangles, by their ends, in the order of the triangles.
func byEdge(tris [][3]int) map[[2]int][]place {
	out := map[[2]int][]place{}
	for t, v := range tris {
		for i := range v {
			e := [2]int{v[(i+1)%3], v[(i+2)%3]}
			out[e] = append(out[e], place{t, i})
		}
	}
	return out
}

// assemble is a mesh of just these triangles, and their ghosts, made by New, Drop, Make and Link: edges that fit are linked.
func assemble(l []api.Pt, real [][3]int, faults ...[2]int) *mesh.Mesh {
	m, _ := mesh.New(l, real[0][0], real[0][1], real[0][2])
	for t := range m.Tris {
		m.Drop(t)
	}
	all := append(slices.Clone(real), ghosts(real)...)
	for i, v := range all {
		// Points, and Ghost, come to stand at any place.
		all[i] = [3]int{v[i%3], v[(i+1)%3], v[(i+2)%3]}
		m.Make(all[i][0], all[i][1], all[i][2])
	}
	at := byEdge(all)
	for t, v := range all {
		for i := range v {
			a, b := v[(i+1)%3], v[(i+2)%3]
			isFault := slices.Contains(faults, [2]int{min(a, b), max(a, b)})
			for _, u := range at[[2]int{b, a}] {
				m.Link(t, i, u.t, u.i, isFault)
			}
		}
	}
	return m
}

// A shape is points, and triangles of which a sound mesh can be made.
type shape struct {
	what   string
	pts    []api.Pt
	real   [][3]int
	faults [][2]int
}

func (s shape) mesh() *mesh.Mesh {
	return assemble(s.pts, s.real, s.faults...)
}

// swept is a shape of all these points; of its edges one in three is a fault.
func swept(what string, l []api.Pt) shape {
	s := shape{what: what, pts: l, real: sweep(l)}
	d := dice(1)
	for _, v := range s.real {
		for i := range v {
			if a, b := v[i], v[(i+1)%3]; a < b && d.below(3) == 0 {
				s.faults = append(s.faults, [2]int{a, b})
			}
		}
	}
	return s
}

// shapes are sound ones: small and great, with points that aren't in them, with many points on one side of the border.
func shapes() []shape {
	d := dice(7)
	lone := pts(9, 9, 0, 0, 5, 5, 4, 0, 1, 1, 0, 4, 9, 9)
	return []shape{
		{what: "one triangle", pts: pts(0, 0, 1, 0, 0, 1), real: [][3]int{{0, 1, 2}}},
		{what: "one triangle of faults", pts: pts(0, 0, 1, 0, 0, 1), real: [][3]int{{2, 0, 1}}, faults: [][2]int{{0, 1}, {1, 2}, {0, 2}}},
		{what: "points that aren't in it", pts: lone, real: [][3]int{{1, 3, 4}, {3, 5, 4}, {5, 1, 4}}, faults: [][2]int{{1, 3}, {3, 4}}},
		{what: "a square", pts: pts(4, 4, 0, 0, 4, 0, 0, 4), real: [][3]int{{1, 2, 3}, {2, 0, 3}}, faults: [][2]int{{2, 3}}},
		{what: "a point on a side", pts: pts(0, 0, 2, 0, 4, 0, 1, 3), real: [][3]int{{0, 1, 3}, {1, 2, 3}}},
		{what: "the greatest square", pts: pts(-far, -far, far, -far, far, far, -far, far), real: [][3]int{{0, 1, 2}, {0, 2, 3}}},
		{what: "a sliver", pts: pts(-far, -far, far, far-1, far, far), real: [][3]int{{0, 1, 2}}},
		{what: "nearly on a line", pts: pts(-far, -far, 0, -1, far, far, -1, 0), real: [][3]int{{0, 1, 3}, {1, 2, 3}}},
		swept("a board", board(0, 1, 2, 3, 4)),
		swept("a row above a point", pts(0, 0, 1, 0, 2, 0, 3, 0, 4, 0, 5, 0, 2, -1)),
		swept("all on the border", pts(0, 1, 1, 0, 3, 0, 5, 2, 5, 4, 4, 5, 2, 5, 0, 3)),
		swept("mixed, near", mixed(&d, 30, 6)),
		swept("mixed", mixed(&d, 60, 1000)),
		swept("mixed, far", mixed(&d, 40, far)),
	}
}

// isSame tells it, if an answer isn't the one that is asked.
func isSame[T comparable](t *testing.T, what string, got, want T, of ...any) {
	t.Helper()
	if got != want {
		t.Fatalf("%s %v: got %v, want %v", what, of, got, want)
	}
}

// isList tells it, if a list isn't the one that is asked.
func isList[T comparable](t *testing.T, what string, got, want []T, of ...any) {
	t.Helper()
	if !slices.Equal(got, want) {
		t.Fatalf("%s %v: got %v, want %v", what, of, got, want)
	}
}
