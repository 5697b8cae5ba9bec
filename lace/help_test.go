package lace_test

import (
	"cmp"
	"math/big"
	"slices"
	"testing"

	"isohyet/api"
	"isohyet/mesh"
)

const far = api.MaxCoord

func pt(x, y int) api.Pt {
	return api.Pt{X: x, Y: y}
}

// pts are the points of which these are x, y, x, y ..
func pts(coords ...int) []api.Pt {
	var out []api.Pt
	for i := 0; i < len(coords); i += 2 {
		out = append(out, pt(coords[i], coords[i+1]))
	}
	return out
}

// board are all points whose coordinates are any of those handed in.
func board(coords ...int) []api.Pt {
	var out []api.Pt
	for _, x := range coords {
		for _, y := range coords {
			out = append(out, pt(x, y))
		}
	}
	return out
}

// A dice tells numbers of mixed bits, always the same ones.
type dice uint64

// below is a number from 0 up to less than n.
func (d *dice) below(n int) int {
	*d = *d*6364136223846793005 + 1442695040888963407
	return int(*d>>31) % n
}

// mixed are n points at places of their own, no farther than most from 0 to either side.
func mixed(d *dice, n, most int) []api.Pt {
	var out []api.Pt
	for len(out) < n {
		p := pt(d.below(2*most+1)-most, d.below(2*most+1)-most)
		if !slices.Contains(out, p) {
			out = append(out, p)
		}
	}
	return out
}

// shuffle mixes up a list's order.
func shuffle[T any](d *dice, l []T) {
	for i := range l {
		j := d.below(i + 1)
		l[i], l[j] = l[j], l[i]
	}
}

// whole is a number of any size, from which others are worked out exactly.
func whole(n int) *big.Int {
	return big.NewInt(int64(n))
}

// less is a b - c d.
func less(a, b, c, d *big.Int) *big.Int {
	out := new(big.Int).Mul(a, b)
	return out.Sub(out, new(big.Int).Mul(c, d))
}

// area is twice that of three points, less than 0, if they turn right.
func area(a, b, c api.Pt) *big.Int {
	return less(whole(b.X-a.X), whole(c.Y-a.Y), whole(b.Y-a.Y), whole(c.X-a.X))
}

func turn(a, b, c api.Pt) int {
	return area(a, b, c).Sign()
}

// circle tells whether p lies within (1) the circle through three points that don't lie on a line, on it (0), or beyond it (-1): by how far p, and a, are from its midst, that times twice the area.
func circle(a, b, c, p api.Pt) int {
	twice := area(a, b, c)
	twice.Lsh(twice, 1)
	square := func(q api.Pt) *big.Int {
		x, y := whole(q.X-a.X), whole(q.Y-a.Y)
		return new(big.Int).Add(x.Mul(x, x), y.Mul(y, y))
	}
	// The midst, from a on, times that.
	x := less(square(b), whole(c.Y-a.Y), square(c), whole(b.Y-a.Y))
	y := less(square(c), whole(b.X-a.X), square(b), whole(c.X-a.X))
	off := func(q api.Pt) *big.Int {
		u, v := new(big.Int).Mul(whole(q.X-a.X), twice), new(big.Int).Mul(whole(q.Y-a.Y), twice)
		u.Sub(u, x)
		v.Sub(v, y)
		return new(big.Int).Add(u.Mul(u, u), v.Mul(v, v))
	}
	return off(a).Cmp(off(p))
}

// sweep are triangles, turning left, that fill the least convex polygon of points (at places of their own, not all on a line).
func sweep(l []api.Pt) [][3]int {
	order := make([]int, len(l))
	for i := range order {
		order[i] = i
	}
	slices.SortFunc(order, func(i, j int) int {
		return cmp.Or(cmp.Compare(l[i].X, l[j].X), cmp.Compare(l[i].Y, l[j].Y))
	})
	first := 2
	for turn(l[order[0]], l[order[1]], l[order[first]]) == 0 {
		first++
	}
	rim := slices.Clone(order[:first])
	if turn(l[order[0]], l[order[1]], l[order[first]]) < 0 {
		slices.Reverse(rim)
	}
	var out [][3]int
	for i := range rim[1:] {
		out = append(out, [3]int{rim[i], rim[i+1], order[first]})
	}
	rim = append(rim, order[first])
	for _, v := range order[first+1:] {
		sees := func(i int) bool {
			n := len(rim)
			return turn(l[rim[(i+n)%n]], l[rim[(i+1)%n]], l[v]) < 0
		}
		from, to := 0, 0
		for !sees(from) || sees(from-1) {
			from++
		}
		rim = slices.Concat(rim[from:], rim[:from])
		for ; sees(to); to++ {
			out = append(out, [3]int{rim[to+1], rim[to], v})
		}
		rim = slices.Concat(rim[:1], []int{v}, rim[to:])
	}
	return out
}

// ordered are an edge's ends, the lesser one first.
func ordered(a, b int) [2]int {
	return [2]int{min(a, b), max(a, b)}
}

// across are, of each edge of triangles, as they have it, the triangle and its point over against it.
func across(real [][3]int) map[[2]int][2]int {
	out := map[[2]int][2]int{}
	for t, v := range real {
		for i := range v {
			out[[2]int{v[(i+1)%3], v[(i+2)%3]}] = [2]int{t, v[i]}
		}
	}
	return out
}

// flip changes two triangles' edges for their other one, once each, where it can be and the four points (the edge's ends, the points over against it) are such as are asked for; it tells how many it changed.
func flip(l []api.Pt, real [][3]int, asked func(b, c, a, over int) bool) int {
	n := 0
	for t := range real {
		for i := range 3 {
			a, b, c := real[t][i], real[t][(i+1)%3], real[t][(i+2)%3]
			u, there := across(real)[[2]int{c, b}]
			if !there || turn(l[a], l[b], l[u[1]]) <= 0 || turn(l[a], l[u[1]], l[c]) <= 0 || !asked(b, c, a, u[1]) {
				continue
			}
			real[t], real[u[0]] = [3]int{a, b, u[1]}, [3]int{a, u[1], c}
			n++
			break
		}
	}
	return n
}

// bad tells whether the edge from b to c, over against which a and over lie, is none of Delaunay's.
func bad(l []api.Pt, b, c, a, over int) bool {
	return circle(l[a], l[b], l[c], l[over]) > 0
}

// settle flips all that is no fault, till it is Delaunay's.
func settle(l []api.Pt, real [][3]int, faults [][2]int) {
	for flip(l, real, func(b, c, a, over int) bool {
		return !slices.Contains(faults, ordered(b, c)) && bad(l, b, c, a, over)
	}) > 0 {
	}
}

// walls are some edges of triangles, one in so many; none, if that is 0.
func walls(d *dice, real [][3]int, oneIn int) [][2]int {
	var out [][2]int
	for _, v := range real {
		for i := range v {
			e := ordered(v[i], v[(i+1)%3])
			if oneIn > 0 && d.below(oneIn) == 0 && !slices.Contains(out, e) {
				out = append(out, e)
			}
		}
	}
	return out
}

// ghosts are those of real triangles: of each edge that only one of them has.
func ghosts(real [][3]int) [][3]int {
	at := across(real)
	var out [][3]int
	for _, v := range real {
		for i := range v {
			a, b := v[i], v[(i+1)%3]
			if _, there := at[[2]int{b, a}]; !there {
				out = append(out, [3]int{b, a, mesh.Ghost})
			}
		}
	}
	return out
}

// assemble is a mesh of these triangles, and their ghosts, in mixed order, with some between that are gone.
func assemble(d *dice, l []api.Pt, real [][3]int, faults [][2]int) *mesh.Mesh {
	m, _ := mesh.New(l, real[0][0], real[0][1], real[0][2])
	for t := range m.Tris {
		m.Drop(t)
	}
	gone := [3]int{mesh.Gone, 0, 0}
	all := append(slices.Concat(real, ghosts(real)), gone, gone, gone)
	shuffle(d, all)
	for i, v := range all {
		m.Make(v[i%3], v[(i+1)%3], v[(i+2)%3])
	}
	for t, v := range all {
		if v == gone {
			m.Drop(t)
		}
	}
	for t, x := range m.Tris {
		for i := range 3 {
			a, b := x.V[(i+1)%3], x.V[(i+2)%3]
			if u, j, ok := m.Find(b, a); ok && t < u {
				m.Link(t, i, u, j, slices.Contains(faults, ordered(a, b)))
			}
		}
	}
	return m
}

// isSame tells it, if an answer isn't the one that is asked.
func isSame[T comparable](t *testing.T, what string, got, want T, of ...any) {
	t.Helper()
	if got != want {
		t.Fatalf("%s %v: got %v, want %v", what, of, got, want)
	}
}

// isList tells it, if a list isn't the one that is asked.
func isList[T comparable](t *testing.T, what string, got, want []T, of ...any) {
	t.Helper()
	if !slices.Equal(got, want) {
		t.Fatalf("%s %v: got %v, want %v", what, of, got, want)
	}
}

// isAsItWas tells it, if a mesh isn't like its copy any more.
func isAsItWas(t *testing.T, what string, m, was *mesh.Mesh) {
	t.Helper()
	if !slices.Equal(m.Pts, was.Pts) || !slices.Equal(m.Tris, was.Tris) {
		t.Fatalf("%s: the mesh was changed: %v, %v", what, m.Pts, m.Tris)
	}
}
