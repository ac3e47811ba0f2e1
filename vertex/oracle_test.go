package vertex_test

import (
	"math/big"
	"slices"

	"hodoscope/api"
)

// The chapter's terms, by math/big: sums of squares are written out as polynomials of X, Y and Z, and their minima are found by determinants.

func at(m api.Matrix, i, j int) *big.Rat {
	return bigRat(m.Cells[i*m.Cols+j])
}

func times(a, b *big.Rat) *big.Rat {
	return new(big.Rat).Mul(a, b)
}

func plus(l ...*big.Rat) *big.Rat {
	sum := new(big.Rat)
	for _, r := range l {
		sum.Add(sum, r)
	}
	return sum
}

func minus(a, b *big.Rat) *big.Rat {
	return new(big.Rat).Sub(a, b)
}

func over(a, b *big.Rat) *big.Rat {
	return new(big.Rat).Quo(a, b)
}

// place is X, Y, Z.
type place [3]*big.Rat

func placeOf(m api.Matrix) place {
	return place{at(m, 0, 0), at(m, 1, 0), at(m, 2, 0)}
}

func (p place) matrix() api.Matrix {
	return laid(3, 1, func(i, j int) *big.Rat { return p[i] })
}

func (p place) dot(q place) *big.Rat {
	return plus(times(p[0], q[0]), times(p[1], q[1]), times(p[2], q[2]))
}

// add returns p plus by times q.
func (p place) add(by *big.Rat, q place) place {
	var sum place
	for i := range sum {
		sum[i] = plus(p[i], times(by, q[i]))
	}
	return sum
}

func (p place) cross(q place) place {
	return place{
		minus(times(p[1], q[2]), times(p[2], q[1])),
		minus(times(p[2], q[0]), times(p[0], q[2])),
		minus(times(p[0], q[1]), times(p[1], q[0])),
	}
}

func (p place) isZero() bool {
	return p[0].Sign() == 0 && p[1].Sign() == 0 && p[2].Sign() == 0
}

// vectors returns D, U and V of a face, as the table of layer 3's chapter writes them.
func vectors(face int) (d, u, v place) {
	row := [6][3]string{{"+X", "+Y", "+Z"}, {"+Y", "-X", "+Z"}, {"-X", "-Y", "+Z"}, {"-Y", "+X", "+Z"}, {"+Z", "+X", "+Y"}, {"-Z", "+Y", "+X"}}[face]
	unit := func(s string) place {
		p := place{ratOf(0), ratOf(0), ratOf(0)}
		p[s[1]-'X'] = rat(s[:1] + "1")
		return p
	}
	return unit(row[0]), unit(row[1]), unit(row[2])
}

// affine is a number that depends on X, Y and Z: each cell but the last one times its coordinate, plus the last one.
type affine [4]*big.Rat

// along returns the number p . (X, Y, Z) plus rest.
func along(p place, rest *big.Rat) affine {
	return affine{p[0], p[1], p[2], rest}
}

func (a affine) of(p place) *big.Rat {
	return plus(p.dot(place{a[0], a[1], a[2]}), a[3])
}

// offs returns X0 and Y0 less what the row of a ray makes of a point.
func offs(r api.Ray) (x, y affine) {
	d, u, v := vectors(r.Face)
	zero := place{ratOf(0), ratOf(0), ratOf(0)}
	off := func(start, slope api.Ratio, side place) affine {
		return along(zero.add(bigRat(slope), d).add(ratOf(-1), side), bigRat(start))
	}
	return off(r.X0, r.X1, u), off(r.Y0, r.Y1, v)
}

// form is a polynomial of X, Y and Z: the sum over i, j of cell (i, j) times coordinate i and j, with 1 as the last one.
type form [4][4]*big.Rat

// add adds by times the product of a and b.
func (f form) add(by *big.Rat, a, b affine) form {
	for i := range f {
		for j := range f {
			f[i][j] = plus(f[i][j], times(by, times(a[i], b[j])))
		}
	}
	return f
}

func formOf(f api.Info) form {
	var q form
	for i := range 3 {
		for j := range 3 {
			q[i][j] = at(f.N, i, j)
		}
		q[i][3] = new(big.Rat).Neg(at(f.R, i, 0))
		q[3][i] = q[i][3]
	}
	q[3][3] = bigRat(f.C)
	return q
}

// weights returns the inverse of a 2 by 2 matrix.
func weights(v api.Matrix) (a, b, c *big.Rat) {
	det := minus(times(at(v, 0, 0), at(v, 1, 1)), times(at(v, 0, 1), at(v, 1, 0)))
	return over(at(v, 1, 1), det), over(new(big.Rat).Neg(at(v, 0, 1)), det), over(at(v, 0, 0), det)
}

// see adds what a ray says.
func (f form) see(r api.Ray) form {
	x, y := offs(r)
	a, b, c := weights(r.V)
	return f.add(a, x, x).add(b, x, y).add(b, y, x).add(c, y, y)
}

// of returns the polynomial's value.
func (f form) of(p place) *big.Rat {
	l := [4]*big.Rat{p[0], p[1], p[2], ratOf(1)}
	sum := new(big.Rat)
	for i := range f {
		for j := range f {
			sum.Add(sum, times(f[i][j], times(l[i], l[j])))
		}
	}
	return sum
}

// grid is 3 by 3 numbers.
type grid [3]place

func gridOf(m api.Matrix) grid {
	var g grid
	for i := range g {
		for j := range g {
			g[i][j] = at(m, i, j)
		}
	}
	return g
}

func (g grid) det() *big.Rat {
	return g[0].dot(g[1].cross(g[2]))
}

// inverse returns the adjugate divided by the determinant; false, if that is 0.
func (g grid) inverse() (grid, bool) {
	det := g.det()
	if det.Sign() == 0 {
		return grid{}, false
	}
	columns := grid{g[1].cross(g[2]), g[2].cross(g[0]), g[0].cross(g[1])}
	var inverse grid
	for i := range inverse {
		for j := range inverse {
			inverse[i][j] = over(columns[j][i], det)
		}
	}
	return inverse, true
}

func (g grid) of(p place) place {
	return place{g[0].dot(p), g[1].dot(p), g[2].dot(p)}
}

func (g grid) matrix() api.Matrix {
	return laid(3, 3, func(i, j int) *big.Rat { return g[i][j] })
}

// estimate returns where the polynomial has its only stationary point, the inverse of its matrix, and its value there.
func (f form) estimate() (api.Vertex, bool) {
	var n grid
	var r place
	for i := range n {
		n[i] = place{f[i][0], f[i][1], f[i][2]}
		r[i] = new(big.Rat).Neg(f[i][3])
	}
	cov, is := n.inverse()
	if !is {
		return api.Vertex{}, false
	}
	p := cov.of(r)
	return api.Vertex{P: p.matrix(), Cov: cov.matrix(), Chi: ofRat(f.of(p))}, true
}

// plainFit fits some rays of a list with a prior.
func plainFit(prior api.Info, l []api.Ray, which []int) (api.Vertex, bool) {
	f := formOf(prior)
	for _, i := range which {
		f = f.see(l[i])
	}
	v, is := f.estimate()
	v.Free = prior.Count + 2*len(which) - 3
	v.Rays = slices.Sorted(slices.Values(which))
	return v, is
}

// indicesOf returns the indices of all rays of a list.
func indicesOf(l []api.Ray) []int {
	var which []int
	for i := range l {
		which = append(which, i)
	}
	return which
}

// trace is what happened in a search.
type trace struct{ vertices, rejected, ties, added int }

// plainFind is the chapter's search, step by step.
func plainFind(prior api.Info, l []api.Ray, limit *big.Rat, least int) (found []api.Vertex, loose []int, did trace) {
	free, rejected := indicesOf(l), map[[2]int]bool{}
	for {
		var begin []int
		var low *big.Rat
		for _, i := range free {
			for _, j := range free {
				v, is := api.Vertex{}, false
				if i < j && !rejected[[2]int{i, j}] {
					v, is = plainFit(prior, l, []int{i, j})
				}
				if !is || bigRat(v.Chi).Cmp(limit) > 0 {
					continue
				}
				if begin != nil && bigRat(v.Chi).Cmp(low) == 0 {
					did.ties++
				}
				if begin == nil || bigRat(v.Chi).Cmp(low) < 0 {
					begin, low = []int{i, j}, bigRat(v.Chi)
				}
			}
		}
		if begin == nil {
			return found, free, did
		}
		set := plainGrow(prior, l, limit, free, begin, &did)
		if len(set) < least {
			rejected[[2]int{begin[0], begin[1]}] = true
			did.rejected++
			continue
		}
		v, _ := plainFit(prior, l, set)
		found = append(found, v)
		did.vertices++
		free = slices.DeleteFunc(free, func(i int) bool { return slices.Contains(set, i) })
	}
}

func plainGrow(prior api.Info, l []api.Ray, limit *big.Rat, free, set []int, did *trace) []int {
	for {
		now, _ := plainFit(prior, l, set)
		next := -1
		var low *big.Rat
		for _, i := range free {
			if slices.Contains(set, i) {
				continue
			}
			v, is := plainFit(prior, l, append(slices.Clone(set), i))
			if is && next >= 0 && bigRat(v.Chi).Cmp(low) == 0 {
				did.ties++
			}
			if is && (next < 0 || bigRat(v.Chi).Cmp(low) < 0) {
				next, low = i, bigRat(v.Chi)
			}
		}
		if next < 0 || low.Cmp(plus(bigRat(now.Chi), limit)) > 0 {
			return set
		}
		set = append(set, next)
		did.added++
	}
}

// plainMerge returns the estimate of two vertices, and its sum of squares.
func plainMerge(a, b api.Vertex) (v api.Vertex, gap api.Ratio) {
	v, _ = formOf(blank()).hold(a).hold(b).estimate()
	gap = v.Chi
	v.Chi = ofRat(plus(bigRat(a.Chi), bigRat(b.Chi), bigRat(gap)))
	v.Free = a.Free + b.Free + 3
	for _, i := range append(slices.Clone(a.Rays), b.Rays...) {
		if !slices.Contains(v.Rays, i) {
			v.Rays = append(v.Rays, i)
		}
	}
	slices.Sort(v.Rays)
	return v, gap
}

// hold adds (p - v.P)' Cov⁻¹ (p - v.P).
func (f form) hold(v api.Vertex) form {
	w, _ := gridOf(v.Cov).inverse()
	var off [3]affine
	for i := range off {
		axis := place{ratOf(0), ratOf(0), ratOf(0)}
		axis[i] = ratOf(1)
		off[i] = along(axis, new(big.Rat).Neg(at(v.P, i, 0)))
	}
	for i := range off {
		for j := range off {
			f = f.add(w[i][j], off[i], off[j])
		}
	}
	return f
}

// direction returns the vector with the depth 1 in a ray's frame.
func direction(r api.Ray) place {
	d, u, v := vectors(r.Face)
	return d.add(bigRat(r.X1), u).add(bigRat(r.Y1), v)
}

func plainMomentum(r api.Ray, k api.Ratio) place {
	zero := place{ratOf(0), ratOf(0), ratOf(0)}
	size := bigRat(k)
	return zero.add(new(big.Rat).Inv(size.Abs(size)), direction(r))
}

// plainPair takes momenta whose sum is not 0.
func plainPair(p, q place) (alpha, square *big.Rat) {
	s := p.add(ratOf(1), q)
	turn := p.cross(q)
	return over(minus(p.dot(s), q.dot(s)), s.dot(s)), over(turn.dot(turn), s.dot(s))
}

// plainDecay goes along the line through p: on it the sum of squares is a polynomial of the time.
func plainDecay(p api.Matrix, a, b api.Ray, ka, kb api.Ratio) (api.Decay, bool) {
	pa, pb := plainMomentum(a, ka), plainMomentum(b, kb)
	s := pa.add(ratOf(1), pb)
	f := formOf(blank()).see(a).see(b)
	on := func(time int) *big.Rat { return f.of(placeOf(p).add(ratOf(time), s)) }
	// The values at -1, 0 and 1 tell the polynomial.
	before, here, behind := on(-1), on(0), on(1)
	twice := minus(plus(before, behind), plus(here, here))
	if twice.Sign() == 0 {
		return api.Decay{}, false
	}
	time := over(over(minus(before, behind), ratOf(2)), twice)
	v := placeOf(p).add(time, s)
	alpha, square := plainPair(pa, pb)
	return api.Decay{P: v.matrix(), Sum: s.matrix(), Chi: ofRat(f.of(v)), Time: ofRat(time), Alpha: ofRat(alpha), Square: ofRat(square)}, true
}

// plainReach is f of an ellipse.
func plainReach(alpha, square api.Ratio, c api.Ellipse) *big.Rat {
	x := over(minus(bigRat(alpha), bigRat(c.Centre)), bigRat(c.Width))
	y := bigRat(c.Height)
	return plus(times(x, x), over(bigRat(square), times(y, y)))
}

func plainKind(alpha, square api.Ratio, l []api.Ellipse) (int, *big.Rat) {
	best, reach := -1, new(big.Rat)
	off := func(f *big.Rat) *big.Rat {
		d := minus(f, ratOf(1))
		return d.Abs(d)
	}
	for i, c := range l {
		f := plainReach(alpha, square, c)
		if best < 0 || off(f).Cmp(off(reach)) < 0 {
			best, reach = i, f
		}
	}
	return best, reach
}
