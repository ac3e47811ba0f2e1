package track_test

import (
	"math/big"

	"hodoscope/api"
)

// Plain algebra of matrices, and the chapter's terms, by math/big.

func at(m api.Matrix, i, j int) *big.Rat {
	return bigRat(m.Cells[i*m.Cols+j])
}

func plus(a, b api.Matrix) api.Matrix {
	return laid(a.Rows, a.Cols, func(i, j int) *big.Rat { return new(big.Rat).Add(at(a, i, j), at(b, i, j)) })
}

func times(a, b api.Matrix) api.Matrix {
	return laid(a.Rows, b.Cols, func(i, j int) *big.Rat {
		sum := new(big.Rat)
		for k := range a.Cols {
			sum.Add(sum, new(big.Rat).Mul(at(a, i, k), at(b, k, j)))
		}
		return sum
	})
}

func turned(m api.Matrix) api.Matrix {
	return laid(m.Cols, m.Rows, func(i, j int) *big.Rat { return at(m, j, i) })
}

// around returns m cov m'.
func around(m, cov api.Matrix) api.Matrix {
	return times(times(m, cov), turned(m))
}

// affine is a number that depends on variables: each cell but the last one times its variable, plus the last one.
type affine []*big.Rat

func constant(n int) affine {
	a := make(affine, n+1)
	for i := range a {
		a[i] = new(big.Rat)
	}
	return a
}

func variable(n, i int) affine {
	a := constant(n)
	a[i].SetInt64(1)
	return a
}

// add returns a plus by times b.
func (a affine) add(by *big.Rat, b affine) affine {
	c := make(affine, len(a))
	for i := range a {
		c[i] = new(big.Rat).Add(a[i], new(big.Rat).Mul(by, b[i]))
	}
	return c
}

func (a affine) scale(by *big.Rat) affine {
	return constant(len(a)-1).add(by, a)
}

// course is the parameters of a track, x0, x1, k, y0, y1.
type course [5]affine

func (c course) x(s api.Site) affine {
	return c[0].add(ratOf(s.Depth), c[1]).add(ratOf(s.Bend), c[2])
}

func (c course) y(s api.Site) affine {
	return c[3].add(ratOf(s.Depth), c[4])
}

// slope is that in x.
func (c course) slope(s api.Site) affine {
	return c[1].add(ratOf(s.Turn), c[2])
}

// through returns the course that has at s this position, these slopes, and this k.
func through(s api.Site, x, slope, k, y, y1 affine) course {
	depth := ratOf(-s.Depth)
	x1 := slope.add(ratOf(-s.Turn), k)
	return course{x.add(depth, x1).add(ratOf(-s.Bend), k), x1, k, y.add(depth, y1), y1}
}

func growth(s api.Site) *big.Rat {
	return big.NewRat(int64(1000+s.Loss), 1000)
}

// behind returns the course behind a site: its position goes on, its slopes do but for the kicks, and k grows.
func (c course) behind(s api.Site, kickX, kickY affine) course {
	one := ratOf(1)
	return through(s, c.x(s), c.slope(s).add(one, kickX), c[2].scale(growth(s)), c.y(s), c[4].add(one, kickY))
}

// before returns the course before a site, of that behind it.
func (c course) before(s api.Site, kickX, kickY affine) course {
	back := ratOf(-1)
	return through(s, c.x(s), c.slope(s).add(back, kickX), c[2].scale(new(big.Rat).Inv(growth(s))), c.y(s), c[4].add(back, kickY))
}

// squares is a sum of squares of affine numbers: the sum over i, j of cell (i, j) times variable i and j, with 1 as the last variable.
type squares [][]*big.Rat

func noSquares(n int) squares {
	q := make(squares, n+1)
	for i := range q {
		q[i] = constant(n)
	}
	return q
}

func (q squares) add(a affine, variance int) {
	for i := range q {
		for j := range q {
			term := new(big.Rat).Mul(a[i], a[j])
			q[i][j].Add(q[i][j], term.Quo(term, ratOf(variance)))
		}
	}
}

// least replaces variable i by where the sum is least; false, if there is no such place, or not just one.
func (q squares) least(i int) bool {
	if q[i][i].Sign() <= 0 {
		return false
	}
	own := make(affine, len(q))
	for j := range q {
		own[j] = new(big.Rat).Set(q[i][j])
	}
	for j := range q {
		for k := range q {
			term := new(big.Rat).Mul(own[j], own[k])
			q[j][k].Sub(q[j][k], term.Quo(term, own[i]))
		}
	}
	return true
}

// seen is the sum of squares of a list, of the five parameters before site i, then two kicks for each site but the last one.
type seen struct {
	squares
	sites   []api.Site
	courses []course
	kicks   []affine
}

// view follows the track from site i in both directions. Of the hits only those that count are taken.
func view(l []api.Site, i int, counts func(j int) bool) seen {
	n := 5 + 2*(len(l)-1)
	v := seen{squares: noSquares(n), sites: l, courses: make([]course, len(l))}
	for j := range len(l) - 1 {
		for k := range 2 {
			kick := constant(n)
			if l[j].Kick > 0 {
				kick = variable(n, 5+2*j+k)
				v.add(kick, l[j].Kick)
			}
			v.kicks = append(v.kicks, kick)
		}
	}
	for k := range 5 {
		v.courses[i][k] = variable(n, k)
	}
	for j := i; j+1 < len(l); j++ {
		v.courses[j+1] = v.courses[j].behind(l[j], v.kicks[2*j], v.kicks[2*j+1])
	}
	for j := i; j > 0; j-- {
		v.courses[j-1] = v.courses[j].before(l[j-1], v.kicks[2*j-2], v.kicks[2*j-1])
	}
	for j, s := range l {
		if s.Hit && counts(j) {
			v.add(v.courses[j].x(s).add(ratOf(-s.X), variable(n, n)), s.VX)
			v.add(v.courses[j].y(s).add(ratOf(-s.Y), variable(n, n)), s.VY)
		}
	}
	return v
}

// leastKicks replaces all kicks by where the sum is least.
func (v seen) leastKicks() seen {
	for j := range len(v.sites) - 1 {
		for k := range 2 {
			if v.sites[j].Kick > 0 && !v.least(5+2*j+k) {
				panic("a kick is free")
			}
		}
	}
	return v
}

func hitsOf(l []api.Site, counts func(j int) bool) int {
	n := 0
	for j, s := range l {
		if s.Hit && counts(j) {
			n++
		}
	}
	return n
}

// plainInfo is what the hits that count say of the parameters before site i.
func plainInfo(l []api.Site, i int, counts func(j int) bool) api.Info {
	v := view(l, i, counts).leastKicks()
	last := len(v.squares) - 1
	return api.Info{
		N:     laid(5, 5, func(i, j int) *big.Rat { return v.squares[i][j] }),
		R:     laid(5, 1, func(i, j int) *big.Rat { return new(big.Rat).Neg(v.squares[i][last]) }),
		C:     ofRat(v.squares[last][last]),
		Count: 2 * hitsOf(l, counts),
	}
}

func always(int) bool { return true }

// plainTrack is the track before site i for which the sum of squares is least; false, if there is not just one.
func plainTrack(l []api.Site, i int) (api.Track, bool) {
	f := plainInfo(l, i, always)
	t, is := plainEstimate(f)
	t.Free = f.Count - 5
	return t, is
}

// plainEstimate is Estimate of a positive definite information.
func plainEstimate(f api.Info) (api.Track, bool) {
	cov, is := inverted(f.N)
	if !is {
		return api.Track{}, false
	}
	p := times(cov, f.R)
	chi := new(big.Rat).Sub(bigRat(f.C), at(times(turned(p), f.R), 0, 0))
	return api.Track{P: p, Cov: cov, Chi: ofRat(chi)}, true
}

// inverted returns the inverse of a positive semidefinite matrix; false, if it has none.
func inverted(m api.Matrix) (api.Matrix, bool) {
	n := m.Rows
	rows := make([]affine, n)
	for i := range rows {
		rows[i] = constant(2*n - 1)
		for j := range n {
			rows[i][j].Set(at(m, i, j))
		}
		rows[i][n+i].SetInt64(1)
	}
	for i := range rows {
		if rows[i][i].Sign() == 0 {
			return api.Matrix{}, false
		}
		rows[i] = rows[i].scale(new(big.Rat).Inv(rows[i][i]))
		for j := range rows {
			if j != i {
				rows[j] = rows[j].add(new(big.Rat).Neg(rows[j][i]), rows[i])
			}
		}
	}
	return laid(n, n, func(i, j int) *big.Rat { return rows[i][n+j] }), true
}

func plainSmooth(l []api.Site) ([]api.Track, bool) {
	var tracks []api.Track
	for i := range l {
		t, is := plainTrack(l, i)
		if !is {
			return nil, false
		}
		tracks = append(tracks, t)
	}
	return tracks, len(l) > 0
}

// plainKinks are the kicks of the solution for all variables at once, of a list that is determined.
func plainKinks(l []api.Site) []api.Ratio {
	v := view(l, 0, always)
	var at []int
	for i := range 5 {
		at = append(at, i)
	}
	for j := range len(l) - 1 {
		if l[j].Kick > 0 {
			at = append(at, 5+2*j, 6+2*j)
		}
	}
	last := len(v.squares) - 1
	f := api.Info{
		N: laid(len(at), len(at), func(i, j int) *big.Rat { return v.squares[at[i]][at[j]] }),
		R: laid(len(at), 1, func(i, j int) *big.Rat { return new(big.Rat).Neg(v.squares[at[i]][last]) }),
		C: ofRat(v.squares[last][last]),
	}
	t, _ := plainEstimate(f)
	kicks := make([]api.Ratio, 2*(len(l)-1))
	for i := range kicks {
		kicks[i] = ratio("0")
	}
	for i, variable := range at {
		if variable >= 5 {
			kicks[variable-5] = t.P.Cells[i]
		}
	}
	return kicks
}

// plainGain is the difference of two fits; false, if one of them is not determined.
func plainGain(l []api.Site, i int) (*big.Rat, bool) {
	a, is := plainTrack(l, 0)
	b, isToo := plainTrack(without(l, i), 0)
	if !is || !isToo {
		return nil, false
	}
	return new(big.Rat).Sub(bigRat(a.Chi), bigRat(b.Chi)), true
}

func plainReject(l []api.Site, limit *big.Rat, least int) (out []int) {
	for hitsOf(l, always) > max(least, 0) {
		worst := -1
		var most *big.Rat
		for i, s := range l {
			if !s.Hit {
				continue
			}
			gain, is := plainGain(l, i)
			if is && (worst < 0 || gain.Cmp(most) > 0) {
				worst, most = i, gain
			}
		}
		if worst < 0 || most.Cmp(limit) <= 0 {
			return out
		}
		l = without(l, worst)
		out = append(out, worst)
	}
	return out
}

// plainFollow returns the positions of a track with these parameters and kicks.
func plainFollow(l []api.Site, p api.Matrix, kicks []api.Ratio) []api.Ratio {
	number := func(r api.Ratio) affine { return affine{bigRat(r)} }
	var c course
	for i := range c {
		c[i] = number(p.Cells[i])
	}
	var positions []api.Ratio
	for i, s := range l {
		positions = append(positions, ofRat(c.x(s)[0]), ofRat(c.y(s)[0]))
		if i+1 < len(l) {
			c = c.behind(s, number(kicks[2*i]), number(kicks[2*i+1]))
		}
	}
	return positions
}

// plainSum is the sum of squares; where Kick is 0, kicks add nothing.
func plainSum(l []api.Site, p api.Matrix, kicks []api.Ratio) api.Ratio {
	sum := new(big.Rat)
	add := func(r *big.Rat, variance int) {
		term := new(big.Rat).Mul(r, r)
		sum.Add(sum, term.Quo(term, ratOf(variance)))
	}
	positions := plainFollow(l, p, kicks)
	for i, s := range l {
		if s.Hit {
			add(new(big.Rat).Sub(ratOf(s.X), bigRat(positions[2*i])), s.VX)
			add(new(big.Rat).Sub(ratOf(s.Y), bigRat(positions[2*i+1])), s.VY)
		}
		if i+1 < len(l) && s.Kick > 0 {
			add(bigRat(kicks[2*i]), s.Kick)
			add(bigRat(kicks[2*i+1]), s.Kick)
		}
	}
	return ofRat(sum)
}

// plainRow, plainT and plainQ are written from the chapter's Terms.
func plainRow(s api.Site) api.Matrix {
	m := laid(2, 5, func(i, j int) *big.Rat { return new(big.Rat) })
	for k, r := range []*big.Rat{ratOf(1), ratOf(s.Depth), ratOf(s.Bend)} {
		m.Cells[k] = ofRat(r)
	}
	m.Cells[8], m.Cells[9] = ofRat(ratOf(1)), ofRat(ratOf(s.Depth))
	return m
}

func plainT(s api.Site) api.Matrix {
	m := diagonal(5, "1")
	less := new(big.Rat).Sub(ratOf(1), growth(s))
	lever := new(big.Rat).Sub(ratOf(s.Bend), new(big.Rat).Mul(ratOf(s.Turn), ratOf(s.Depth)))
	m.Cells[2] = ofRat(lever.Mul(lever, less))
	m.Cells[7] = ofRat(new(big.Rat).Mul(less, ratOf(s.Turn)))
	m.Cells[12] = ofRat(growth(s))
	return m
}

func plainQ(s api.Site) api.Matrix {
	block := []*big.Rat{ratOf(s.Depth * s.Depth), ratOf(-s.Depth), ratOf(-s.Depth), ratOf(1)}
	return laid(5, 5, func(i, j int) *big.Rat {
		for _, corner := range []int{0, 3} {
			a, b := i-corner, j-corner
			if a >= 0 && a < 2 && b >= 0 && b < 2 {
				return new(big.Rat).Mul(ratOf(s.Kick), block[2*a+b])
			}
		}
		return new(big.Rat)
	})
}
