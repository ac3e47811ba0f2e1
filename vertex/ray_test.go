package vertex_test

import (
	"math"
	"math/big"
	"testing"

	"hodoscope/api"
	"hodoscope/track"
	"hodoscope/vertex"
)

// goodCovariances are 2 by 2.
func goodCovariances() map[string]api.Matrix {
	return map[string]api.Matrix{
		"identity":        diagonal("1 1"),
		"small":           diagonal("1/1000000000000000000000000000000 1/7"),
		"great":           diagonal("1000000000000000000000000000000 3"),
		"correlated":      matrix("2 1, 1 2"),
		"anti-correlated": matrix("2 -7/5, -7/5 1"),
		"just definite":   matrix("1 1, 1 1000000000001/1000000000000"),
	}
}

// badCovariances are no 2 by 2 covariances.
func badCovariances() map[string]api.Matrix {
	return map[string]api.Matrix{
		"nothing":               {},
		"1 by 1":                diagonal("1"),
		"3 by 3":                diagonal("1 1 1"),
		"2 by 1":                column("1 1"),
		"1 by 2":                matrix("1 1"),
		"2 by 3":                matrix("1 0 0, 0 1 0"),
		"4 by 4":                diagonal("1 1 1 1"),
		"a cell too few":        {Rows: 2, Cols: 2, Cells: ratios("1 0 0")},
		"a cell too many":       {Rows: 2, Cols: 2, Cells: ratios("1 0 0 1 0")},
		"no cells":              {Rows: 2, Cols: 2},
		"negative sizes":        {Rows: -2, Cols: -2, Cells: ratios("1 0 0 1")},
		"great sizes":           {Rows: math.MaxInt, Cols: math.MaxInt},
		"not symmetric":         matrix("2 1, 0 2"),
		"nearly symmetric":      matrix("2 1, 1000000000001/1000000000000 2"),
		"semidefinite":          matrix("1 1, 1 1"),
		"zero":                  diagonal("0 0"),
		"a zero":                diagonal("1 0"),
		"a zero at first":       diagonal("0 1"),
		"indefinite":            matrix("1 2, 2 1"),
		"just indefinite":       matrix("1 1, 1 999999999999/1000000000000"),
		"negative":              diagonal("-1 -1"),
		"a negative one":        diagonal("1 -1"),
		"a negative at first":   diagonal("-1 1"),
		"zeros on its diagonal": matrix("0 1, 1 0"),
	}
}

// badRays are rays that are not valid.
func badRays() map[string]api.Ray {
	l := map[string]api.Ray{}
	for _, face := range []int{-1, 6, 7, math.MinInt, math.MaxInt} {
		l["face "+ratOf(face).RatString()] = ray(face, "1 2 3 4")
	}
	for name, v := range badCovariances() {
		r := ray(2, "1 2 3 4")
		r.V = v
		l["V "+name] = r
		r.V = looseMatrix(v)
		l["V "+name+", loose"] = r
	}
	return l
}

func TestCheckRay(t *testing.T) {
	for face := range 6 {
		for name, v := range goodCovariances() {
			r := ray(face, "1 -2/3 0 1000000000000000000000000000000000")
			r.V = v
			wantOK(t, vertex.CheckRay(r), face, name)
			wantOK(t, vertex.CheckRay(looseRay(r)), face, name, "loose")
		}
	}
	zero := api.Ray{V: diagonal("1 1")}
	wantOK(t, vertex.CheckRay(zero), "zeros")
	for name, r := range badRays() {
		wantError(t, api.ErrArg, vertex.CheckRay(r), nil, name)
	}
	wantError(t, api.ErrArg, vertex.CheckRay(api.Ray{}), nil, "nothing")
}

// badPoints are no 3 by 1 matrices, or not valid.
func badPoints() map[string]api.Matrix {
	return map[string]api.Matrix{
		"nothing":         {},
		"2 by 1":          column("1 2"),
		"4 by 1":          column("1 2 3 4"),
		"1 by 3":          matrix("1 2 3"),
		"3 by 3":          diagonal("1 1 1"),
		"3 by 0":          {Rows: 3},
		"3 by 2":          matrix("1 0, 2 0, 3 0"),
		"a cell too few":  {Rows: 3, Cols: 1, Cells: ratios("1 2")},
		"a cell too many": {Rows: 3, Cols: 1, Cells: ratios("1 2 3 4")},
		"no cells":        {Rows: 3, Cols: 1},
		"negative sizes":  {Rows: -3, Cols: -1, Cells: ratios("1 2 3")},
	}
}

// badVertices are vertices that are not valid.
func badVertices() map[string]api.Vertex {
	l := map[string]api.Vertex{}
	for name, p := range badPoints() {
		v := some()
		v.P = p
		l["P "+name] = v
	}
	for name, cov := range map[string]api.Matrix{
		"nothing":         {},
		"2 by 2":          diagonal("1 1"),
		"4 by 4":          diagonal("1 1 1 1"),
		"3 by 1":          column("1 1 1"),
		"3 by 2":          matrix("1 0, 0 1, 0 0"),
		"a cell too few":  {Rows: 3, Cols: 3, Cells: ratios("1 0 0 0 1 0 0 0")},
		"a cell too many": {Rows: 3, Cols: 3, Cells: ratios("1 0 0 0 1 0 0 0 1 0")},
		"not symmetric":   matrix("2 0 1, 0 2 0, 0 0 2"),
		"semidefinite":    matrix("2 1 0, 1 1/2 0, 0 0 1"),
		"a zero":          diagonal("1 1 0"),
		"zero":            diagonal("0 0 0"),
		"indefinite":      matrix("1 0 2, 0 1 0, 2 0 1"),
		"a negative one":  diagonal("1 1 -1"),
	} {
		v := some()
		v.Cov = cov
		l["Cov "+name] = v
		v.Cov = looseMatrix(cov)
		l["Cov "+name+", loose"] = v
	}
	return l
}

func TestCheckVertex(t *testing.T) {
	for _, v := range []api.Vertex{some(), looseVertex(some()), {P: column("0 0 0"), Cov: diagonal("1 1 1")}} {
		wantOK(t, vertex.CheckVertex(v), v)
	}
	odd := some()
	odd.Chi, odd.Free, odd.Rays = ratio("-7"), math.MinInt, []int{math.MaxInt, -1, -1, 99}
	wantOK(t, vertex.CheckVertex(odd), odd)
	for name, v := range badVertices() {
		wantError(t, api.ErrArg, vertex.CheckVertex(v), nil, name)
	}
}

// fitted returns a track that is valid, with a covariance whose cells are all different.
func fitted() api.Track {
	return api.Track{
		P:    column("1/2 2 -3 4/3 -5"),
		Cov:  matrix("20 1 2 3 4, 1 21 5 6 7, 2 5 22 8 9, 3 6 8 23 10, 4 7 9 10 24"),
		Chi:  ratio("7/2"),
		Free: 9,
	}
}

func TestFromTrack(t *testing.T) {
	x := fitted()
	wantOK(t, track.CheckTrack(x))
	away := api.Track{P: looseMatrix(x.P), Cov: looseMatrix(x.Cov), Chi: looseRatio(x.Chi), Free: x.Free}
	for face := range 6 {
		want := api.Ray{Face: face, X0: ratio("1/2"), X1: ratio("2"), Y0: ratio("4/3"), Y1: ratio("-5"), V: matrix("20 3, 3 23")}
		for _, given := range []api.Track{x, away} {
			got, e := vertex.FromTrack(face, given)
			wantOK(t, e, face)
			wantRay(t, got, want, face)
			wantOK(t, vertex.CheckRay(got), face)
		}
	}
	for _, face := range []int{-1, 6, math.MinInt, math.MaxInt} {
		got, e := vertex.FromTrack(face, x)
		wantError(t, api.ErrArg, e, all(got), face)
	}
	for name, change := range map[string]func(x *api.Track){
		"P":             func(x *api.Track) { x.P = column("1 2 3 4") },
		"P in a row":    func(x *api.Track) { x.P = matrix("1 2 3 4 5") },
		"Cov":           func(x *api.Track) { x.Cov = diagonal("1 1 1 1") },
		"not symmetric": func(x *api.Track) { x.Cov.Cells[1] = ratio("0") },
		"semidefinite":  func(x *api.Track) { x.Cov = diagonal("1 1 0 1 1") },
		"nothing":       func(x *api.Track) { *x = api.Track{} },
	} {
		bad := fitted()
		change(&bad)
		got, e := vertex.FromTrack(2, bad)
		wantError(t, api.ErrArg, e, all(got), name)
	}
}

// plainRow reads the row off the offs of a ray.
func plainRow(r api.Ray) (h, y api.Matrix) {
	a, b := offs(r)
	h = laid(2, 3, func(i, j int) *big.Rat { return new(big.Rat).Neg([]affine{a, b}[i][j]) })
	return h, api.Matrix{Rows: 2, Cols: 1, Cells: []api.Ratio{ofRat(a[3]), ofRat(b[3])}}
}

func plainDistance(r api.Ray, p api.Matrix) (off api.Matrix, chi api.Ratio) {
	x, y := offs(r)
	a, b, c := weights(r.V)
	dx, dy := x.of(placeOf(p)), y.of(placeOf(p))
	mixed := times(b, times(dx, dy))
	return api.Matrix{Rows: 2, Cols: 1, Cells: []api.Ratio{ofRat(dx), ofRat(dy)}},
		ofRat(plus(times(a, times(dx, dx)), mixed, mixed, times(c, times(dy, dy))))
}

// wantRow holds Row and Distance of a ray against the chapter's terms.
func wantRow(t *testing.T, r api.Ray, p api.Matrix) {
	t.Helper()
	wantH, wantY := plainRow(r)
	wantOff, wantChi := plainDistance(r, p)
	for _, given := range []api.Ray{r, looseRay(r)} {
		h, y, e := vertex.Row(given)
		wantOK(t, e, r)
		wantMatrix(t, h, wantH, r, "h")
		wantMatrix(t, y, wantY, r, "y")
		for _, at := range []api.Matrix{p, looseMatrix(p)} {
			off, chi, e := vertex.Distance(given, at)
			wantOK(t, e, r, p)
			wantMatrix(t, off, wantOff, r, p)
			wantRatio(t, chi, wantChi, r, p)
		}
	}
}

func TestRow(t *testing.T) {
	s := newSource()
	for range 60 {
		wantRow(t, s.ray(), s.point())
	}
	for face := range 6 {
		wantRow(t, ray(face, "2 3 5 7"), column("1 10 100"))
		wantRow(t, ray(face, "0 0 0 0"), column("0 0 0"))
		for name, v := range goodCovariances() {
			r := ray(face, "1/3 100000000000000000000000000000 -1 1/100000000000000000000000000000")
			r.V = v
			wantRow(t, r, s.point())
			if t.Failed() {
				t.Fatal(face, name)
			}
		}
	}
	// The rows of all faces, written out.
	for face, want := range []string{"-3 1 0, -7 0 1", "-1 -3 0, 0 -7 1", "3 -1 0, 7 0 1", "1 3 0, 0 7 1", "1 0 -3, 0 1 -7", "0 1 3, 1 0 7"} {
		h, y, e := vertex.Row(ray(face, "2 3 5 7"))
		wantOK(t, e, face)
		wantMatrix(t, h, matrix(want), face)
		wantMatrix(t, y, column("2 5"), face)
	}
}

func TestRowErrors(t *testing.T) {
	for name, r := range badRays() {
		h, y, e := vertex.Row(r)
		wantError(t, api.ErrArg, e, all(h, y), name)
		off, chi, e := vertex.Distance(r, column("1 2 3"))
		wantError(t, api.ErrArg, e, all(off, chi), name)
		off, chi, e = vertex.Distance(r, column("1 2"))
		wantError(t, api.ErrArg, e, all(off, chi), name, "and no point")
	}
	for name, p := range badPoints() {
		off, chi, e := vertex.Distance(ray(5, "1 2 3 4"), p)
		wantError(t, api.ErrShape, e, all(off, chi), name)
	}
}

// TestOnRay has points that lie on a ray, at its depths.
func TestOnRay(t *testing.T) {
	s := newSource()
	for range 30 {
		r := s.ray()
		_, u, v := vectors(r.Face)
		start := place{ratOf(0), ratOf(0), ratOf(0)}.add(bigRat(r.X0), u).add(bigRat(r.Y0), v)
		p := start.add(bigRat(s.number()), direction(r)).matrix()
		off, chi, e := vertex.Distance(r, p)
		wantOK(t, e)
		wantMatrix(t, off, column("0 0"), r, p)
		wantRatio(t, chi, ratio("0"), r, p)
		h, y, e := vertex.Row(r)
		wantOK(t, e)
		wantMatrix(t, laid(2, 1, func(i, j int) *big.Rat {
			return placeOf(p).dot(place{at(h, i, 0), at(h, i, 1), at(h, i, 2)})
		}), y, r, p)
	}
}

// plainBeam is the information of what was measured of the axes, independently.
func plainBeam(place, variance [3]int) api.Info {
	f := api.Info{}
	weight := func(i int) *big.Rat {
		if variance[i] == 0 {
			return new(big.Rat)
		}
		return over(ratOf(1), ratOf(variance[i]))
	}
	c := new(big.Rat)
	for i := range 3 {
		c = plus(c, times(weight(i), times(ratOf(place[i]), ratOf(place[i]))))
		if variance[i] != 0 {
			f.Count++
		}
	}
	f.N = laid(3, 3, func(i, j int) *big.Rat {
		if i != j {
			return new(big.Rat)
		}
		return weight(i)
	})
	f.R = laid(3, 1, func(i, j int) *big.Rat { return times(weight(i), ratOf(place[i])) })
	f.C = ofRat(c)
	return f
}

func TestBeam(t *testing.T) {
	wantInfo(t, beam(t, [3]int{5, -6, 7}, [3]int{2, 3, 4}), known("1/2 0 0, 0 1/3 0, 0 0 1/4", "5/2 -2 7/4", "147/4", 3))
	wantInfo(t, beam(t, [3]int{5, -6, 7}, [3]int{0, 3, 0}), known("0 0 0, 0 1/3 0, 0 0 0", "0 -2 0", "12", 1))
	wantInfo(t, beam(t, [3]int{5, -6, 7}, [3]int{}), blank())
	s := newSource()
	for range 50 {
		var place, variance [3]int
		for i := range 3 {
			place[i], variance[i] = s.between(9), s.Intn(4)
			if s.Intn(5) == 0 {
				place[i] = extremes()[s.Intn(len(extremes()))]
			}
			if s.Intn(5) == 0 {
				variance[i] = math.MaxInt - s.Intn(2)
			}
		}
		wantInfo(t, beam(t, place, variance), plainBeam(place, variance), place, variance)
	}
	for axis := range 3 {
		for _, n := range []int{-1, -2, math.MinInt} {
			for _, others := range []int{0, 1, math.MaxInt} {
				variance := [3]int{others, others, others}
				variance[axis] = n
				got, e := vertex.Beam([3]int{1, 2, 3}, variance)
				wantError(t, api.ErrArg, e, all(got), variance)
			}
		}
	}
}
