package vertex_test

import (
	"math"
	"math/big"
	"slices"
	"testing"

	"hodoscope/api"
	"hodoscope/vertex"
)

// badPriors are informations that are not valid, or not about three parameters.
func badPriors() map[string]api.Info {
	return map[string]api.Info{
		"nothing":         {},
		"no parameters":   {R: api.Matrix{Cols: 1}},
		"two parameters":  {N: diagonal("1 1"), R: column("1 1")},
		"four parameters": {N: diagonal("1 1 1 1"), R: column("1 1 1 1")},
		"not symmetric":   known("1 0 1, 0 1 0, 0 0 1", "1 2 3", "4", 3),
		"N is no square":  known("1 0, 0 1, 0 0", "1 2 3", "4", 3),
		"N lacks a cell":  {N: api.Matrix{Rows: 3, Cols: 3, Cells: ratios("1 0 0 0 1 0 0 0")}, R: column("1 2 3")},
		"R of two":        known("1 0 0, 0 1 0, 0 0 1", "1 2", "4", 3),
		"R of four":       known("1 0 0, 0 1 0, 0 0 1", "1 2 3 4", "4", 3),
		"R in a row":      {N: diagonal("1 1 1"), R: matrix("1 2 3")},
		"R lacks a cell":  {N: diagonal("1 1 1"), R: api.Matrix{Rows: 3, Cols: 1, Cells: ratios("1 2")}},
		"no R":            {N: diagonal("1 1 1")},
	}
}

// wantFit holds Fit against the minimum of the sum of squares.
func wantFit(t *testing.T, prior api.Info, l []api.Ray, of ...any) {
	t.Helper()
	want, is := plainFit(prior, l, indicesOf(l))
	for i, given := range [][]api.Ray{l, looseRays(l)} {
		f := prior
		if i > 0 {
			f = looseInfo(prior)
		}
		got, e := vertex.Fit(f, given)
		if !is {
			wantError(t, api.ErrSingular, e, all(got), of...)
			continue
		}
		wantOK(t, e, of...)
		wantVertex(t, got, want, of...)
	}
}

func TestFit(t *testing.T) {
	s := newSource()
	for i := range 80 {
		prior := blank()
		if i%2 == 0 {
			prior = s.prior(t)
		}
		wantFit(t, prior, s.rays(s.Intn(6)), i)
	}
	for face := range 6 {
		l := []api.Ray{ray(face, "1 2 3 4"), ray(5-face, "-1 3 1/2 0"), wide(ray((face+2)%6, "0 1/3 7 -1"), "2 1, 1 3")}
		wantFit(t, blank(), l, face)
		wantFit(t, beam(t, [3]int{1, 2, 3}, [3]int{4, 0, 5}), l, face)
	}
}

// TestDetermined has rays that are just enough, and just not.
func TestDetermined(t *testing.T) {
	a, b, c := ray(0, "0 1 0 0"), ray(0, "2 -1 0 0"), ray(0, "1 1 5 0")
	// The same direction as that of a, (1, 1, 0), in other frames.
	side, below := ray(1, "3 -1 4 0"), ray(2, "1 1 7 0")
	nothing, depth, along, two, full := [3]int{}, [3]int{1, 0, 0}, [3]int{0, 1, 0}, [3]int{1, 1, 0}, [3]int{1, 2, 3}
	for _, x := range []struct {
		name     string
		variance [3]int
		l        []api.Ray
		is       bool
	}{
		{"nothing", nothing, nil, false},
		{"two numbers", two, nil, false},
		{"three numbers", full, nil, true},
		{"one ray", nothing, []api.Ray{a}, false},
		{"one ray and its depth", depth, []api.Ray{a}, true},
		{"one ray and its other axis", along, []api.Ray{a}, true},
		{"one ray and what it says, too", [3]int{0, 0, 1}, []api.Ray{a}, false},
		{"two rays", nothing, []api.Ray{a, b}, true},
		{"a ray twice", nothing, []api.Ray{a, a}, false},
		{"a ray twice and a number", depth, []api.Ray{a, a}, true},
		{"parallel rays", nothing, []api.Ray{a, c}, false},
		{"parallel rays and a number", along, []api.Ray{a, c}, true},
		{"parallel rays of other faces", nothing, []api.Ray{a, side, below, c}, false},
		{"parallel rays and one that is not", nothing, []api.Ray{a, side, below, c, b}, true},
		{"parallel rays and the number beside them", [3]int{0, 0, 3}, []api.Ray{a, side, below, c}, false},
	} {
		prior := beam(t, [3]int{7, -8, 9}, x.variance)
		if _, is := plainFit(prior, x.l, indicesOf(x.l)); is != x.is {
			t.Fatal(x.name, is)
		}
		wantFit(t, prior, x.l, x.name)
	}
	// A difference of direction of any size is enough.
	wantFit(t, blank(), []api.Ray{a, ray(0, "1 1000000000000000000000000000001/1000000000000000000000000000000 5 0")}, "nearly parallel")
}

// TestFitPriors has priors that no measurement gives: the fit is the estimate, if there is one.
func TestFitPriors(t *testing.T) {
	l := []api.Ray{ray(0, "0 1 0 0"), ray(3, "2 -1 1 5")}
	for name, prior := range map[string]api.Info{
		"indefinite":       known("1 2 0, 2 1 0, 0 0 -3", "1 2 3", "-4", -7),
		"negative":         known("-1 0 0, 0 -1 0, 0 0 -1", "1 2 3", "0", 0),
		"full":             known("2 1 0, 1 2 1, 0 1 2", "1 1/2 3", "9/2", 3),
		"only R and C":     known("0 0 0, 0 0 0, 0 0 0", "1 2 3", "9/7", 1),
		"takes a ray away": known("-1 1 0, 1 -1 0, 0 0 -1", "0 0 0", "0", -2),
	} {
		for n := range 3 {
			wantFit(t, prior, l[:n], name, n)
		}
	}
	for _, count := range extremes() {
		prior := beam(t, [3]int{1, 2, 3}, [3]int{4, 5, 6})
		prior.Count = count
		for n := range 3 {
			wantFit(t, prior, l[:n], "Count", count, n)
		}
	}
}

func TestManyRays(t *testing.T) {
	s := newSource()
	l := s.rays(api.MaxRays)
	wantFit(t, blank(), l, "32")
	wantFit(t, s.prior(t), slices.Repeat(l[:1], api.MaxRays), "the same 32 times")
	wantFit(t, beam(t, [3]int{1, 2, 3}, [3]int{4, 5, 6}), slices.Repeat(l[:2], api.MaxRays/2), "two 16 times")
}

// listCalls are Fit and Find.
func listCalls() map[string]func(prior api.Info, l []api.Ray) ([]any, api.Errno) {
	return map[string]func(prior api.Info, l []api.Ray) ([]any, api.Errno){
		"Fit": func(prior api.Info, l []api.Ray) ([]any, api.Errno) { v, e := vertex.Fit(prior, l); return all(v), e },
		"Find": func(prior api.Info, l []api.Ray) ([]any, api.Errno) {
			found, loose, e := vertex.Find(prior, l, ratio("5"), 2)
			return all(found, loose), e
		},
		"Find with a negative limit": func(prior api.Info, l []api.Ray) ([]any, api.Errno) {
			found, loose, e := vertex.Find(prior, l, ratio("-5"), 2)
			return all(found, loose), e
		},
	}
}

// TestListErrors has the errors of a prior and rays, in their order.
func TestListErrors(t *testing.T) {
	good := []api.Ray{ray(0, "0 1 0 0"), ray(1, "2 -1 0 0")}
	many := slices.Repeat(good, 17)[:api.MaxRays+1]
	for name, call := range listCalls() {
		for reason, prior := range badPriors() {
			for _, l := range [][]api.Ray{nil, good, many, {{}}} {
				got, e := call(prior, l)
				wantError(t, api.ErrShape, e, got, name, reason, len(l))
			}
		}
		for _, l := range [][]api.Ray{many, make([]api.Ray, api.MaxRays+1), slices.Repeat(good, 100)} {
			got, e := call(blank(), l)
			wantError(t, api.ErrLong, e, got, name, len(l))
		}
		for reason, bad := range badRays() {
			for i := range 3 {
				got, e := call(blank(), slices.Insert(slices.Clone(good), i, bad))
				wantError(t, api.ErrArg, e, got, name, reason, i)
			}
		}
		last := slices.Clone(many[:api.MaxRays])
		last[api.MaxRays-1].Face = 6
		got, e := call(blank(), last)
		wantError(t, api.ErrArg, e, got, name, "the last of 32")
	}
}

// TestMerge holds Merge and Flight against what the chapter says.
func TestMerge(t *testing.T) {
	s := newSource()
	for i := range 40 {
		a, b := s.vertex(), s.vertex()
		switch {
		case i == 0:
			b = a
		case i == 1:
			a.Free, b.Free = math.MaxInt, math.MaxInt-7
		case i == 2:
			a.Free, b.Free = math.MinInt, -1
		case i == 3:
			a.Free, b.Free = math.MaxInt, -3
		case i == 4:
			a.Rays, b.Rays = []int{math.MaxInt, 3, 3, math.MinInt}, []int{-1, 3, 99, math.MaxInt}
		case i == 5:
			a.Rays, b.Rays = nil, []int{2, 1, 2}
		case i == 6:
			a.Rays, b.Rays = nil, []int{}
		}
		want, wantGap := plainMerge(a, b)
		got, gap, e := vertex.Merge(a, b)
		wantOK(t, e, i)
		wantVertex(t, got, want, i)
		wantRatio(t, gap, wantGap, i)
		got, gap, e = vertex.Merge(looseVertex(b), looseVertex(a))
		wantOK(t, e, i)
		wantVertex(t, got, want, i)
		wantRatio(t, gap, wantGap, i)
	}
	// Two vertices at one point have no gap; two estimates that are equally good meet half-way.
	a, b := some(), some()
	b.Cov, b.Rays = diagonal("3 4 5"), []int{2, 7, -1, 7}
	got, gap, e := vertex.Merge(a, b)
	wantOK(t, e)
	wantRatio(t, gap, ratio("0"))
	wantMatrix(t, got.P, a.P)
	a.Cov, b.Cov, b.P = diagonal("1 1 1"), diagonal("1 1 1"), column("1 1/2 5")
	got, gap, e = vertex.Merge(a, b)
	wantOK(t, e)
	wantRatio(t, gap, ratio("32"))
	wantVertex(t, got, api.Vertex{P: column("1 1/2 1"), Cov: diagonal("1/2 1/2 1/2"), Chi: ratio("39"), Free: 21, Rays: []int{-1, 1, 2, 4, 7}})
}

// plainFlight is way, way . way, and way' (Ca + Cb)⁻¹ way.
func plainFlight(a, b api.Vertex) (way place, square, significance *big.Rat) {
	way = placeOf(b.P).add(ratOf(-1), placeOf(a.P))
	cov, _ := gridOf(laid(3, 3, func(i, j int) *big.Rat { return plus(at(a.Cov, i, j), at(b.Cov, i, j)) })).inverse()
	return way, way.dot(way), way.dot(cov.of(way))
}

func TestFlight(t *testing.T) {
	s := newSource()
	for i := range 40 {
		a, b := s.vertex(), s.vertex()
		if i == 0 {
			b = a
		}
		wantWay, wantSquare, wantSignificance := plainFlight(a, b)
		for _, x := range [][2]api.Vertex{{a, b}, {looseVertex(a), looseVertex(b)}} {
			way, square, significance, e := vertex.Flight(x[0], x[1])
			wantOK(t, e, i)
			wantMatrix(t, way, wantWay.matrix(), i)
			wantRatio(t, square, ofRat(wantSquare), i)
			wantRatio(t, significance, ofRat(wantSignificance), i)
		}
	}
	a, b := some(), some()
	a.Cov, b.Cov, b.P = diagonal("1 1 1"), diagonal("1 2 3"), column("3 5/2 1")
	way, square, significance, e := vertex.Flight(a, b)
	wantOK(t, e)
	wantMatrix(t, way, column("2 2 4"))
	wantRatio(t, square, ratio("24"))
	wantRatio(t, significance, ratio("22/3"))
}

func TestPairOfVerticesErrors(t *testing.T) {
	for name, bad := range badVertices() {
		for i, x := range [][2]api.Vertex{{bad, some()}, {some(), bad}, {bad, bad}} {
			v, gap, e := vertex.Merge(x[0], x[1])
			wantError(t, api.ErrArg, e, all(v, gap), name, i)
			way, square, significance, e := vertex.Flight(x[0], x[1])
			wantError(t, api.ErrArg, e, all(way, square, significance), name, i)
		}
	}
}
