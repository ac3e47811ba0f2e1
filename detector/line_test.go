package detector_test

import (
	"slices"
	"testing"

	"hodoscope/api"
	"hodoscope/detector"
)

func wantCross(t *testing.T, d api.Detector, face int, l api.Line, depth, x, y int, e api.Errno) {
	t.Helper()
	if cx, cy, f := detector.Cross(d, face, l, depth); cx != x || cy != y || f != e {
		t.Errorf("Cross of face %d, %v, %d: %d %d %v, want %d %d %v", face, l, depth, cx, cy, f, x, y, e)
	}
}

func TestCross(t *testing.T) {
	d := laid("plane " + plainPlane + ", slab 0 10 20 3, slab 1 0 65536 1024, slab 2 0 65536 -1024")
	for _, x := range []struct {
		face        int
		line        api.Line
		depth, x, y int
	}{
		{0, api.Line{}, 0, 0, 0},
		{0, api.Line{X0: 5, Y0: -7}, 65536, 5, -7},
		{0, api.Line{X1: 1 << 20, Y1: -1 << 20}, 65536, 65536, -65536},
		// Quotients are rounded down, also of negative numbers.
		{0, api.Line{X1: 1, Y1: -1}, 1, 0, -1},
		{0, api.Line{X1: -1, Y1: 1}, 1, -1, 0},
		{0, api.Line{X1: -1 << 18, Y1: -3}, 3, -1, -1},
		{0, api.Line{X1: -1 << 18, Y1: 1 << 19}, 4, -1, 2},
		{0, api.Line{X1: -1 << 18, Y1: -1 << 19}, 5, -2, -3},
		{0, api.Line{X0: -10, X1: 1 << 19, Y0: -10, Y1: 1 << 19}, 3, -9, -9},
		// K bends x only, and its product is added before the quotient is rounded.
		{0, api.Line{K: 1 << 16}, 10, 0, 0},
		{0, api.Line{K: 1 << 16}, 11, 0, 0},
		{0, api.Line{K: 1 << 16}, 20, 18, 0},
		{0, api.Line{K: -1 << 16}, 20, -19, 0},
		{0, api.Line{K: 1 << 16, X1: 1 << 15}, 20, 19, 0},
		{0, api.Line{K: 1 << 16, X1: 1<<15 - 1 - 6554}, 20, 19, 0},
		{0, api.Line{K: 1, X1: -1, Y1: 1}, 20, 0, 0},
		{0, api.Line{K: -1, X1: 14}, 20, -1, 0},
		{0, api.Line{K: -1, X1: 15}, 20, 0, 0},
		{3, api.Line{K: 1 << 16}, 65536, 0, 0},
		// The largest numbers.
		{1, api.Line{X0: 1 << 40, X1: 1 << 20, K: 1 << 16, Y0: 1 << 40, Y1: 1 << 20}, 65536, 1<<40 + 65536 + 1<<38, 1<<40 + 65536},
		{1, api.Line{X0: -1 << 40, X1: -1 << 20, K: -1 << 16, Y0: -1 << 40, Y1: -1 << 20}, 65536, -1<<40 - 65536 - 1<<38, -1<<40 - 65536},
		{2, api.Line{X0: -1 << 40, X1: -1 << 20, K: 1 << 16}, 65536, -1<<40 - 65536 - 1<<38, 0},
	} {
		wantCross(t, d, x.face, x.line, x.depth, x.x, x.y, api.OK)
	}
}

// line makes lines of which the positions at small depths are near small planes, or anywhere.
func (s source) line() api.Line {
	if s.Intn(4) == 0 {
		return api.Line{X0: s.from(-1<<40, 1<<40), X1: s.from(-1<<20, 1<<20), K: s.from(-1<<16, 1<<16), Y0: s.from(-1<<40, 1<<40), Y1: s.from(-1<<20, 1<<20)}
	}
	return api.Line{X0: s.from(-8, 8), X1: s.from(-1<<20, 1<<20), K: s.from(-1<<13, 1<<13), Y0: s.from(-8, 8), Y1: s.from(-1<<20, 1<<20)}
}

// TestCrossAny holds Cross and Swim against the definitions.
func TestCrossAny(t *testing.T) {
	s := newSource()
	cells := 0
	for range 300 {
		d := s.valid()
		for face := range 6 {
			_, bends := integrated(d, face, 20)
			l := s.line()
			for range 3 {
				depth := s.from(0, 20)
				x, y := crossed(l, depth, bends[depth])
				wantCross(t, d, face, l, depth, x, y, api.OK)
			}
			var want []api.Cell
			for _, i := range sortedByDepth(d, face) {
				x, y := crossed(l, d.Planes[i].Depth, bends[d.Planes[i].Depth])
				for _, cell := range containing(d.Planes[i], x, y) {
					want = append(want, api.Cell{Plane: i, Col: cell[0], Row: cell[1]})
				}
			}
			got, e := detector.Swim(d, face, l)
			if e != api.OK || !slices.Equal(got, want) {
				t.Error(d, face, l, got, e, want)
			}
			cells += len(want)
		}
	}
	if cells < 100 {
		t.Error("few cells", cells)
	}
}

func TestSwim(t *testing.T) {
	d := laid("plane 0 300 4 4 5 7 1, plane 6 0 8 8 100 100 0, plane 0 100 4 2 5 7 20, plane 4 50 6 6 10 10 300, plane 0 200 3 5 6 8 1000, slab 0 20 120 1024")
	for _, x := range []struct {
		face int
		line api.Line
		want []api.Cell
	}{
		{0, api.Line{}, []api.Cell{{Plane: 2, Col: 2, Row: 1}, {Plane: 4, Col: 1, Row: 2}, {Plane: 0, Col: 2, Row: 2}}},
		{0, api.Line{X0: -20, Y0: 13}, []api.Cell{{Plane: 2, Col: 0, Row: 1}, {Plane: 0, Col: 0, Row: 2}}},
		{0, api.Line{X0: -20, X1: -1}, nil},
		{0, api.Line{X0: 20, Y0: 40}, nil},
		{0, api.Line{K: 2}, []api.Cell{{Plane: 2, Col: 3, Row: 1}}},
		{4, api.Line{X0: -60, Y0: 59}, []api.Cell{{Plane: 3, Col: 0, Row: 5}}},
		{4, api.Line{X0: -61, Y0: 59}, nil},
		{1, api.Line{}, nil},
		{5, api.Line{}, nil},
	} {
		got, e := detector.Swim(d, x.face, x.line)
		if e != api.OK || !slices.Equal(got, x.want) {
			t.Error(x.face, x.line, got, e, x.want)
		}
	}
}

// TestLineErrors has Cross and Swim with one fault, and with several.
func TestLineErrors(t *testing.T) {
	d := plain()
	want := func(d api.Detector, face int, l api.Line, depth int, cross, swim api.Errno) {
		t.Helper()
		if cross != api.OK {
			wantCross(t, d, face, l, depth, 0, 0, cross)
		} else if _, _, e := detector.Cross(d, face, l, depth); e != api.OK {
			t.Error(face, l, depth, e)
		}
		if cells, e := detector.Swim(d, face, l); e != swim || e != api.OK && len(cells) > 0 {
			t.Error(face, l, cells, e, swim)
		}
	}
	for _, poor := range invalid() {
		want(poor, 0, api.Line{}, 0, api.ErrArg, api.ErrArg)
		want(poor, 6, api.Line{X0: greatest}, -1, api.ErrArg, api.ErrArg)
	}
	for _, face := range notFaces() {
		want(d, face, api.Line{}, 0, api.ErrNone, api.ErrNone)
		want(d, face, api.Line{X1: least}, -1, api.ErrNone, api.ErrNone)
	}
	for _, depth := range []int{-1, 65537, least, greatest} {
		want(d, 0, api.Line{}, depth, api.ErrRange, api.OK)
	}
	for _, sign := range []int{1, -1} {
		for limit, lines := range map[int]func(n int) []api.Line{
			1 << 40: func(n int) []api.Line { return []api.Line{{X0: n}, {Y0: n}} },
			1 << 20: func(n int) []api.Line { return []api.Line{{X1: n}, {Y1: n}} },
			1 << 16: func(n int) []api.Line { return []api.Line{{K: n}} },
		} {
			for _, l := range lines(sign * limit) {
				want(d, 0, l, 0, api.OK, api.OK)
				want(d, 5, l, 65536, api.OK, api.OK)
			}
			for _, l := range append(lines(sign*limit+sign), append(lines(least), lines(greatest)...)...) {
				want(d, 0, l, 0, api.ErrRange, api.ErrRange)
				want(d, 5, l, 65537, api.ErrRange, api.ErrRange)
			}
		}
	}
}
