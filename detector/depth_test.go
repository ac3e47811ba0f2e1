package detector_test

import (
	"slices"
	"testing"

	"hodoscope/api"
	"hodoscope/detector"
)

// notFaces are numbers of no face with a frame.
func notFaces() []int {
	return []int{-1, 6, 7, least, greatest}
}

func TestStack(t *testing.T) {
	d := rich()
	for face, want := range [][]int{{2, 4, 0}, {6}, {7}, {8}, {3}, {5}} {
		if got := detector.Stack(d, face); !slices.Equal(got, want) {
			t.Error(face, got, want)
		}
	}
	if got := detector.Stack(plain(), 1); len(got) != 0 {
		t.Error(got)
	}
	for _, face := range notFaces() {
		if got := detector.Stack(d, face); len(got) != 0 {
			t.Error(face, got)
		}
	}
	for _, d := range invalid() {
		if got := detector.Stack(d, 0); len(got) != 0 {
			t.Error(d, got)
		}
	}
	backwards := filled(64, 0, 0)
	slices.Reverse(backwards.Planes)
	for face := range 6 {
		if got := detector.Stack(backwards, face); !slices.Equal(got, stacked(backwards, face)) {
			t.Error(face, got)
		}
	}
}

func TestThickness(t *testing.T) {
	d := rich()
	for _, x := range [][4]int{
		{0, 0, 65537, 1021}, {0, 100, 301, 1021}, {0, 100, 300, 1020}, {0, 101, 301, 1001}, {0, 200, 200, 0}, {0, 200, 201, 1000}, {0, 199, 200, 0}, {0, 300, 100, 0},
		{0, least, greatest, 1021}, {0, greatest, least, 0}, {0, least, 100, 0}, {0, least, 101, 20}, {0, 301, greatest, 0},
		{1, 65536, 65537, 1}, {1, 0, 65536, 0}, {2, 1, 2, 6}, {2, 0, 1, 0}, {2, -5, 2, 6}, {4, 0, 100, 300}, {5, 0, 100, 0},
	} {
		if got := detector.Thickness(d, x[0], x[1], x[2]); got != x[3] {
			t.Error(x, got)
		}
	}
	for _, face := range notFaces() {
		if got := detector.Thickness(d, face, least, greatest); got != 0 {
			t.Error(face, got)
		}
	}
	for _, d := range invalid() {
		if got := detector.Thickness(d, 0, least, greatest); got != 0 {
			t.Error(d, got)
		}
	}
}

func TestThicknessAny(t *testing.T) {
	s := newSource()
	for range 300 {
		d := s.valid()
		for face := range 6 {
			from, to := s.from(-2, 10), s.from(-2, 10)
			want := 0
			for _, p := range d.Planes {
				if p.Face == face && slices.Contains(span(from, to), p.Depth) {
					want += p.Thick
				}
			}
			if got := detector.Thickness(d, face, from, to); got != want {
				t.Error(d.Planes, face, from, to, got, want)
			}
			if got := detector.Stack(d, face); !slices.Equal(got, sortedByDepth(d, face)) {
				t.Error(d.Planes, face, got)
			}
		}
	}
}

// sortedByDepth is what stacked returns, for detectors of depths up to 9.
func sortedByDepth(d api.Detector, face int) []int {
	var l []int
	for depth := range 10 {
		for i, p := range d.Planes {
			if p.Face == face && p.Depth == depth {
				l = append(l, i)
			}
		}
	}
	return l
}

// wantField checks Field, Integral and Bend.
func wantField(t *testing.T, d api.Detector, face, depth, field, integral, bend int) {
	t.Helper()
	if n := detector.Field(d, face, depth); n != field {
		t.Errorf("Field of %v, %d, %d: %d, want %d", d.Field, face, depth, n, field)
	}
	if n := detector.Integral(d, face, depth); n != integral {
		t.Errorf("Integral of %v, %d, %d: %d, want %d", d.Field, face, depth, n, integral)
	}
	if n := detector.Bend(d, face, depth); n != bend {
		t.Errorf("Bend of %v, %d, %d: %d, want %d", d.Field, face, depth, n, bend)
	}
}

func TestField(t *testing.T) {
	d := laid("plane " + plainPlane + ", slab 0 10 20 3, slab 1 0 65536 1024, slab 2 0 65536 -1024, slab 3 20 30 5, slab 3 0 10 -2, slab 3 65535 65536 7, slab 4 0 1 1")
	for _, x := range [][5]int{
		{0, 0, 0, 0, 0}, {0, 9, 0, 0, 0}, {0, 10, 3, 0, 0}, {0, 11, 3, 3, 3}, {0, 15, 3, 15, 75}, {0, 19, 3, 27, 243}, {0, 20, 0, 30, 300}, {0, 21, 0, 30, 360}, {0, 30, 0, 30, 900}, {0, 65536, 0, 30, 3 * (65526*65526 - 65516*65516)},
		{1, 0, 1024, 0, 0}, {1, 1, 1024, 1024, 1024}, {1, 65535, 1024, 1024 * 65535, 1024 * 65535 * 65535}, {1, 65536, 0, 1 << 26, 1 << 42},
		{2, 65535, -1024, -1024 * 65535, -1024 * 65535 * 65535}, {2, 65536, 0, -1 << 26, -1 << 42},
		{3, 0, -2, 0, 0}, {3, 9, -2, -18, -162}, {3, 10, 0, -20, -200}, {3, 20, 5, -20, -600}, {3, 30, 0, 30, -2*(900-400) + 500},
		{3, 65535, 7, 30, -2*(65535*65535-65525*65525) + 5*(65515*65515-65505*65505)}, {3, 65536, 0, 37, -2*(65536*65536-65526*65526) + 5*(65516*65516-65506*65506) + 7},
		{4, 0, 1, 0, 0}, {4, 1, 0, 1, 1}, {4, 2, 0, 1, 3}, {5, 0, 0, 0, 0}, {5, 65536, 0, 0, 0},
	} {
		wantField(t, d, x[0], x[1], x[2], x[3], x[4])
	}
	for face := range 6 {
		for _, depth := range []int{-1, -100, least} {
			wantField(t, d, face, depth, detector.Field(d, face, 0), 0, 0)
		}
		for _, depth := range []int{65537, 1 << 40, greatest} {
			wantField(t, d, face, depth, 0, detector.Integral(d, face, 65536), detector.Bend(d, face, 65536))
		}
	}
	wantField(t, d, 1, -1, 1024, 0, 0)
	for _, face := range notFaces() {
		wantField(t, d, face, 15, 0, 0, 0)
	}
	for _, d := range invalid() {
		wantField(t, d, 0, 15, 0, 0, 0)
		wantField(t, d, 0, 65536, 0, 0, 0)
	}
}

// TestFieldAny holds Field against the definition, and Integral and Bend against sums as P3.15 says them.
func TestFieldAny(t *testing.T) {
	s := newSource()
	for range 100 {
		d := s.valid()
		for face := range 6 {
			integrals, bends := integrated(d, face, 20)
			for depth := range 20 {
				wantField(t, d, face, depth, fieldAt(d, face, depth), integrals[depth], bends[depth])
			}
		}
	}
}

// TestFieldSums is P3.15 at all depths of slabs that are far apart, and around the last depth.
func TestFieldSums(t *testing.T) {
	d := laid("plane " + plainPlane + ", slab 0 40000 65536 1024, slab 0 1 2 -1024, slab 0 7 30000 -3, slab 0 30000 39999 1000")
	integrals, bends := integrated(d, 0, 65536)
	for depth := range 65537 {
		wantField(t, d, 0, depth, fieldAt(d, 0, depth), integrals[depth], bends[depth])
	}
	for depth := range 65536 {
		integral, next := detector.Integral(d, 0, depth), detector.Integral(d, 0, depth+1)
		if next-integral != detector.Field(d, 0, depth) || detector.Bend(d, 0, depth+1)-detector.Bend(d, 0, depth) != integral+next {
			t.Fatal(depth)
		}
	}
}
