package detector_test

import (
	"testing"

	"hodoscope/api"
	"hodoscope/detector"
)

// vectors are D, U and V of the faces, as the chapter's table writes them.
var vectors = [6][3]string{{"+X", "+Y", "+Z"}, {"+Y", "-X", "+Z"}, {"-X", "-Y", "+Z"}, {"-Y", "+X", "+Z"}, {"+Z", "+X", "+Y"}, {"-Z", "+Y", "+X"}}

// vector returns the unit vector of a word of the table.
func vector(s string) [3]int {
	var v [3]int
	v[s[1]-'X'] = 1
	if s[0] == '-' {
		v[s[1]-'X'] = -1
	}
	return v
}

func TestAxes(t *testing.T) {
	for face, row := range vectors {
		axis, sign, e := detector.Axes(face)
		wantOK(t, e, face)
		for i, s := range row {
			if axis[i] < 0 || axis[i] > 2 {
				t.Fatal(face, axis)
			}
			var v [3]int
			v[axis[i]] = sign[i]
			if v != vector(s) {
				t.Error(face, i, axis, sign, s)
			}
		}
	}
	for _, face := range append(extremes(), 6, 7, 8) {
		if face >= 0 && face < 6 {
			continue
		}
		if axis, sign, e := detector.Axes(face); axis != [3]int{} || sign != [3]int{} || e != api.ErrNone {
			t.Error(face, axis, sign, e)
		}
	}
}

// places returns places of which some are at the ends of the range.
func places() [][3]int {
	l := [][3]int{{0, 0, 0}, {1, 2, 3}, {-1, -2, -3}, {10, 2, 3}, {1 << 40, -1 << 40, 1 << 40}, {-1 << 40, 1 << 40, -1 << 40}, {5, 0, 0}, {0, 5, 0}, {0, 0, 5}}
	s := newSource()
	for range 50 {
		l = append(l, [3]int{s.from(-1<<40, 1<<40), s.from(-9, 9), s.from(-1<<20, 1<<20)})
	}
	return l
}

func TestGlobalAndLocal(t *testing.T) {
	for face, row := range vectors {
		for _, p := range places() {
			var want [3]int
			for i, s := range row {
				for axis, n := range vector(s) {
					want[axis] += n * p[i]
				}
			}
			got, e := detector.Global(face, p)
			if e != api.OK || got != want {
				t.Error("Global", face, p, got, want, e)
			}
			if back, e := detector.Local(face, want); e != api.OK || back != p {
				t.Error("Local", face, want, back, p, e)
			}
		}
	}
}

// TestFramesInverse is P3.12.
func TestFramesInverse(t *testing.T) {
	squares := func(p [3]int) int {
		// Squares of numbers up to MaxReach leave an int: their wrapped sums are compared.
		return p[0]*p[0] + p[1]*p[1] + p[2]*p[2]
	}
	for face := range 6 {
		for _, p := range places() {
			g, _ := detector.Global(face, p)
			l, _ := detector.Local(face, p)
			back, e := detector.Local(face, g)
			forth, f := detector.Global(face, l)
			if back != p || forth != p || e != api.OK || f != api.OK {
				t.Error(face, p, g, back, l, forth)
			}
			if squares(g) != squares(p) || squares(l) != squares(p) {
				t.Error("squares", face, p, g, l)
			}
		}
		unit := func(i int) [3]int {
			var p [3]int
			p[i] = 1
			g, _ := detector.Global(face, p)
			return g
		}
		d, u, v := unit(0), unit(1), unit(2)
		if product := [3]int{u[1]*v[2] - u[2]*v[1], u[2]*v[0] - u[0]*v[2], u[0]*v[1] - u[1]*v[0]}; product != d {
			t.Error("not right-handed", face, d, u, v)
		}
	}
}

func TestPlaceErrors(t *testing.T) {
	for name, f := range map[string]func(int, [3]int) ([3]int, api.Errno){"Global": detector.Global, "Local": detector.Local} {
		want := func(face int, p [3]int, e api.Errno) {
			t.Helper()
			if g, f := f(face, p); f != e || f != api.OK && g != [3]int{} {
				t.Error(name, face, p, g, f, e)
			}
		}
		for i := range 3 {
			for _, n := range []int{1<<40 + 1, -1<<40 - 1, least, greatest} {
				p := [3]int{1, 2, 3}
				p[i] = n
				for face := range 6 {
					want(face, p, api.ErrRange)
				}
				want(6, p, api.ErrNone)
				want(-1, p, api.ErrNone)
			}
			for _, n := range []int{1 << 40, -1 << 40} {
				p := [3]int{1, 2, 3}
				p[i] = n
				want(i, p, api.OK)
			}
		}
		for _, face := range []int{-1, 6, 7, least, greatest} {
			want(face, [3]int{}, api.ErrNone)
		}
	}
}
