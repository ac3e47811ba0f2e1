package pattern_test

import (
	"fmt"
	"slices"
	"strings"
	"testing"

	"hodoscope/api"
	"hodoscope/pattern"
)

// searches returns searches of which one number alone is one of these, the others being those of the examples.
func searches(index int, l ...int) []api.Search {
	var all []api.Search
	for _, n := range l {
		x := numbers("0 2048 1024 3 1000 0")
		x[index] = n
		all = append(all, search(strings.Trim(fmt.Sprint(x), "[]")))
	}
	return all
}

func goodSearches() []api.Search {
	return slices.Concat(searches(0, 0, 1, 3), searches(1, 0, 1<<20), searches(2, 0, 1<<20), searches(3, 2, 64), searches(4, 1, 1<<20), searches(5, 0, 64))
}

func badSearches() []api.Search {
	return slices.Concat(searches(0, -1, 4, least, greatest), searches(1, -1, 1<<20+1, least, greatest), searches(2, -1, 1<<20+1, least, greatest),
		searches(3, 1, 0, -2, 65, least, greatest), searches(4, 0, -1, 1<<20+1, least, greatest), searches(5, -1, 65, least, greatest), []api.Search{{}})
}

// TestCheckSearch is P6.4.
func TestCheckSearch(t *testing.T) {
	for _, q := range goodSearches() {
		wantSame(t, pattern.CheckSearch(q), true, q)
	}
	for _, q := range badSearches() {
		wantSame(t, pattern.CheckSearch(q), false, q)
	}
	wantSame(t, pattern.CheckSearch(search("3 1048576 1048576 64 1048576 64")), true)
	wantSame(t, pattern.CheckSearch(search("0 0 0 2 1 0")), true)
}

func wantSegments(t *testing.T, d api.Detector, q api.Search, l string, face int, want string) {
	t.Helper()
	wanted(t, segments(want))(pattern.Segments(d, q, points(l), face))
}

// TestSegments is P6.4: the order of the planes is that of the Stack, and the order of the segments that of the indices.
func TestSegments(t *testing.T) {
	// The Stack of the face 0 of rich is 4 (depth 40), 2 (100), 0 (300), 6 (65536); that of 5 is 7, 5.
	d, q := rich(), search("0 1048576 0 2 1 0")
	wantSegments(t, d, q, "", 0, "")
	wantSegments(t, d, q, "0 0 0", 0, "")
	wantSegments(t, d, q, "0 0 0  2 0 0  4 0 0  6 0 0", 0, "0 3  1 0  2 1")
	wantSegments(t, d, q, "6 0 0  4 0 0  0 0 0  4 1 1  2 0 0  0 0 0  2 0 0", 0, "1 4  1 6  2 0  3 4  3 6  4 2  4 5  5 0  6 2  6 5")
	wantSegments(t, d, q, "4 0 0  4 1 1  4 0 0", 0, "")
	// Points of other faces make segments of theirs.
	wantSegments(t, d, q, "4 0 0  5 0 0  2 0 0  7 0 0", 0, "0 2")
	wantSegments(t, d, q, "4 0 0  5 0 0  2 0 0  7 0 0", 5, "3 1")
	for _, face := range []int{1, 2, 3, 4} {
		wantSegments(t, d, q, "4 0 0  5 0 0  2 0 0  7 0 0  3 0 0", face, "")
	}
	// Only planes of the face are between: those of 7 (depth 9) and 5 (99) are not.
	wantSegments(t, d, q, "4 0 0  7 0 0  5 0 0  2 0 0", 0, "0 3")
}

// TestSkip is P6.4: the planes in between are those of the Stack, whether they have points or not.
func TestSkip(t *testing.T) {
	d := tower(6)
	for skip := range 4 {
		q := search("0 1048576 0 2 1 0")
		q.Skip = skip
		for far := range 6 {
			want := ""
			if far > 0 && far <= skip+1 {
				want = "0 1"
			}
			wantSegments(t, d, q, fmt.Sprintf("0 0 0  %d 0 0", far), 0, want)
		}
	}
	wantSegments(t, d, search("1 1048576 0 2 1 0"), "0 0 0  1 0 0  2 0 0  3 0 0", 0, "0 1  0 2  1 2  1 3  2 3")
	wantSegments(t, d, search("3 1048576 0 2 1 0"), "5 0 0  1 0 0  0 0 0", 0, "1 0  2 1")
}

// TestSlope is P6.4: differences that are just Slope w, and one beyond.
func TestSlope(t *testing.T) {
	d := laid("plane 0 10 8 8 5 5 0, plane 0 1033 8 8 5 5 0, plane 0 2057 8 8 5 5 0, plane 0 65536 8 8 5 5 0")
	for _, x := range []struct{ from, to, slope, reach int }{
		{0, 1, 1024, 1023}, {0, 1, 1025, 1023}, {0, 1, 1026, 1024}, {0, 1, 1, 0}, {0, 1, 2, 1}, {1, 2, 1, 1}, {1, 2, 3, 3}, {0, 1, 0, 0}, {1, 3, 1 << 20, 66051072}, {2, 3, 1, 61},
	} {
		q := search("3 0 0 2 1 0")
		q.Slope = x.slope
		for _, n := range []int{0, 1, -1, x.reach, x.reach + 1, -x.reach, -x.reach - 1} {
			want := ""
			if n >= -x.reach && n <= x.reach {
				want = "0 1"
			}
			wantSegments(t, d, q, fmt.Sprintf("%d 100 -7  %d %d -7", x.from, x.to, 100+n), 0, want)
			wantSegments(t, d, q, fmt.Sprintf("%d 100 -7  %d 100 %d", x.from, x.to, -7+n), 0, want)
			wantSegments(t, d, q, fmt.Sprintf("%d 100 -7  %d %d %d", x.from, x.to, 100+n, -7-n), 0, want)
		}
	}
	// The greatest difference of all.
	far := "0 -4294967296 4294967296  1 4294967296 -4294967296"
	wantSegments(t, d, search("0 1048576 0 2 1 0"), far, 0, "")
	wantSegments(t, d, search("0 1048576 0 2 1 0"), "2 0 4294967296  3 65002496 4294967296", 0, "0 1")
	wantSegments(t, d, search("0 1048576 0 2 1 0"), "2 0 4294967296  3 65002497 4294967296", 0, "")
	wantSegments(t, d, search("0 1048576 0 2 1 0"), "2 0 4294967296  3 65002496 4229964799", 0, "")
}

// refuses checks that all functions that look at the points of a face return an error.
func refuses(t *testing.T, want api.Errno, d api.Detector, q api.Search, l []api.Point, face int) {
	t.Helper()
	wantRefused[api.Segment](t, want)(pattern.Segments(d, q, l, face))
	wantRefused[int](t, want)(pattern.Lengths(d, q, l, face))
	for _, steps := range []int{-1, 0, 3, 99} {
		wantRefused[int](t, want)(pattern.Evolve(d, q, l, face, steps))
	}
	wantRefused[api.Candidate](t, want)(pattern.Candidates(d, q, l, face))
	wantRefused[api.Candidate](t, want)(pattern.Follow(d, q, l, face))
}

// TestSegmentsErrors is P6.4, and so much of P6.6 to P6.8: points and searches that are not valid come before faces.
func TestSegmentsErrors(t *testing.T) {
	d, q, l := rich(), search("0 1048576 0 2 1 0"), points("4 0 0  2 1 1  0 2 2")
	for _, face := range []int{0, 1, -1, 6} {
		for _, bad := range poor() {
			refuses(t, api.ErrArg, bad, q, nil, face)
			refuses(t, api.ErrArg, bad, q, l, face)
		}
		for _, bad := range badSearches() {
			refuses(t, api.ErrArg, d, bad, l, face)
			refuses(t, api.ErrArg, d, bad, nil, face)
		}
		for _, bad := range []api.Point{{}, {Plane: 1, VX: 1, VY: 1}, {Plane: 8, VX: 1, VY: 1}, {Plane: 4, X: 1<<32 + 1, VX: 1, VY: 1}, {Plane: 5, VX: 1, VY: 1<<30 + 1}} {
			refuses(t, api.ErrArg, d, q, append(slices.Clone(l), bad), face)
		}
		refuses(t, api.ErrArg, d, q, slices.Repeat(l[:1], 513), face)
	}
	for _, face := range []int{-1, 6, 7, least, greatest} {
		refuses(t, api.ErrNone, d, q, l, face)
		refuses(t, api.ErrNone, d, q, nil, face)
	}
}

// grid returns so many points of a plane, and so many of the next one.
func grid(plane, a, b int) []api.Point {
	return append(slices.Repeat([]api.Point{{Plane: plane, VX: 1, VY: 1}}, a), slices.Repeat([]api.Point{{Plane: plane + 1, VX: 1, VY: 1}}, b)...)
}

// TestSegmentsLong is P6.4, and so much of P6.6 to P6.8: 4096 segments, and one more; and 512 points.
func TestSegmentsLong(t *testing.T) {
	d := laid("plane 0 10 8 8 5 5 0, plane 0 20 8 8 5 5 0, plane 0 30 8 8 5 5 0, plane 1 10 8 8 5 5 0, plane 1 20 8 8 5 5 0")
	q := search("0 0 0 3 1 0")
	var want []api.Segment
	for a := range 64 {
		for b := range 64 {
			want = append(want, api.Segment{A: a, B: 64 + b})
		}
	}
	l := grid(0, 64, 64)
	wanted(t, want)(pattern.Segments(d, q, l, 0))
	wanted(t, slices.Repeat([]int{1}, 4096))(pattern.Lengths(d, q, l, 0))
	wanted(t, slices.Repeat([]int{1}, 4096))(pattern.Evolve(d, q, l, 0, 9))
	wanted[api.Candidate](t, nil)(pattern.Candidates(d, q, l, 0))
	wanted[api.Candidate](t, nil)(pattern.Follow(d, q, l, 0))
	refuses(t, api.ErrLong, d, q, grid(0, 17, 241), 0)
	refuses(t, api.ErrLong, d, q, grid(0, 256, 256), 0)
	refuses(t, api.ErrArg, d, q, grid(0, 256, 257), 0)
	refuses(t, api.ErrNone, d, q, grid(0, 17, 241), 6)
	// Those of another face do not count.
	wantSame(t, len(want), 4096)
	both := slices.Concat(l, grid(3, 64, 64))
	wanted(t, want)(pattern.Segments(d, q, both, 0))
	wanted[api.Segment](t, nil)(pattern.Segments(d, q, both, 2))
	wanted[api.Segment](t, nil)(pattern.Segments(d, q, slices.Repeat(l[:1], 512), 0))
}

func wantBends(t *testing.T, d api.Detector, a, b, c api.Point, x, y int) {
	t.Helper()
	gotX, gotY, ok := pattern.Bends(d, a, b, c)
	if gotX != x || gotY != y || !ok {
		t.Errorf("%v %v %v: %d %d %v, want %d %d", a, b, c, gotX, gotY, ok, x, y)
	}
}

func noBends(t *testing.T, d api.Detector, a, b, c api.Point) {
	t.Helper()
	if x, y, ok := pattern.Bends(d, a, b, c); x != 0 || y != 0 || ok {
		t.Errorf("%v %v %v: %d %d %v", a, b, c, x, y, ok)
	}
}

// TestBends is P6.5.
func TestBends(t *testing.T) {
	bent := func(d api.Detector, s string, x, y int) {
		t.Helper()
		l := points(s)
		wantBends(t, d, l[0], l[1], l[2], x, y)
	}
	bent(plain(), "0 0 0  1 5 1  2 10 2", 0, 0)
	bent(plain(), "0 0 0  1 5 1  2 11 1", 102, 102)
	bent(plain(), "0 0 0  1 5 1  2 9 3", 102, 102)
	bent(plain(), "0 7 -7  1 -5 5  2 11 -11", 2867, 2867)
	// No matter how the detector orders them; distances of 60 and 200, of 200 and 65236, and of both.
	bent(rich(), "4 0 0  2 3 0  0 13 1", 0, 5)
	bent(rich(), "4 0 0  2 3 0  0 14 -1", 5, 5)
	bent(rich(), "4 0 0  2 3 6  0 15 0", 10, 133)
	bent(rich(), "2 0 0  0 3 0  6 0 -1", 15, 0)
	bent(rich(), "2 0 0  0 3 0  6 0 -64", 15, 1)
	// The Skip and the Slope of a search do not matter.
	bent(tower(64), "0 0 0  30 1000000 -1000000  63 0 0", 6516363, 6516363)
	// The greatest numbers.
	deep := laid("plane 3 1 1 1 1 1 0, plane 3 2 1 1 1 1 0, plane 3 65535 1 1 1 1 0, plane 3 65536 1 1 1 1 0")
	far := "%d -4294967296 4294967296  %d 4294967296 -4294967296  %d -4294967296 4294967296"
	bent(deep, fmt.Sprintf(far, 0, 1, 2), 8796227246080, 8796227246080)
	bent(deep, fmt.Sprintf(far, 0, 2, 3), 8796227244032, 8796227244032)
	bent(deep, fmt.Sprintf(far, 1, 2, 3), 8796227246080, 8796227246080)
}

// TestBendsNone is P6.5: points that are not valid, of planes of one depth, of other faces, or in another order.
func TestBendsNone(t *testing.T) {
	d := laid("plane 0 10 8 8 5 5 0, plane 0 20 8 8 5 5 0, plane 0 30 8 8 5 5 0, plane 1 15 8 8 5 5 0, plane 1 20 8 8 5 5 0, plane 1 30 8 8 5 5 0, plane 6 0 8 8 5 5 0")
	p := points("0 0 0  1 0 0  2 0 0  3 0 0  4 0 0  5 0 0  6 0 0")
	for a := range p {
		for b := range p {
			for c := range p {
				if isRow := c == b+1 && b == a+1 && a%3 == 0 && a < 6; isRow {
					wantBends(t, d, p[a], p[b], p[c], 0, 0)
				} else {
					noBends(t, d, p[a], p[b], p[c])
				}
			}
		}
	}
	for _, bad := range []api.Point{{}, {Plane: 1, VX: 1}, {Plane: 1, X: 1<<32 + 1, VX: 1, VY: 1}, {Plane: 1, Y: -1<<32 - 1, VX: 1, VY: 1}, {Plane: 1, VX: 1, VY: 1<<30 + 1}, {Plane: -1, VX: 1, VY: 1}, {Plane: 7, VX: 1, VY: 1}} {
		noBends(t, d, bad, p[1], p[2])
		noBends(t, d, p[0], bad, p[2])
		noBends(t, d, p[0], p[1], bad)
	}
	for _, bad := range poor() {
		noBends(t, bad, p[0], p[1], p[2])
	}
}

func wantInside(t *testing.T, want bool, d api.Detector, q api.Search, l, both string) {
	t.Helper()
	s := segments(both)
	if got := pattern.Inside(d, q, points(l), s[0], s[1]); got != want {
		t.Errorf("%v %s, %s: %v", q, l, both, got)
	}
}

// TestInside is P6.5.
func TestInside(t *testing.T) {
	d, q := plain(), steady()
	l := "0 0 0  1 5 0  2 10 0  1 30 0"
	wantInside(t, true, d, q, l, "0 1  1 2")
	// Both are segments that do not follow each other, or follow each other the other way round, or are no segments.
	for _, both := range []string{"0 1  3 2", "1 2  0 1", "0 1  0 1", "1 2  1 2", "0 3  3 2", "0 1  1 3", "0 1  1 0", "1 0  0 1", "0 0  0 1", "0 2  2 1", "2 1  1 0", "0 1  1 1"} {
		wantInside(t, false, d, q, l, both)
	}
	for _, n := range []string{"-1", "4", "-9223372036854775808", "9223372036854775807"} {
		for _, both := range []string{n + " 1  1 2", "0 " + n + "  1 2", "0 1  " + n + " 2", "0 1  1 " + n, "0 " + n + "  " + n + " 2", strings.Repeat(n+" ", 4)} {
			wantInside(t, false, d, q, l, both)
		}
	}
	// Skipped planes.
	wantInside(t, false, d, q, "0 0 0  2 0 0", "0 1  1 1")
	for skip, l := range []string{"0 0 0  1 0 0  2 0 0", "0 0 0  2 0 0  4 0 0", "0 0 0  3 0 0  6 0 0", "0 0 0  4 0 0  8 0 0"} {
		wide := search("0 0 0 2 1 0")
		for wide.Skip = range 4 {
			wantInside(t, wide.Skip >= skip, tower(9), wide, l, "0 1  1 2")
		}
	}
	// The points that are not of the segments count, too; so do the detector and the search.
	wantInside(t, false, d, q, l+" 3 0 0", "0 1  1 2")
	wantInside(t, false, d, q, l+" 2 0 4294967297", "0 1  1 2")
	for _, bad := range poor() {
		wantInside(t, false, bad, q, l, "0 1  1 2")
	}
	for _, bad := range badSearches() {
		wantInside(t, false, d, bad, l, "0 1  1 2")
	}
	wantInside(t, false, d, q, "", "0 1  1 2")
	wantSame(t, pattern.Inside(d, q, slices.Repeat(points(l), 129), api.Segment{A: 0, B: 1}, api.Segment{A: 1, B: 2}), false)
}

// TestKink is P6.5: a bend that is just Kink, and one above, in x and in y.
func TestKink(t *testing.T) {
	q := search("0 1048576 0 2 1 0")
	for _, x := range []struct{ kink, to int }{{102, 1}, {204, 2}, {307, 3}, {1024, 10}, {0, 0}, {102400, 1000}} {
		for q.Kink = range []int{x.kink - 1, x.kink, x.kink + 1} {
			q.Kink += x.kink - 1
			if q.Kink < 0 {
				continue
			}
			want := q.Kink >= x.kink
			for _, form := range []string{"0 0 0  1 5 7  2 %d 14", "0 5 7  1 0 7  2 %d 7"} {
				base := 10
				if form[2] == '5' {
					base = -5
				}
				wantInside(t, want, plain(), q, fmt.Sprintf(form, base+x.to), "0 1  1 2")
				wantInside(t, want, plain(), q, fmt.Sprintf(form, base-x.to), "0 1  1 2")
			}
			wantInside(t, want, plain(), q, fmt.Sprintf("0 0 0  1 0 5  2 0 %d", 10+x.to), "0 1  1 2")
			wantInside(t, want, plain(), q, fmt.Sprintf("0 0 0  1 0 5  2 0 %d", 10-x.to), "0 1  1 2")
			wantInside(t, want, plain(), q, fmt.Sprintf("0 0 0  1 0 5  2 %d %d", -x.to, 10-x.to), "0 1  1 2")
		}
	}
	// A face with more than 4096 segments.
	q.Kink = 0
	wantSame(t, pattern.Inside(plain(), q, append(grid(0, 64, 65), grid(2, 9, 0)...), api.Segment{A: 63, B: 128}, api.Segment{A: 128, B: 129}), true)
	wantSame(t, pattern.Inside(plain(), q, append(grid(0, 64, 65), grid(2, 9, 0)...), api.Segment{A: 63, B: 128}, api.Segment{A: 128, B: 127}), false)
}

// TestSegmentsAny holds segments, bends and what is inside of what against the chapter's words.
func TestSegmentsAny(t *testing.T) {
	s := newSource()
	var pairs, inside, bent int
	for range 300 {
		d := s.detector()
		v := scene{d, s.search(), s.points(d, 20)}
		var all []api.Segment
		for face := range 6 {
			l := v.segments(face)
			wanted(t, l)(pattern.Segments(d, v.q, v.l, face))
			all = append(all, l...)
		}
		pairs += len(all)
		for _, f := range all {
			for _, g := range all {
				want := v.isInside(f, g)
				wantSame(t, pattern.Inside(d, v.q, v.l, f, g), want, v, f, g)
				inside += ones(want)
			}
		}
		for range 250 {
			f, g := s.segment(all, len(v.l)), s.segment(all, len(v.l))
			want := slices.Contains(all, f) && slices.Contains(all, g) && v.isInside(f, g)
			wantSame(t, pattern.Inside(d, v.q, v.l, f, g), want, v, f, g)
			bent += wantAnyBends(t, v, s.Intn(max(len(v.l), 1)), s.Intn(max(len(v.l), 1)), s.Intn(max(len(v.l), 1)))
		}
	}
	if pairs < 1000 || inside < 300 || bent < 300 {
		t.Error("few", pairs, inside, bent)
	}
}

func ones(b bool) int {
	if b {
		return 1
	}
	return 0
}

// segment returns one of some segments, or any pair of n points, and of numbers beside them.
func (s source) segment(l []api.Segment, n int) api.Segment {
	if len(l) == 0 || s.Intn(5) == 0 {
		return api.Segment{A: s.from(-1, n), B: s.from(-1, n)}
	}
	return l[s.Intn(len(l))]
}

// wantAnyBends checks the bends of three of the points, and counts those that there are.
func wantAnyBends(t *testing.T, v scene, a, b, c int) int {
	t.Helper()
	if len(v.l) == 0 {
		return 0
	}
	isRow := func(a, b int) bool {
		return v.plane(a).Face == v.plane(b).Face && v.plane(a).Depth < v.plane(b).Depth
	}
	if !isRow(a, b) || !isRow(b, c) {
		noBends(t, v.d, v.l[a], v.l[b], v.l[c])
		return 0
	}
	x, y := v.bends(a, b, c)
	wantBends(t, v.d, v.l[a], v.l[b], v.l[c], x, y)
	return 1
}
