package pattern_test

import (
	"fmt"
	"math/rand"
	"slices"
	"strconv"
	"strings"
	"testing"

	"hodoscope/api"
	"hodoscope/detector"
)

// The tests hold package pattern against what the chapter says, word by word, by the package's exported functions only: see oracle_test.go.

const (
	least    = -1 << 63
	greatest = 1<<63 - 1
)

// extremes are numbers of which sums and products leave an int, and numbers beside ranges that many things have.
func extremes() []int {
	return []int{least, least + 1, -1 << 62, -1 << 40, -1<<32 - 1, -1, 0, 1, 2, 3, 64, 65, 1024, 1 << 20, 1<<30 + 1, 1 << 40, 1 << 62, greatest - 1, greatest}
}

// numbers reads numbers with spaces between them.
func numbers(s string) []int {
	var l []int
	for _, f := range strings.Fields(s) {
		n, e := strconv.Atoi(f)
		if e != nil {
			panic(s)
		}
		l = append(l, n)
	}
	return l
}

// rows reads numbers of which so many belong together.
func rows(s string, n int) [][]int {
	l := slices.Collect(slices.Chunk(numbers(s), n))
	if len(l) > 0 && len(l[len(l)-1]) != n {
		panic(s)
	}
	return l
}

// samples reads Plane, Col, Row and Adc of each sample.
func samples(s string) []api.Sample {
	var l []api.Sample
	for _, x := range rows(s, 4) {
		l = append(l, api.Sample{Cell: api.Cell{Plane: x[0], Col: x[1], Row: x[2]}, Adc: x[3]})
	}
	return l
}

// cluster returns a cluster of these samples.
func cluster(plane, charge int, s string) api.Cluster {
	return api.Cluster{Plane: plane, Charge: charge, Samples: samples(s)}
}

// points reads Plane, X and Y of each point; the variances are 1.
func points(s string) []api.Point {
	var l []api.Point
	for _, x := range rows(s, 3) {
		l = append(l, api.Point{Plane: x[0], X: x[1], Y: x[2], VX: 1, VY: 1})
	}
	return l
}

// search reads Skip, Slope, Kink, Least, Reward and Share.
func search(s string) api.Search {
	x := numbers(s)
	return api.Search{Skip: x[0], Slope: x[1], Kink: x[2], Least: x[3], Reward: x[4], Share: x[5]}
}

// segments reads A and B of each segment.
func segments(s string) []api.Segment {
	var l []api.Segment
	for _, x := range rows(s, 2) {
		l = append(l, api.Segment{A: x[0], B: x[1]})
	}
	return l
}

// candidate returns one of the face 0.
func candidate(weight int, s string) api.Candidate {
	return api.Candidate{Points: numbers(s), Weight: weight}
}

// sharing returns candidates of the weight 1 whose points are written with commas between them.
func sharing(s string) []api.Candidate {
	var l []api.Candidate
	for _, part := range strings.Split(s, ",") {
		l = append(l, candidate(1, part))
	}
	return l
}

// conditions returns a snapshot with a list of a kind: Key and Value of each entry.
func conditions(kind int, s string) api.Snapshot {
	return also(api.Snapshot{Tag: "t"}, kind, s)
}

// also returns a snapshot with one list more.
func also(s api.Snapshot, kind int, l string) api.Snapshot {
	for _, x := range rows(l, 2) {
		s.Kinds[kind] = append(s.Kinds[kind], api.Entry{Key: x[0], Value: x[1]})
	}
	return s
}

// laid returns a detector from the lines of its text behind the first one, which have commas between them.
func laid(lines string) api.Detector {
	text := "detector a\n"
	for _, line := range strings.Split(lines, ",") {
		text += strings.TrimSpace(line) + "\n"
	}
	d, line, e := detector.Parse(text)
	if e != api.OK {
		panic(fmt.Sprint(lines, line, e))
	}
	return d
}

// plain returns the detector of the examples.
func plain() api.Detector {
	return laid("plane 0 10 8 8 5 5 0, plane 0 20 8 8 5 5 0, plane 0 30 8 8 5 5 0")
}

// steady returns the search of the examples.
func steady() api.Search {
	return search("0 2048 1024 3 1000 0")
}

// tower returns a detector with so many planes of the face 0, at the depths 10, 20 and so on.
func tower(planes int) api.Detector {
	var lines []string
	for i := range planes {
		lines = append(lines, fmt.Sprintf("plane 0 %d 64 64 5 5 0", 10*i+10))
	}
	return laid(strings.Join(lines, ","))
}

// rich returns a detector with planes of most faces, in no order: the Stack of the face 0 is 4 2 0 6, that of the face 5 is 7 5.
func rich() api.Detector {
	return laid(`plane 0 300 8 8 5 7 1, plane 6 0 8 8 100 100 0, plane 0 100 4 2 5 7 20, plane 4 50 6 6 10 10 300,
		plane 0 40 5 5 3 4 0, plane 5 99 6 6 2 1 0, plane 0 65536 9 9 4096 4096 0, plane 5 9 3 3 1 1 0`)
}

// poor returns detectors that are not valid.
func poor() []api.Detector {
	named, face, slab, double := plain(), plain(), plain(), plain()
	named.Name = "A"
	face.Planes[0].Face = 7
	slab.Field = []api.Slab{{Face: 0, From: 1, To: 1}}
	double.Planes[1] = double.Planes[0]
	return []api.Detector{{}, {Name: "a"}, named, face, slab, double}
}

// same reports whether two values are equal; nil lists and empty ones are.
func same(a, b any) bool {
	return fmt.Sprintf("%+v", a) == fmt.Sprintf("%+v", b)
}

func wantSame(t *testing.T, got, want any, of ...any) {
	t.Helper()
	if !same(got, want) {
		t.Errorf("%+v: %+v, want %+v", of, got, want)
	}
}

func wantErrno(t *testing.T, got, want api.Errno, of ...any) {
	t.Helper()
	if got != want {
		t.Errorf("%+v: error %d, want %d", of, got, want)
	}
}

// wantRefused checks an error, and that the list that came with it is empty.
func wantRefused[T any](t *testing.T, want api.Errno) func(l []T, e api.Errno) {
	return func(l []T, e api.Errno) {
		t.Helper()
		if e != want || len(l) > 0 {
			t.Errorf("%d, %d elements; want error %d", e, len(l), want)
		}
	}
}

// wanted checks a list that came without an error.
func wanted[T any](t *testing.T, want []T) func(l []T, e api.Errno) {
	return func(l []T, e api.Errno) {
		t.Helper()
		if e != api.OK || !same(l, want) {
			t.Errorf("%+v, error %d; want %+v", l, e, want)
		}
	}
}

// source makes the same values in every run.
type source struct{ *rand.Rand }

func newSource() source {
	return source{rand.New(rand.NewSource(1))}
}

// from returns a number from a to b.
func (s source) from(a, b int) int {
	return a + s.Intn(b-a+1)
}

// one returns one of some numbers.
func (s source) one(l ...int) int {
	return l[s.Intn(len(l))]
}

// detector returns a valid detector with small planes, in no order, most of them of the faces 0 and 5.
func (s source) detector() api.Detector {
	d := api.Detector{Name: "a"}
	for range s.from(1, 9) {
		p := api.Plane{Face: s.one(0, 0, 0, 5, 5, 3, 6), Depth: s.from(1, 12), Cols: s.from(1, 6), Rows: s.from(1, 6), HalfX: s.from(1, 9), HalfY: s.from(1, 9)}
		if p.Face == 6 {
			p.Depth = 0
		}
		changed := d
		changed.Planes = append(slices.Clone(d.Planes), p)
		if _, _, e := detector.Check(changed); e == api.OK {
			d = changed
		}
	}
	return d
}

// samples returns valid samples of a detector.
func (s source) samples(d api.Detector) []api.Sample {
	var l []api.Sample
	rare := s.from(1, 4)
	for plane, p := range d.Planes {
		for col := range p.Cols {
			for row := range p.Rows {
				if s.Intn(rare) == 0 {
					l = append(l, api.Sample{Cell: api.Cell{Plane: plane, Col: col, Row: row}, Adc: s.one(1, 2, 3, s.from(1, 4095), 4095)})
				}
			}
		}
	}
	return l
}

// points returns valid points of a detector that has a plane of a face; places are small, so that points make segments.
func (s source) points(d api.Detector, most int) []api.Point {
	var l []api.Point
	wide := s.one(1, 3, 9)
	for range s.Intn(most + 1) {
		p := api.Point{Plane: s.Intn(len(d.Planes)), X: s.from(-wide, wide), Y: s.from(-1, 1), VX: s.from(1, 9), VY: s.one(1, 1<<30)}
		if d.Planes[p.Plane].Face < 6 {
			l = append(l, p)
		}
	}
	return l
}

func (s source) search() api.Search {
	return api.Search{Skip: s.Intn(4), Slope: s.one(0, 512, 1024, 3000, 1<<20), Kink: s.one(0, 300, 1024, 2000, 1<<20), Least: s.from(2, 4), Reward: s.one(1, 500, 1000, 1<<20), Share: s.from(0, 2)}
}

// snapshot returns one with dead cells, and shifts, of small planes.
func (s source) snapshot(d api.Detector) api.Snapshot {
	v := api.Snapshot{Tag: "t"}
	for _, m := range s.samples(d) {
		if s.Intn(6) == 0 {
			v.Kinds[api.CoDead] = append(v.Kinds[api.CoDead], api.Entry{Key: keyOf(m.Cell), Value: s.one(0, 1, -1)})
		}
	}
	for plane := range d.Planes {
		for _, kind := range []int{api.CoShiftX, api.CoShiftY} {
			if s.Intn(2) == 0 {
				v.Kinds[kind] = append(v.Kinds[kind], api.Entry{Key: plane, Value: s.from(-5, 5)})
			}
		}
	}
	return v
}

// candidates returns so many candidates that share points.
func (s source) candidates(n int) []api.Candidate {
	var l []api.Candidate
	wide := s.from(1, 2*n+2)
	heavy := s.one(1, 3, 1<<40)
	for range n {
		c := api.Candidate{Face: s.Intn(2), Weight: s.from(1, heavy)}
		for range s.Intn(5) {
			c.Points = append(c.Points, s.Intn(wide))
		}
		l = append(l, c)
	}
	return l
}
