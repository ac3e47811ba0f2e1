package detector_test

import (
	"math/rand"
	"strconv"
	"strings"
	"testing"

	"hodoscope/api"
)

// The tests hold package detector against what the chapter says, word by word, by the package's exported functions only: see oracle_test.go.

const (
	least    = -1 << 63
	greatest = 1<<63 - 1
)

// extremes are numbers of which sums and products leave an int, and numbers beside ranges that many things have.
func extremes() []int {
	return []int{least, least + 1, -1 << 62, -1 << 40, -1, 0, 1, 2, 1 << 20, 1 << 40, 1 << 62, greatest - 1, greatest}
}

// numbers reads numbers with spaces between them.
func numbers(s string) []int {
	var l []int
	for _, f := range strings.Fields(s) {
		n, e := strconv.Atoi(f)
		if e != nil {
			panic(s)
		}
		l = append(l, n)
	}
	return l
}

func plane(s string) api.Plane {
	n := numbers(s)
	return api.Plane{Face: n[0], Depth: n[1], Cols: n[2], Rows: n[3], HalfX: n[4], HalfY: n[5], Thick: n[6]}
}

func slab(s string) api.Slab {
	n := numbers(s)
	return api.Slab{Face: n[0], From: n[1], To: n[2], B: n[3]}
}

func cable(s string) api.Cable {
	n := numbers(s)
	return api.Cable{Link: n[0], Slot: n[1], Plane: n[2], Col: n[3], Row: n[4], Wide: n[5], High: n[6], From: n[7], To: n[8]}
}

// laid returns the detector a with these parts, which are written as in a text, with commas between them; valid or not.
func laid(parts string) api.Detector {
	d := api.Detector{Name: "a"}
	for _, part := range strings.Split(parts, ",") {
		word, rest, _ := strings.Cut(strings.TrimSpace(part), " ")
		switch word {
		case "plane":
			d.Planes = append(d.Planes, plane(rest))
		case "slab":
			d.Field = append(d.Field, slab(rest))
		case "cable":
			d.Cables = append(d.Cables, cable(rest))
		default:
			panic(parts)
		}
	}
	return d
}

// with returns the numbers of s with another one at an index.
func with(s string, index, n int) string {
	words := strings.Fields(s)
	words[index] = strconv.Itoa(n)
	return strings.Join(words, " ")
}

// The plane, the slab and the cable of the chapter's examples.
const (
	plainPlane = "0 100 4 2 5 7 1"
	plainSlab  = "0 10 20 3"
	plainCable = "2 5 0 1 0 3 2 100 200"
)

// plain returns a valid detector with one of each.
func plain() api.Detector {
	return laid("plane " + plainPlane + ", slab " + plainSlab + ", cable " + plainCable)
}

// rich returns a valid detector with planes of all faces in no order, slabs, and cables that change.
func rich() api.Detector {
	return laid(`plane 0 300 4 4 5 7 1, plane 6 0 8 8 100 100 0, plane 0 100 4 2 5 7 20, plane 4 50 6 6 10 10 300,
		plane 0 200 3 5 6 8 1000, plane 5 50 6 6 10 10 0, plane 1 65536 1 1 1 1 1, plane 2 1 2 3 4 5 6, plane 3 7 3 2 5 4 6,
		slab 0 150 250 -7, slab 0 20 120 1024, slab 4 0 65536 -1024, slab 1 0 1 1, slab 0 250 260 5,
		cable 3 1 2 0 0 4 2 100 200, cable 0 31 0 0 0 2 4 100 300, cable 1 0 0 2 0 2 4 0 1099511627776, cable 0 2 1 4 4 4 4 150 160,
		cable 3 1 2 0 0 4 2 200 300, cable 15 0 4 0 0 1 5 50 250, cable 3 1 0 0 0 1 1 300 301, cable 0 2 1 3 3 5 5 160 170`)
}

// invalid returns detectors that are not valid, for each part of Check.
func invalid() []api.Detector {
	nameless := plain()
	nameless.Name = ""
	return []api.Detector{
		{}, nameless, {Name: "a"},
		laid("plane " + with(plainPlane, 2, 0)),
		laid("plane " + plainPlane + ", plane " + plainPlane),
		laid("plane " + plainPlane + ", slab " + with(plainSlab, 3, 1025)),
		laid("plane " + plainPlane + ", slab " + plainSlab + ", slab " + plainSlab),
		laid("plane " + plainPlane + ", slab " + plainSlab + ", cable " + with(plainCable, 2, 1)),
		laid("plane " + plainPlane + ", cable " + plainCable + ", cable " + plainCable),
	}
}

// filled returns a valid detector of as many planes, slabs and cables as are asked for.
func filled(planes, slabs, cables int) api.Detector {
	d := api.Detector{Name: "filled"}
	for i := range planes {
		d.Planes = append(d.Planes, api.Plane{Face: i % 6, Depth: 1 + i, Cols: 8, Rows: 8, HalfX: 3, HalfY: 4})
	}
	for i := range slabs {
		d.Field = append(d.Field, api.Slab{Face: i % 6, From: i, To: i + 1, B: i})
	}
	for i := range cables {
		d.Cables = append(d.Cables, api.Cable{Link: i / 32 % 16, Slot: i % 32, Plane: i % planes, Col: i / planes % 8, Row: i / planes / 8 % 8, Wide: 1, High: 1, From: i / 512, To: i/512 + 1})
	}
	return d
}

// source makes the same values in every run.
type source struct{ *rand.Rand }

func newSource() source {
	return source{rand.New(rand.NewSource(1))}
}

// from returns a number from a to b.
func (s source) from(a, b int) int {
	return a + s.Intn(b-a+1)
}

// The parts that a source makes are small, so that they often collide; some are not valid.

func (s source) plane() api.Plane {
	p := api.Plane{Face: s.from(0, 6), Depth: s.from(1, 8), Cols: s.from(1, 4), Rows: s.from(1, 4), HalfX: s.from(1, 3), HalfY: s.from(1, 3), Thick: s.from(0, 5)}
	if p.Face == 6 && s.Intn(4) > 0 {
		p.Depth, p.Thick = 0, 0
	}
	return p
}

func (s source) slab() api.Slab {
	from := s.from(0, 9)
	return api.Slab{Face: s.from(0, 5), From: from, To: from + s.from(0, 3), B: s.from(-9, 9)}
}

func (s source) cable(planes int) api.Cable {
	from := s.from(0, 9)
	return api.Cable{Link: s.from(0, 2), Slot: s.from(0, 2), Plane: s.from(0, planes), Col: s.from(0, 3), Row: s.from(0, 3), Wide: s.from(1, 3), High: s.from(1, 3), From: from, To: from + s.from(0, 5)}
}

// valid returns a valid detector: parts are added, and stay where the oracle finds no fault.
func (s source) valid() api.Detector {
	d := laid("plane 0 9 4 4 2 3 5, plane 6 0 4 4 2 3 0")
	keep := func(changed api.Detector) {
		if _, _, e := fault(changed); e == api.OK {
			d = changed
		}
	}
	for range s.Intn(12) {
		changed := d
		changed.Planes = append(d.Planes[:len(d.Planes):len(d.Planes)], s.plane())
		keep(changed)
	}
	for range s.Intn(30) {
		changed := d
		changed.Field = append(d.Field[:len(d.Field):len(d.Field)], s.slab())
		keep(changed)
	}
	for range s.Intn(40) {
		changed := d
		changed.Cables = append(d.Cables[:len(d.Cables):len(d.Cables)], s.cable(len(d.Planes)-1))
		keep(changed)
	}
	return d
}

func wantOK(t *testing.T, e api.Errno, of ...any) {
	t.Helper()
	if e != api.OK {
		t.Fatalf("%v: error %v", of, e)
	}
}
