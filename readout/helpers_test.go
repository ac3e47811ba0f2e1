package readout_test

import (
	"fmt"
	"math/rand"
	"slices"
	"strconv"
	"strings"
	"testing"

	"hodoscope/api"
	"hodoscope/detector"
	"hodoscope/readout"
)

// The tests hold package readout against what the chapter says, word by word, by the package's exported functions only: see oracle_test.go.

const (
	least    = -1 << 63
	greatest = 1<<63 - 1
	maxTime  = 1 << 40
	maxEvent = 1<<32 - 1
)

// numbers reads numbers with spaces between them.
func numbers(s string) []int {
	var l []int
	for _, f := range strings.Fields(s) {
		n, e := strconv.Atoi(f)
		if e != nil {
			panic(s)
		}
		l = append(l, n)
	}
	return l
}

// hits reads the Addr and the Adc of each hit.
func hits(s string) []api.Raw {
	var l []api.Raw
	for pair := range slices.Chunk(numbers(s), 2) {
		l = append(l, api.Raw{Addr: pair[0], Adc: pair[1]})
	}
	return l
}

// frame reads Link, Slot, Event and Time of a frame, and its hits.
func frame(head, l string) api.Frame {
	n := numbers(head)
	return api.Frame{Link: n[0], Slot: n[1], Event: n[2], Time: n[3], L: hits(l)}
}

// event reads Number and Time of an event, and Plane, Col, Row and Adc of each of its samples.
func event(head, l string) api.Event {
	n := numbers(head)
	v := api.Event{Number: n[0], Time: n[1]}
	for x := range slices.Chunk(numbers(l), 4) {
		v.Samples = append(v.Samples, api.Sample{Cell: api.Cell{Plane: x[0], Col: x[1], Row: x[2]}, Adc: x[3]})
	}
	return v
}

// chips reads Link and Slot of each chip.
func chips(s string) []api.Chip {
	var l []api.Chip
	for pair := range slices.Chunk(numbers(s), 2) {
		l = append(l, api.Chip{Link: pair[0], Slot: pair[1]})
	}
	return l
}

func lacking(v api.Event, missing string) api.Event {
	v.Missing = chips(missing)
	return v
}

// filled returns so many valid hits.
func filled(n int) []api.Raw {
	var l []api.Raw
	for i := range n {
		l = append(l, api.Raw{Addr: i, Adc: 1 + i%4095})
	}
	return l
}

// laid returns a detector from the lines of its text behind the first one, which have commas between them.
func laid(lines string) api.Detector {
	text := "detector a\n"
	for _, line := range strings.Split(lines, ",") {
		text += strings.TrimSpace(line) + "\n"
	}
	d, line, e := detector.Parse(text)
	if e != api.OK {
		panic(fmt.Sprint(lines, line, e))
	}
	return d
}

// plain returns the detector of the examples.
func plain() api.Detector {
	return laid("plane 0 100 4 2 5 7 1, slab 0 10 20 3, cable 2 5 0 1 0 3 2 100 200")
}

// rich returns a detector whose cables change: at 150 there are the chips 0 1, 0 2, 0 31, 1 0, 3 1 and 15 0, whose order is not that of their cells, and the cells of 0 1 and of 0 2 alternate.
func rich() api.Detector {
	return laid(`plane 0 300 4 4 5 7 1, plane 6 0 8 8 100 100 0, plane 0 100 4 2 5 7 20, plane 4 50 6 6 10 10 300, slab 0 150 250 -7,
		cable 3 1 2 0 0 4 2 100 200, cable 0 31 0 0 0 2 4 100 300, cable 1 0 0 2 0 2 4 0 1099511627776, cable 0 2 1 4 4 4 4 150 160,
		cable 0 1 1 4 0 4 4 150 170, cable 3 1 2 0 0 3 2 200 300, cable 15 0 3 0 0 1 5 50 250, cable 3 1 0 0 0 1 1 300 301`)
}

// wide returns a detector with a chip that has all addresses.
func wide() api.Detector {
	return laid("plane 6 0 64 64 1 1 0, cable 0 0 0 0 0 64 64 0 10")
}

// poor returns detectors that are not valid.
func poor() []api.Detector {
	named, face, slab, double := plain(), plain(), plain(), plain()
	named.Name = "A"
	face.Planes[0].Face = 7
	slab.Field[0].To = slab.Field[0].From
	double.Cables = append(double.Cables, double.Cables[0])
	return []api.Detector{{}, {Name: "a"}, named, face, slab, double}
}

// same reports whether two values are equal; nil lists and empty ones are.
func same(a, b any) bool {
	return fmt.Sprintf("%+v", a) == fmt.Sprintf("%+v", b)
}

func wantSame(t *testing.T, got, want any, of ...any) {
	t.Helper()
	if !same(got, want) {
		t.Errorf("%v: %+v, want %+v", of, got, want)
	}
}

func wantErrno(t *testing.T, got, want api.Errno, of ...any) {
	t.Helper()
	if got != want {
		t.Errorf("%v: error %d, want %d", of, got, want)
	}
}

// packed returns the bytes of a valid frame.
func packed(t *testing.T, f api.Frame) string {
	t.Helper()
	s, e := readout.Pack(f)
	if e != api.OK {
		t.Fatal(f, e)
	}
	return s
}

// spread returns the frames of a valid event.
func spread(t *testing.T, d api.Detector, v api.Event) []api.Frame {
	t.Helper()
	l, e := readout.Spread(d, v)
	if e != api.OK {
		t.Fatal(v, e)
	}
	return l
}

func newLink(t *testing.T, room, credits int) *readout.Link {
	t.Helper()
	l, e := readout.NewLink(room, credits)
	if l == nil || e != api.OK {
		t.Fatal(room, credits, l, e)
	}
	return l
}

func newBuilder(t *testing.T, d api.Detector, window, most int) *readout.Builder {
	t.Helper()
	b, e := readout.NewBuilder(d, window, most)
	if b == nil || e != api.OK {
		t.Fatal(window, most, b, e)
	}
	return b
}

// source makes the same values in every run.
type source struct{ *rand.Rand }

func newSource() source {
	return source{rand.New(rand.NewSource(1))}
}

// from returns a number from a to b.
func (s source) from(a, b int) int {
	return a + s.Intn(b-a+1)
}

// one returns one of some numbers.
func (s source) one(l ...int) int {
	return l[s.Intn(len(l))]
}

// hits returns valid hits.
func (s source) hits() []api.Raw {
	var l []api.Raw
	for addr := s.Intn(600); addr < 4096; addr += 1 + s.Intn(900) {
		l = append(l, api.Raw{Addr: addr, Adc: s.from(1, 4095)})
	}
	return l
}

// frame returns a valid frame.
func (s source) frame() api.Frame {
	f := api.Frame{Link: s.Intn(16), Slot: s.Intn(32), Event: s.one(0, 7, s.Intn(1<<32), maxEvent), Time: s.one(0, 150, s.Intn(1<<40), maxTime)}
	if s.Intn(3) > 0 {
		f.L = s.hits()
	}
	return f
}

// noise returns bytes, many of them those with which a frame begins.
func (s source) noise() string {
	var b []byte
	for range s.Intn(30) {
		b = append(b, "\x5a\xc3\x00\xff\x02\x05"[s.Intn(6)])
	}
	return string(b)
}

// event returns an event that is valid for a detector.
func (s source) event(d api.Detector, number, time int) api.Event {
	v := api.Event{Number: number, Time: time}
	rare := s.from(1, 4)
	for _, c := range cellsAt(d, time) {
		if s.Intn(rare) == 0 {
			v.Samples = append(v.Samples, api.Sample{Cell: c, Adc: s.from(1, 4095)})
		}
	}
	return v
}

// detector returns a valid detector with small planes and cables that change; there are few chips, so that many cables have the same one.
func (s source) detector() api.Detector {
	d := laid("plane 0 9 4 4 2 3 5, plane 6 0 4 4 2 3 0, plane 5 1 3 5 1 1 0")
	for range s.from(5, 40) {
		from := s.from(0, 9)
		c := api.Cable{Link: s.from(0, 2), Slot: s.from(0, 2), Plane: s.Intn(3), Col: s.from(0, 3), Row: s.from(0, 3), Wide: s.from(1, 3), High: s.from(1, 3), From: from, To: from + s.from(1, 5)}
		changed := d
		changed.Cables = append(slices.Clone(d.Cables), c)
		if _, _, e := detector.Check(changed); e == api.OK {
			d = changed
		}
	}
	return d
}
