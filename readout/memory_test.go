package readout_test

import (
	"slices"
	"strings"
	"testing"
	"unsafe"

	"hodoscope/api"
	"hodoscope/readout"
)

// spoil changes a list, with the room behind it.
func spoil[T any](l []T, x T) {
	for i := range l[:cap(l)] {
		l[:cap(l)][i] = x
	}
}

// roomy returns a list with room behind it, in which there is x.
func roomy[T any](l []T, x T) []T {
	l = append(slices.Grow(slices.Clone(l), 9), x, x)
	return l[:len(l)-2]
}

// wantKept checks that a list, and the x that roomy put behind it, are as they were.
func wantKept[T any](t *testing.T, l, want []T, x T) {
	t.Helper()
	wantSame(t, l[:len(l)+2], append(slices.Clone(want), x, x))
}

func spoilFrame(f api.Frame) {
	spoil(f.L, api.Raw{Addr: -9, Adc: -9})
}

func spoilEvent(v api.Event) {
	spoil(v.Samples, api.Sample{Adc: -9})
	spoil(v.Missing, api.Chip{Link: -9})
}

func spoilDetector(d api.Detector) {
	spoil(d.Planes, api.Plane{Face: -9})
	spoil(d.Field, api.Slab{Face: -9})
	spoil(d.Cables, api.Cable{Link: -9})
}

// isPart reports whether a string is memory of another one.
func isPart(whole, part string) bool {
	from, at := uintptr(unsafe.Pointer(unsafe.StringData(whole))), uintptr(unsafe.Pointer(unsafe.StringData(part)))
	return from <= at && at < from+uintptr(len(whole))
}

// TestMeasureMemory is R4.
func TestMeasureMemory(t *testing.T) {
	adc, dead := roomy(numbers("5 9 20 4"), 7), roomy(numbers("2 0"), 7)
	l, _ := readout.Suppress(adc, 1, 1, dead)
	spoil(l, api.Raw{Addr: -9})
	wantKept(t, adc, numbers("5 9 20 4"), 7)
	wantKept(t, dead, numbers("2 0"), 7)
	for _, x := range [][2]string{{"1 2 3", ""}, {"", "1 2 3"}, {"1 2 3", "4"}, {"4", "1 2 3"}, {"4 5 6", "1 2 3"}, {"", ""}} {
		a, b := roomy(numbers(x[0]), 7), roomy(numbers(x[1]), 7)
		sums, _ := readout.Pile(a, b)
		spoil(sums, -9)
		wantKept(t, a, numbers(x[0]), 7)
		wantKept(t, b, numbers(x[1]), 7)
	}
}

// TestFrameMemory is R4.
func TestFrameMemory(t *testing.T) {
	f := frame("2 5 7 150", "1 5 2 6")
	f.L = roomy(f.L, api.Raw{Addr: 9, Adc: 9})
	readout.Check(f)
	whole := packed(t, f)
	wantKept(t, f.L, hits("1 5 2 6"), api.Raw{Addr: 9, Adc: 9})
	spoilFrame(f)
	got, _, _ := readout.Unpack(whole)
	wantSame(t, got, frame("2 5 7 150", "1 5 2 6"))
	l, _ := readout.Scan(whole + "x" + whole)
	spoilFrame(l[0])
	spoilFrame(got)
	wantSame(t, l[1], frame("2 5 7 150", "1 5 2 6"))
}

// TestSpreadMemory is R4; of the frames, none has memory in common with another one.
func TestSpreadMemory(t *testing.T) {
	d, v := rich(), lacking(richEvent(), "0 1")
	d.Cables = roomy(d.Cables, api.Cable{Link: 99})
	v.Samples, v.Missing = roomy(v.Samples, api.Sample{Adc: 99}), roomy(v.Missing, api.Chip{Link: 99})
	readout.Valid(d, v)
	want := plainSpread(rich(), richEvent())
	for i := range want {
		l := spread(t, d, v)
		wantSame(t, l, want)
		spoilFrame(l[i])
		for j := range l {
			if j != i {
				wantSame(t, l[j], want[j])
			}
		}
	}
	wantKept(t, v.Samples, richEvent().Samples, api.Sample{Adc: 99})
	wantKept(t, v.Missing, chips("0 1"), api.Chip{Link: 99})
	wantKept(t, d.Cables, rich().Cables, api.Cable{Link: 99})
	l := spread(t, d, v)
	spoilEvent(v)
	spoilDetector(d)
	wantSame(t, l, want)
}

// TestLinkMemory is R4: a link keeps no string that it was given.
func TestLinkMemory(t *testing.T) {
	l := newLink(t, 9, 9)
	s := strings.Clone("some bytes")
	flips := roomy(numbers("7 -1 7 8"), 5)
	for range 2 {
		wantErrno(t, l.Offer(s), api.OK)
		wantErrno(t, l.Offer(s), api.OK)
		wantSent(t, l, true)
		wantSent(t, l, true, flips...)
		a, _ := l.Take()
		b, _ := l.Take()
		if isPart(s, a) || isPart(s, b) || isPart(a, b) {
			t.Error("a string is memory of an argument, or of another result")
		}
		wantSame(t, []string{a, b}, []string{"some bytes", "s\xefme bytes"})
	}
	wantKept(t, flips, numbers("7 -1 7 8"), 5)
}

// TestBuilderMemory is R4: a builder keeps no argument, and what it returned stays as it was.
func TestBuilderMemory(t *testing.T) {
	d := rich()
	d.Cables = roomy(d.Cables, api.Cable{Link: 99})
	b := newBuilder(t, d, 10, 9)
	wantKept(t, d.Cables, rich().Cables, api.Cable{Link: 99})
	spoilDetector(d)
	want := []api.Event{richEvent(), richEvent(), lacking(richEvent(), "15 0")}
	for i := range want {
		want[i].Number = i
		for _, f := range plainSpread(rich(), want[i])[:6-len(want[i].Missing)] {
			l := slices.Clone(f.L)
			f.L = roomy(f.L, api.Raw{Addr: 99})
			wantErrno(t, b.Take(f, 0), api.OK)
			wantKept(t, f.L, l, api.Raw{Addr: 99})
			spoilFrame(f)
		}
	}
	open := b.Open()
	wantSame(t, open, numbers("2"))
	spoil(open, -9)
	wantOpen(t, b, "2")
	got := b.Events()
	wantSame(t, got, want[:2])
	spoilEvent(got[0])
	wantSame(t, got[1], want[1])
	spoil(got, api.Event{Number: -9})
	wantErrno(t, b.Flush(), api.OK)
	wantEvents(t, b, want[2])
	// Missing and Samples of one event, and what comes later.
	takesAll := func(number int) {
		for _, f := range plainSpread(rich(), event("0 150", "0 0 3 5 0 2 0 1"))[2:4] {
			f.Event = number
			wantErrno(t, b.Take(f, 0), api.OK)
		}
		wantErrno(t, b.Flush(), api.OK)
	}
	takesAll(5)
	first := b.Events()
	takesAll(6)
	second := b.Events()
	spoil(second[0].Missing, api.Chip{Link: -9})
	wantSame(t, first, []api.Event{lacking(event("5 150", "0 0 3 5 0 2 0 1"), "0 1 0 2 3 1 15 0")})
	wantSame(t, second[0].Samples, first[0].Samples)
}

// TestUnmade is R3, of links and builders that no call made: ErrNil comes before all other errors, and what returns none returns zero values.
func TestUnmade(t *testing.T) {
	made := newLink(t, 2, 2)
	wantErrno(t, made.Offer("a"), api.OK)
	double := *made
	for _, l := range []*readout.Link{nil, {}, &double} {
		wantErrno(t, l.Offer("a"), api.ErrNil)
		wantErrno(t, l.Offer(strings.Repeat("a", 20000)), api.ErrNil)
		wantSent(t, l, false)
		wantTaken(t, l, "", false)
		wantWaiting(t, l, 0, 0, 0)
	}
	wantWaiting(t, made, 1, 0, 2)
	wantSent(t, made, true)
	double = *made
	wantTaken(t, &double, "", false)
	wantTaken(t, made, "a", true)
}

func TestUnmadeBuilders(t *testing.T) {
	made := newBuilder(t, pair(), 10, 2)
	takes(t, made, api.OK, 5, "0 0 1 50", "")
	takes(t, made, api.OK, 5, "0 0 2 9", "")
	takes(t, made, api.ErrNone, 5, "9 9 2 9", "")
	double := *made
	for _, b := range []*readout.Builder{nil, {}, &double} {
		takes(t, b, api.ErrNil, 5, "0 1 1 50", "")
		takes(t, b, api.ErrNil, -1, "0 1 1 50", "")
		takes(t, b, api.ErrNil, 5, "99 1 1 50", "")
		takes(t, b, api.ErrNil, 0, "0 1 1 50", "")
		takes(t, b, api.ErrNil, 9, "9 9 1 50", "")
		for _, now := range []int{9, 0, -1} {
			ticks(t, b, api.ErrNil, now)
		}
		wantErrno(t, b.Flush(), api.ErrNil)
		wantEvents(t, b)
		wantOpen(t, b, "")
		wantCounts(t, b, 0, 0, 0, 0)
	}
	wantOpen(t, made, "1")
	wantCounts(t, made, 1, 0, 0, 0)
	wantEvents(t, made, event("2 9", ""))
	takes(t, made, api.OK, 5, "0 1 1 50", "")
}

// TestEmptyLists is R3: nil lists and empty ones are the same.
func TestEmptyLists(t *testing.T) {
	for _, l := range [][]int{nil, {}} {
		got, e := readout.Suppress(l, 1, 1, l)
		wantSame(t, []any{got, e}, []any{[]api.Raw(nil), api.OK})
		sums, e := readout.Pile(l, nil)
		wantSame(t, []any{sums, e}, []any{[]int(nil), api.OK})
	}
	for _, l := range [][]api.Raw{nil, {}} {
		f := api.Frame{Link: 2, Slot: 5, Event: 7, Time: 150, L: l}
		wantSame(t, packed(t, f), packed(t, frame("2 5 7 150", "")))
		wantErrno(t, newBuilder(t, plain(), 1, 1).Take(f, 0), api.OK)
	}
	bare := api.Event{Number: 7, Time: 150, Samples: []api.Sample{}, Missing: []api.Chip{}}
	wantSame(t, spread(t, plain(), bare), []api.Frame{frame("2 5 7 150", "")})
	d := laid("plane 0 1 1 1 1 1 0")
	d.Field, d.Cables = []api.Slab{}, []api.Cable{}
	wantSame(t, spread(t, d, bare), []api.Frame(nil))
	wantErrno(t, newBuilder(t, d, 1, 1).Take(frame("0 0 7 150", ""), 0), api.ErrNone)
}

// TestExtremes is P0.1: every function returns, whatever its numbers are, and errors are those of the oracle.
func TestExtremes(t *testing.T) {
	l := []int{least, least + 1, -1 << 40, -1, 0, 1, 2, 15, 16, 150, 4095, 4096, maxEvent, maxEvent + 1, maxTime, maxTime + 1, greatest - 1, greatest}
	got, want := newBuilder(t, rich(), 10, 2), &plainBuilder{d: rich(), window: 10, most: 2}
	for i, a := range l {
		for j, b := range l {
			c := l[(i+j+5)%len(l)]
			hit := []api.Raw{{Addr: a, Adc: b}}
			for _, f := range []api.Frame{{Link: a, Slot: b, Event: c, Time: a, L: hit}, {Link: 3, Slot: 1, Event: a, Time: 150}, {Link: 1, Event: a, Time: b}, {Link: 1, Event: 9, Time: 150, L: hit}} {
				wantSame(t, readout.Check(f), isFrame(f), f)
				wantErrno(t, got.Take(f, c), want.Take(f, c), f, c)
				wantErrno(t, got.Tick(c), want.Tick(c), c)
			}
			v := api.Event{Number: a, Time: b, Samples: []api.Sample{{Cell: api.Cell{Plane: b, Col: c, Row: a}, Adc: c}}}
			wantSame(t, readout.Valid(rich(), v), plainValid(rich(), v), v)
			measured, e := readout.Suppress([]int{a, 5}, b, c, []int{a, b})
			plain, f := plainSuppress([]int{a, 5}, b, c, []int{a, b})
			wantSame(t, []any{measured, e}, []any{plain, f}, a, b, c)
			readout.Pile([]int{a}, []int{b})
			readout.NewLink(a, b)
			readout.NewBuilder(rich(), a, b)
			readout.Valid(api.Detector{Name: "a", Planes: []api.Plane{{Face: a, Depth: b, Cols: c}}, Cables: []api.Cable{{Link: a, From: b, To: c, Wide: a, High: b}}}, v)
		}
	}
	wantSame(t, got.Counts(), want.Counts())
	wantSame(t, got.Events(), want.Events())
}
