package readout_test

import (
	"slices"
	"testing"

	"hodoscope/api"
	"hodoscope/readout"
)

// pair returns a detector with two chips, 0 0 and 0 1, of two cells each, from 10 on; before, from 5 on, there is 0 0 alone, of one cell.
func pair() api.Detector {
	return laid("plane 0 1 4 4 1 1 0, cable 0 0 0 3 3 1 1 5 10, cable 0 0 0 2 0 2 1 10 1099511627776, cable 0 1 0 0 0 1 2 10 1099511627776")
}

func takes(t *testing.T, b *readout.Builder, want api.Errno, now int, head, l string) {
	t.Helper()
	wantErrno(t, b.Take(frame(head, l), now), want, "Take at", now, head, l)
}

func ticks(t *testing.T, b *readout.Builder, want api.Errno, now int) {
	t.Helper()
	wantErrno(t, b.Tick(now), want, "Tick at", now)
}

func wantOpen(t *testing.T, b *readout.Builder, want string) {
	t.Helper()
	wantSame(t, b.Open(), numbers(want), "Open")
}

func wantEvents(t *testing.T, b *readout.Builder, want ...api.Event) {
	t.Helper()
	wantSame(t, b.Events(), want, "Events")
}

func wantCounts(t *testing.T, b *readout.Builder, unknown, late, stray, twice int) {
	t.Helper()
	wantSame(t, b.Counts(), api.Counts{Unknown: unknown, Late: late, Stray: stray, Twice: twice})
}

// TestNewBuilder is P5.6.
func TestNewBuilder(t *testing.T) {
	for _, x := range [][2]int{{0, 1}, {0, 256}, {1 << 20, 1}, {1 << 20, 256}, {10, 2}} {
		b := newBuilder(t, plain(), x[0], x[1])
		wantEvents(t, b)
		wantOpen(t, b, "")
		wantCounts(t, b, 0, 0, 0, 0)
	}
	refuses := func(d api.Detector, window, most int) {
		t.Helper()
		if b, e := readout.NewBuilder(d, window, most); b != nil || e != api.ErrArg {
			t.Error(window, most, b, e)
		}
	}
	for _, n := range []int{-1, 1<<20 + 1, least, greatest} {
		refuses(plain(), n, 2)
		refuses(plain(), n, 0)
	}
	for _, n := range []int{0, -1, 257, least, greatest} {
		refuses(plain(), 10, n)
	}
	for _, d := range poor() {
		refuses(d, 10, 2)
		refuses(d, -1, 0)
	}
}

// TestTick is P5.6.
func TestTick(t *testing.T) {
	b := newBuilder(t, pair(), 10, 3)
	for _, n := range []int{-1, maxTime + 1, least, greatest} {
		ticks(t, b, api.ErrArg, n)
	}
	ticks(t, b, api.OK, 0)
	ticks(t, b, api.OK, 0)
	ticks(t, b, api.OK, 7)
	ticks(t, b, api.ErrRange, 6)
	ticks(t, b, api.ErrRange, 0)
	ticks(t, b, api.ErrArg, -1) // before ErrRange
	ticks(t, b, api.OK, 7)
	takes(t, b, api.OK, 7, "0 0 1 50", "")
	takes(t, b, api.OK, 8, "0 0 2 50", "")
	ticks(t, b, api.OK, 17) // just the window
	wantOpen(t, b, "1 2")
	wantEvents(t, b)
	ticks(t, b, api.ErrArg, maxTime+1)
	ticks(t, b, api.ErrRange, 16)
	wantOpen(t, b, "1 2")
	ticks(t, b, api.OK, 18)
	wantOpen(t, b, "2")
	wantEvents(t, b, lacking(event("1 50", ""), "0 1"))
	ticks(t, b, api.OK, 18)
	wantOpen(t, b, "2")
	ticks(t, b, api.OK, maxTime)
	wantOpen(t, b, "")
	wantEvents(t, b, lacking(event("2 50", ""), "0 1"))
	ticks(t, b, api.OK, maxTime)
	ticks(t, b, api.ErrRange, maxTime-1)
	takes(t, b, api.OK, maxTime, "0 0 3 50", "")
	wantOpen(t, b, "3")
}

// TestWindows has the least window and the greatest one.
func TestWindows(t *testing.T) {
	for _, window := range []int{0, 1, 1 << 20} {
		for _, opened := range []int{0, 5, maxTime - window - 1} {
			b := newBuilder(t, pair(), window, 3)
			takes(t, b, api.OK, opened, "0 0 1 50", "")
			ticks(t, b, api.OK, opened+window)
			wantOpen(t, b, "1")
			ticks(t, b, api.OK, opened+window+1)
			wantOpen(t, b, "")
		}
	}
	// Another frame of an event does not make its time later, and Take closes what is due as Tick does.
	b := newBuilder(t, rich(), 10, 3)
	takes(t, b, api.OK, 0, "0 1 1 150", "")
	takes(t, b, api.OK, 9, "0 2 1 150", "")
	takes(t, b, api.OK, 10, "3 1 2 150", "")
	wantOpen(t, b, "1 2")
	takes(t, b, api.OK, 11, "3 1 3 150", "")
	wantOpen(t, b, "2 3")
	wantEvents(t, b, lacking(event("1 150", ""), "0 31 1 0 3 1 15 0"))
	// Events that were opened at the same time are closed at the same time; those that were not, one by one.
	for i, open := range []string{"1 2 3 4 5 6", "4 5 6", "6", ""} {
		b := newBuilder(t, pair(), 10, 9)
		for number, now := range []int{1, 1, 1, 2, 2, 3} {
			wantErrno(t, b.Take(api.Frame{Event: number + 1, Time: 50}, now), api.OK)
		}
		ticks(t, b, api.OK, 11+i)
		wantOpen(t, b, open)
		wantSame(t, len(b.Events()), 6-len(numbers(open)))
	}
}

// TestFlush is P5.6.
func TestFlush(t *testing.T) {
	b := newBuilder(t, pair(), 10, 3)
	wantErrno(t, b.Flush(), api.OK)
	takes(t, b, api.OK, 5, "0 1 9 50", "1 4")
	takes(t, b, api.OK, 5, "0 0 2 50", "")
	takes(t, b, api.OK, 6, "0 0 3 50", "0 7")
	wantOpen(t, b, "2 3 9")
	wantErrno(t, b.Flush(), api.OK)
	wantOpen(t, b, "")
	wantErrno(t, b.Flush(), api.OK)
	want := []api.Event{lacking(event("2 50", ""), "0 1"), lacking(event("3 50", "0 2 0 7"), "0 1"), lacking(event("9 50", "0 0 1 4"), "0 0")}
	wantEvents(t, b, want...)
	wantEvents(t, b)
	wantErrno(t, b.Flush(), api.OK)
	wantEvents(t, b)
	ticks(t, b, api.ErrRange, 5) // the time stays as it was
	takes(t, b, api.ErrState, 6, "0 1 2 50", "")
	takes(t, b, api.OK, 6, "0 1 4 50", "")
	wantOpen(t, b, "4")
	wantCounts(t, b, 0, 1, 0, 0)
}

// TestTake is P5.7: an event is closed when its last frame has come, whatever the order.
func TestTake(t *testing.T) {
	whole := richEvent()
	l := plainSpread(rich(), whole)
	for i := range l {
		b := newBuilder(t, rich(), 0, 1)
		turned := append(slices.Clone(l[i:]), l[:i]...)
		for j, f := range turned {
			wantOpen(t, b, []string{"", "7"}[min(j, 1)])
			wantEvents(t, b)
			wantErrno(t, b.Take(f, 0), api.OK)
		}
		wantOpen(t, b, "")
		wantEvents(t, b, whole)
		wantCounts(t, b, 0, 0, 0, 0)
	}
	// Frames that never come: one of them, and all but one of them.
	for i, f := range l {
		b, other := newBuilder(t, rich(), 0, 1), newBuilder(t, rich(), 0, 1)
		without, alone := api.Event{Number: 7, Time: 150}, api.Event{Number: 7, Time: 150}
		for j, g := range l {
			c := api.Chip{Link: g.Link, Slot: g.Slot}
			cells, _ := cableAt(rich(), 150, c)
			has := func(s api.Sample) bool { return slices.Contains(cells, s.Cell) }
			if j == i {
				without.Missing = append(without.Missing, c)
				without.Samples = slices.DeleteFunc(slices.Clone(whole.Samples), has)
				alone.Samples = slices.DeleteFunc(slices.Clone(whole.Samples), func(s api.Sample) bool { return !has(s) })
				continue
			}
			alone.Missing = append(alone.Missing, c)
			wantErrno(t, b.Take(g, 0), api.OK)
		}
		wantErrno(t, b.Flush(), api.OK)
		wantEvents(t, b, without)
		wantErrno(t, other.Take(f, 0), api.OK)
		ticks(t, other, api.OK, 1)
		wantEvents(t, other, alone)
	}
}

// TestTakeErrors is P5.7: what is not counted, and changes nothing.
func TestTakeErrors(t *testing.T) {
	b := newBuilder(t, pair(), 10, 3)
	takes(t, b, api.OK, 5, "0 0 1 50", "")
	for _, f := range append(poorFrames(), unwritable()...) {
		for _, now := range []int{20, 5, 4, -1, maxTime + 1} {
			wantErrno(t, b.Take(f, now), api.ErrArg)
		}
	}
	for _, head := range []string{"0 1 1 50", "9 9 1 50", "0 0 1 50", "0 0 1 51"} {
		for _, now := range []int{-1, maxTime + 1, least, greatest} {
			takes(t, b, api.ErrArg, now, head, "")
		}
		for _, now := range []int{0, 4} {
			takes(t, b, api.ErrRange, now, head, "")
		}
	}
	wantOpen(t, b, "1")
	wantEvents(t, b)
	wantCounts(t, b, 0, 0, 0, 0)
	takes(t, b, api.OK, 5, "0 1 1 50", "")
	wantEvents(t, b, event("1 50", ""))
}

// TestUnknown is P5.7.
func TestUnknown(t *testing.T) {
	b := newBuilder(t, pair(), 10, 3)
	refused := 0
	refuses := func(head, l string) {
		t.Helper()
		takes(t, b, api.ErrNone, 0, head, l)
		refused++
		wantCounts(t, b, refused, 0, 0, 0)
		wantOpen(t, b, "")
		wantEvents(t, b)
	}
	refuses("0 2 1 50", "")
	refuses("1 0 1 50", "")
	refuses("15 31 1 50", "0 1")
	refuses("0 0 1 4", "") // before there is a chip
	refuses("0 1 1 9", "") // before there is this one
	refuses("0 1 1 5", "0 1")
	refuses("0 0 1 1099511627776", "")
	refuses("0 0 1 50", "2 1")
	refuses("0 0 1 50", "0 1 1 1 2 1")
	refuses("0 0 1 50", "4095 4095")
	refuses("0 1 1 10", "0 1 2 1")
	refuses("0 0 1 9", "1 1") // a chip of one address then
	refuses("0 0 1 5", "0 1 1 1")
	takes(t, b, api.OK, 0, "0 0 1 10", "0 1 1 2")
	takes(t, b, api.OK, 0, "0 0 2 9", "0 3")
	wantEvents(t, b, event("2 9", "0 3 3 3"))
	wantCounts(t, b, refused, 0, 0, 0)
	full := newBuilder(t, wide(), 10, 3)
	wantErrno(t, full.Take(api.Frame{Event: 1, Time: 5, L: filled(4096)}, 0), api.OK)
	wantEvents(t, full, api.Event{Number: 1, Time: 5, Samples: samplesOf(filled(4096))})
}

// TestLate is P5.7 and P5.12: an event that was closed stays closed, however that came.
func TestLate(t *testing.T) {
	b := newBuilder(t, pair(), 10, 2)
	takes(t, b, api.OK, 0, "0 0 1 50", "")
	takes(t, b, api.OK, 0, "0 1 1 50", "") // all have come
	takes(t, b, api.ErrState, 0, "0 1 1 50", "")
	takes(t, b, api.OK, 0, "0 0 2 50", "")
	takes(t, b, api.ErrState, 11, "0 1 2 50", "") // closed by this call's own time
	takes(t, b, api.OK, 11, "0 0 3 50", "")
	ticks(t, b, api.OK, 22)
	takes(t, b, api.ErrState, 22, "0 1 3 50", "")
	takes(t, b, api.OK, 22, "0 0 4 50", "")
	wantErrno(t, b.Flush(), api.OK)
	takes(t, b, api.ErrState, 22, "0 1 4 50", "")
	takes(t, b, api.OK, 22, "0 0 7 50", "")
	takes(t, b, api.OK, 22, "0 0 6 50", "")
	takes(t, b, api.OK, 22, "0 0 5 50", "") // 7 is closed
	takes(t, b, api.ErrState, 22, "0 1 7 50", "")
	wantOpen(t, b, "5 6")
	wantCounts(t, b, 0, 5, 0, 0)
	for i, number := range []int{1, 2, 3, 4, 7} {
		for j, time := range []int{50, 5, 9, 51} {
			wantErrno(t, b.Take(api.Frame{Event: number, Time: time}, 22), api.ErrState)
			wantCounts(t, b, 0, 5+4*i+j+1, 0, 0)
		}
	}
	wantSame(t, len(b.Events()), 5)
	takes(t, b, api.ErrState, maxTime, "0 0 1 50", "") // also long after, and after Events
	wantEvents(t, b, lacking(event("5 50", ""), "0 1"), lacking(event("6 50", ""), "0 1"))
}

// TestStrayAndTwice is P5.7.
func TestStrayAndTwice(t *testing.T) {
	b := newBuilder(t, pair(), 10, 3)
	takes(t, b, api.OK, 0, "0 0 1 50", "0 4")
	takes(t, b, api.ErrForm, 0, "0 1 1 51", "")
	takes(t, b, api.ErrForm, 0, "0 1 1 49", "0 1")
	takes(t, b, api.ErrForm, 0, "0 0 1 9", "")
	wantCounts(t, b, 0, 0, 3, 0)
	takes(t, b, api.ErrThere, 0, "0 0 1 50", "0 4")
	takes(t, b, api.ErrThere, 0, "0 0 1 50", "")
	takes(t, b, api.ErrThere, 0, "0 0 1 50", "1 9")
	wantCounts(t, b, 0, 0, 3, 3)
	takes(t, b, api.OK, 0, "0 0 2 51", "1 3") // the chip of another event
	takes(t, b, api.OK, 0, "0 1 1 50", "1 5")
	wantEvents(t, b, event("1 50", "0 0 1 5 0 2 0 4"))
	wantOpen(t, b, "2")
	wantCounts(t, b, 0, 0, 3, 3)
}

// TestTwoErrors is P5.7, with two reasons at once, in the chapter's order.
func TestTwoErrors(t *testing.T) {
	b := newBuilder(t, pair(), 10, 3)
	takes(t, b, api.OK, 0, "0 0 1 50", "")
	takes(t, b, api.OK, 0, "0 0 2 9", "") // closed
	takes(t, b, api.ErrNone, 0, "0 1 2 9", "")
	takes(t, b, api.ErrNone, 0, "0 0 2 9", "1 1")
	takes(t, b, api.ErrNone, 0, "0 2 2 50", "")
	wantCounts(t, b, 3, 0, 0, 0) // unknown and late
	takes(t, b, api.ErrNone, 0, "0 0 1 4", "")
	takes(t, b, api.ErrNone, 0, "0 1 1 51", "2 1")
	wantCounts(t, b, 5, 0, 0, 0) // unknown and stray
	takes(t, b, api.ErrNone, 0, "0 0 1 50", "2 1")
	wantCounts(t, b, 6, 0, 0, 0) // unknown and twice
	takes(t, b, api.ErrState, 0, "0 0 2 50", "")
	wantCounts(t, b, 6, 1, 0, 0) // late, with another time
	takes(t, b, api.ErrForm, 0, "0 0 1 51", "")
	wantCounts(t, b, 6, 1, 1, 0) // stray and twice
	takes(t, b, api.ErrNone, 0, "0 0 1 9", "1 1")
	wantCounts(t, b, 7, 1, 1, 0) // unknown, stray and twice
	wantOpen(t, b, "1")
	wantEvents(t, b, event("2 9", ""))
}

// TestRefusedTicks finds that a frame that is counted has its time, though it is not taken.
func TestRefusedTicks(t *testing.T) {
	for _, x := range []struct {
		head string
		e    api.Errno
	}{{"9 9 1 50", api.ErrNone}, {"0 1 1 50", api.ErrState}, {"0 0 2 51", api.ErrForm}, {"0 0 2 50", api.ErrThere}} {
		b := newBuilder(t, pair(), 10, 3)
		takes(t, b, api.OK, 0, "0 0 1 50", "")
		takes(t, b, api.OK, 5, "0 0 2 50", "")
		takes(t, b, x.e, 11, x.head, "")
		wantOpen(t, b, "2")
		wantEvents(t, b, lacking(event("1 50", ""), "0 1"))
		ticks(t, b, api.ErrRange, 10)
	}
}

// TestMost is P5.7: the event that was opened first is closed when one more is opened than may be open.
func TestMost(t *testing.T) {
	b := newBuilder(t, pair(), 10, 3)
	for _, head := range []string{"0 0 9 50", "0 0 3 50", "0 0 5 50"} {
		takes(t, b, api.OK, 0, head, "")
	}
	takes(t, b, api.ErrNone, 0, "0 2 4 50", "") // what is not taken opens nothing
	takes(t, b, api.ErrForm, 0, "0 1 5 51", "")
	takes(t, b, api.ErrThere, 0, "0 0 5 50", "")
	wantOpen(t, b, "3 5 9")
	takes(t, b, api.OK, 0, "0 0 4 50", "")
	wantOpen(t, b, "3 4 5")
	takes(t, b, api.OK, 0, "0 1 3 50", "") // all have come: now there is room
	wantOpen(t, b, "4 5")
	takes(t, b, api.OK, 0, "0 0 1 50", "")
	wantOpen(t, b, "1 4 5")
	takes(t, b, api.OK, 0, "0 0 2 50", "")
	wantOpen(t, b, "1 2 4")
	takes(t, b, api.OK, 0, "0 0 6 9", "0 3") // whole at once, but opened
	wantOpen(t, b, "1 2")
	wantEvents(t, b, event("3 50", ""), lacking(event("4 50", ""), "0 1"), lacking(event("5 50", ""), "0 1"), event("6 9", "0 3 3 3"), lacking(event("9 50", ""), "0 1"))
	for _, most := range []int{1, 2, 256} {
		b := newBuilder(t, pair(), 10, most)
		for i := range 3 * most {
			wantErrno(t, b.Take(api.Frame{Event: 999 - i, Time: 50}, 0), api.OK)
			wantSame(t, len(b.Open()), min(i+1, most))
			if l := b.Events(); i < most && len(l) > 0 || i >= most && !same(l, []api.Event{lacking(api.Event{Number: 999 - i + most, Time: 50}, "0 1")}) {
				t.Error(most, i, l)
			}
		}
	}
}

// TestEvents is P5.8.
func TestEvents(t *testing.T) {
	b := newBuilder(t, plain(), 10, 3)
	for _, head := range []string{"2 5 4294967295 150", "2 5 0 199", "2 5 7 100", "2 5 6 150"} {
		takes(t, b, api.OK, 0, head, "0 1 5 2")
	}
	l := "0 1 0 1 0 3 1 2"
	wantEvents(t, b, event("0 199", l), event("6 150", l), event("7 100", l), event("4294967295 150", l))
	wantEvents(t, b)
	takes(t, b, api.OK, 0, "2 5 1 150", "")
	wantEvents(t, b, event("1 150", ""))
	wantEvents(t, b)
	wantOpen(t, b, "")
}
