package readout_test

import (
	"slices"
	"testing"

	"hodoscope/api"
	"hodoscope/readout"
)

// TestAnyOrder is P5.11, for events of rich and of other detectors: their frames are taken in any order, at times within the window.
func TestAnyOrder(t *testing.T) {
	s := newSource()
	for range 150 {
		d := s.detector()
		times := numbers("1 2 3 4 5 6 7 8 9 10 11")
		if s.Intn(3) == 0 {
			d, times = rich(), numbers("0 50 100 149 150 159 160 170 200 249 250 299 300 301 1099511627775")
		}
		var want []api.Event
		var frames []api.Frame
		number := s.from(0, 9)
		for range s.from(1, 12) {
			v := s.event(d, number, s.one(times...))
			number += s.from(1, 1<<28)
			if len(chipsAt(d, v.Time)) > 0 {
				want = append(want, v)
				frames = append(frames, spread(t, d, v)...)
			}
		}
		s.Shuffle(len(frames), func(i, j int) { frames[i], frames[j] = frames[j], frames[i] })
		window := s.one(0, 1, 5, 1<<20)
		b := newBuilder(t, d, window, max(len(want), 1))
		begin := s.one(0, 7, maxTime-window)
		now := begin
		for _, f := range frames {
			now = s.from(now, min(now+s.Intn(3), begin+window))
			wantErrno(t, b.Take(f, now), api.OK, f, now)
		}
		wantOpen(t, b, "")
		wantEvents(t, b, want...)
		wantCounts(t, b, 0, 0, 0, 0)
	}
}

// accounts is what P5.12 says of a builder's events: the chips whose frames came, by their events.
type accounts struct {
	came   map[int][]api.Chip
	closed map[int]bool
}

func (a accounts) settle(t *testing.T, d api.Detector, l []api.Event) {
	t.Helper()
	for _, v := range l {
		if a.closed[v.Number] {
			t.Error("closed twice", v)
		}
		a.closed[v.Number] = true
		both := append(slices.Clone(a.came[v.Number]), v.Missing...)
		all := chipsAt(d, v.Time)
		if len(both) != len(all) || len(both) == 0 {
			t.Error(v, a.came[v.Number])
		}
		for _, c := range all {
			if !slices.Contains(both, c) {
				t.Error("neither came nor missing", c, v)
			}
		}
	}
}

// TestBuilderAny holds builders against the chapter's words, whatever comes, and checks P5.12.
func TestBuilderAny(t *testing.T) {
	s := newSource()
	var sum api.Counts
	for range 120 {
		d := s.detector()
		window, most := s.one(0, 1, 3, s.Intn(1<<20)), s.one(1, 2, 3, s.from(1, 256))
		got, want := newBuilder(t, d, window, most), &plainBuilder{d: d, window: window, most: most}
		books := accounts{map[int][]api.Chip{}, map[int]bool{}}
		now := 0
		for step := range 300 {
			now += s.Intn(2) * s.Intn(2) * s.Intn(4)
			switch s.Intn(40) {
			case 0:
				wantErrno(t, got.Flush(), want.Flush())
			case 1:
				l := got.Events()
				wantSame(t, l, want.Events())
				books.settle(t, d, l)
			case 2, 3, 4:
				at := now + s.one(0, 0, 0, -1, -now-1, maxTime)
				wantErrno(t, got.Tick(at), want.Tick(at), at)
				now = want.time
			default:
				f, at := s.arrival(d, step/8), now+s.one(0, 0, 0, 0, 0, 0, 0, -1, -now-1, maxTime+1)
				e := want.Take(f, at)
				wantErrno(t, got.Take(f, at), e, f, at)
				if e == api.OK {
					books.came[f.Event] = append(books.came[f.Event], api.Chip{Link: f.Link, Slot: f.Slot})
				}
			}
			wantSame(t, got.Open(), want.Open())
			wantSame(t, got.Counts(), want.Counts())
		}
		wantErrno(t, got.Flush(), want.Flush())
		l := got.Events()
		wantSame(t, l, want.Events())
		books.settle(t, d, l)
		sum.Unknown += want.counts.Unknown
		sum.Late += want.counts.Late
		sum.Stray += want.counts.Stray
		sum.Twice += want.counts.Twice
	}
	if sum.Unknown < 300 || sum.Late < 300 || sum.Stray < 300 || sum.Twice < 300 {
		t.Error("few", sum)
	}
}

// arrival returns a frame of one of a few events from the first one on, which are, but for some frames, at one time each; some frames are not valid, or unknown.
func (s source) arrival(d api.Detector, first int) api.Frame {
	number := first + s.Intn(6)
	time := 4 + number%5
	if s.Intn(4) == 0 {
		time = s.Intn(15)
	}
	f := api.Frame{Link: s.Intn(3), Slot: s.Intn(3), Event: number, Time: time}
	if l, e := readout.Spread(d, s.event(d, number, time)); e == api.OK && len(l) > 0 && s.Intn(10) > 0 {
		f = l[s.Intn(len(l))]
	}
	switch s.Intn(30) {
	case 0:
		f.L = append(f.L, api.Raw{Addr: s.from(0, 12), Adc: s.from(0, 3)})
	case 1:
		f.Time = s.one(-1, maxTime, maxTime+1)
	}
	return f
}
