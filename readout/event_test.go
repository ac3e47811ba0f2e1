package readout_test

import (
	"slices"
	"testing"

	"hodoscope/api"
	"hodoscope/detector"
	"hodoscope/readout"
)

// richEvent is valid for rich: each chip but 15 0 has samples, and those of 0 1 and 0 2 alternate.
func richEvent() api.Event {
	return event("7 150", "0 0 3 5 0 2 0 1 0 3 3 4095 1 4 0 10 1 4 3 11 1 4 4 12 1 4 7 13 1 5 0 14 1 5 4 15 1 7 7 16 2 0 0 20 2 3 1 21")
}

// TestSpread is P5.4.
func TestSpread(t *testing.T) {
	for _, x := range []struct {
		v    api.Event
		want []api.Frame
	}{
		{richEvent(), []api.Frame{
			frame("0 1 7 150", "0 10 3 11 4 14"), frame("0 2 7 150", "0 12 3 13 4 15 15 16"), frame("0 31 7 150", "3 5"),
			frame("1 0 7 150", "0 1 7 4095"), frame("3 1 7 150", "0 20 7 21"), frame("15 0 7 150", ""),
		}},
		{lacking(event("0 160", "1 4 0 10"), "0 1 9 9"), []api.Frame{
			frame("0 1 0 160", "0 10"), frame("0 31 0 160", ""), frame("1 0 0 160", ""), frame("3 1 0 160", ""), frame("15 0 0 160", ""),
		}},
		{event("4294967295 200", "2 2 1 9"), []api.Frame{frame("0 31 4294967295 200", ""), frame("1 0 4294967295 200", ""), frame("3 1 4294967295 200", "5 9"), frame("15 0 4294967295 200", "")}},
		{event("1 300", "0 0 0 3"), []api.Frame{frame("1 0 1 300", ""), frame("3 1 1 300", "0 3")}},
		{event("1 0", ""), []api.Frame{frame("1 0 1 0", "")}},
		{event("1 1099511627775", "0 2 0 1"), []api.Frame{frame("1 0 1 1099511627775", "0 1")}},
		{event("1 1099511627776", ""), nil}, // no cable is live then
	} {
		if !readout.Valid(rich(), x.v) {
			t.Errorf("%v is valid", x.v)
		}
		wantSame(t, spread(t, rich(), x.v), x.want, x.v)
	}
	wantSame(t, spread(t, plain(), event("7 99", "")), []api.Frame(nil))
	wantSame(t, spread(t, plain(), event("7 100", "0 2 1 4")), []api.Frame{frame("2 5 7 100", "3 4")})
	wantSame(t, spread(t, laid("plane 0 1 1 1 1 1 0"), event("7 99", "")), []api.Frame(nil))
	full := api.Event{Samples: samplesOf(filled(4096))}
	wantSame(t, spread(t, wide(), full), []api.Frame{{L: filled(4096)}})
}

// samplesOf returns the samples of hits of the chip that wide has.
func samplesOf(l []api.Raw) []api.Sample {
	var samples []api.Sample
	for _, h := range l {
		samples = append(samples, api.Sample{Cell: api.Cell{Col: h.Addr / 64, Row: h.Addr % 64}, Adc: h.Adc})
	}
	return samples
}

func refusesEvent(t *testing.T, d api.Detector, v api.Event) {
	t.Helper()
	if readout.Valid(d, v) {
		t.Errorf("%v is not valid", v)
	}
	if l, e := readout.Spread(d, v); e != api.ErrArg || len(l) > 0 {
		t.Errorf("%v: %v %d", v, l, e)
	}
}

// TestPoorEvents is P5.4: each fault alone.
func TestPoorEvents(t *testing.T) {
	for _, d := range poor() {
		refusesEvent(t, d, event("7 150", ""))
		refusesEvent(t, d, event("7 150", "0 1 0 5"))
	}
	for _, n := range []int{-1, least, greatest, maxEvent + 1} {
		refusesEvent(t, rich(), api.Event{Number: n, Time: 150})
	}
	for _, n := range []int{-1, least, greatest, maxTime + 1} {
		refusesEvent(t, rich(), api.Event{Number: 7, Time: n})
	}
	for _, adc := range []int{-1, 0, 4096, least, greatest} {
		v := richEvent()
		v.Samples[5].Adc = adc
		refusesEvent(t, rich(), v)
	}
	for i := range richEvent().Samples {
		double, turned, last := richEvent(), richEvent(), richEvent()
		double.Samples = slices.Insert(double.Samples, i, double.Samples[i])
		refusesEvent(t, rich(), double)
		if i > 0 {
			turned.Samples[i], turned.Samples[i-1] = turned.Samples[i-1], turned.Samples[i]
			refusesEvent(t, rich(), turned)
		}
		last.Samples[i].Adc = 0
		refusesEvent(t, rich(), last)
	}
	for _, l := range []string{
		"0 4 0 1", "0 0 4 1", "0 -1 0 1", "0 0 -1 1", "1 0 0 1", "2 4 0 1", "3 1 0 1", "4 0 0 1", "-1 0 0 1", "63 0 0 1", "64 0 0 1", "0 1024 0 1", "0 0 1024 1", "0 -1 1024 1", "0 1 -1024 1",
		"-9223372036854775808 0 0 1", "9223372036854775807 0 0 1", "0 9223372036854775807 0 1", "0 0 -9223372036854775808 1", "0 9007199254740992 0 1", "17592186044416 0 0 1",
		"0 0 0 5 0 4 0 5", "0 0 0 5 0 0 1 0", "0 3 3 5 1 0 0 5",
	} {
		refusesEvent(t, rich(), event("7 150", l))
	}
	// Cells that are connected at other times.
	refusesEvent(t, rich(), event("7 149", "1 4 0 1"))
	refusesEvent(t, rich(), event("7 170", "1 4 0 1"))
	refusesEvent(t, rich(), event("7 160", "1 4 4 1"))
	refusesEvent(t, rich(), event("7 200", "2 3 0 1"))
	refusesEvent(t, rich(), event("7 1099511627776", "0 2 0 1"))
	refusesEvent(t, plain(), event("7 200", "0 1 0 1"))
	refusesEvent(t, plain(), event("7 99", "0 1 0 1"))
}

// TestEventsAny holds Valid and Spread against the chapter's words.
func TestEventsAny(t *testing.T) {
	s := newSource()
	frames, refused := 0, 0
	for range 300 {
		d := s.detector()
		for range 10 {
			v := s.event(d, s.Intn(1<<32), s.from(0, 15))
			wantSame(t, readout.Valid(d, v), true, v)
			l := plainSpread(d, v)
			wantSame(t, spread(t, d, v), l, v)
			for _, f := range l {
				wantSame(t, readout.Check(f), true, f)
			}
			frames += len(l)
			if len(v.Samples) > 0 {
				x := &v.Samples[s.Intn(len(v.Samples))]
				*s.field(x) += s.from(-1, 1)
				if want := plainValid(d, v); !want {
					refused++
					refusesEvent(t, d, v)
				} else {
					wantSame(t, spread(t, d, v), plainSpread(d, v), v)
				}
			}
		}
	}
	if frames < 1000 || refused < 100 {
		t.Error("few", frames, refused)
	}
}

// field returns one of the numbers of a sample.
func (s source) field(x *api.Sample) *int {
	return []*int{&x.Cell.Plane, &x.Cell.Col, &x.Cell.Row, &x.Adc}[s.Intn(4)]
}

// TestOrderOfCells finds that rich is what the tests need: the order of its chips is not that of their cells.
func TestOrderOfCells(t *testing.T) {
	var l []int
	for _, c := range detector.Chips(rich(), 150) {
		cells, _ := cableAt(rich(), 150, c)
		l = append(l, cells[0].Plane)
	}
	wantSame(t, l, numbers("1 1 0 0 2 3"))
}
