package track_test

import (
	"testing"

	"hodoscope/api"
	"hodoscope/track"
)

// wantFits holds Smooth, Fit and Kinks against the least sum of squares.
func wantFits(t *testing.T, l []api.Site, of ...any) {
	t.Helper()
	want, is := plainSmooth(l)
	if !is {
		wantUndetermined(t, l, of...)
		return
	}
	tracks, e := track.Smooth(l)
	wantOK(t, e, of...)
	wantNumbers(t, []int{len(tracks)}, []int{len(l)}, of...)
	for i := range tracks {
		wantTrack(t, tracks[i], want[i], of, i)
	}
	fit, e := track.Fit(l)
	wantOK(t, e, of...)
	wantTrack(t, fit, want[0], of...)
	kicks, e := track.Kinks(l)
	wantOK(t, e, of...)
	wantRatios(t, kicks, plainKinks(l), of...)
}

func wantUndetermined(t *testing.T, l []api.Site, of ...any) {
	t.Helper()
	tracks, e := track.Smooth(l)
	wantError(t, api.ErrSingular, e, all(tracks), of, "Smooth")
	fit, e := track.Fit(l)
	wantError(t, api.ErrSingular, e, all(fit), of, "Fit")
	kicks, e := track.Kinks(l)
	wantError(t, api.ErrSingular, e, all(kicks), of, "Kinks")
	rest, out, e := track.Reject(l, ratio("0"), 99)
	wantError(t, api.ErrSingular, e, all(rest, out), of, "Reject")
}

func TestFits(t *testing.T) {
	s := newSource()
	for range 60 {
		l := s.few()
		wantFits(t, l, l)
	}
	for range 15 {
		l := s.determined()
		wantFits(t, l, l)
	}
}

func TestFitsAtLimits(t *testing.T) {
	for name, x := range goodSites() {
		l := []api.Site{x}
		if x.Depth > 3 {
			l = append(straight(4), l...)
		}
		if x.Depth < 1<<20 {
			l = append(l, hit(x.Depth+2, 9, 9), hit(x.Depth+7, 1, 0), hit(1<<20, 7, -5))
		}
		wantFits(t, l, name)
	}
	far := []api.Site{
		{Depth: 0, Bend: 1 << 44, Turn: -1 << 44, Kick: 1 << 44, Loss: 1000, Hit: true, X: 1 << 44, Y: -1 << 44, VX: 1 << 44, VY: 1},
		{Depth: 1, Bend: -1 << 44, Turn: 1 << 44, Kick: 1, Loss: 999, Hit: true, X: -1 << 44, Y: 1 << 44, VX: 1, VY: 1 << 44},
		{Depth: 1<<20 - 1, Bend: 1 << 44, Turn: 1 << 44, Kick: 1<<44 - 1, Loss: 1, Hit: true, X: 1<<44 - 1, Y: 1 - 1<<44, VX: 1<<44 - 1, VY: 2},
		{Depth: 1 << 20, Bend: 0, Turn: 1 << 44, Kick: 1 << 44, Loss: 1000, Hit: true, X: 1 << 44, Y: 1 << 44, VX: 3, VY: 1<<44 - 3},
	}
	wantFits(t, far, "far")
}

// TestDetermined has lists that are just determined, and just not.
func TestDetermined(t *testing.T) {
	gap := api.Site{Depth: 50}
	flat := func(s *api.Site) { s.Bend = 0 }
	line := func(s *api.Site) { s.Bend = 7 - 3*s.Depth }
	for _, x := range []struct {
		name string
		l    []api.Site
		is   bool
	}{
		{"no sites", nil, false},
		{"no hits", []api.Site{gap}, false},
		{"one hit", straight(1), false},
		{"two hits", straight(2), false},
		{"three hits", straight(3), true},
		{"three hits and a gap", append(straight(3), gap), true},
		{"two hits and a gap", append(straight(2), gap), false},
		{"a gap between", without(straight(4), 1), true},
		{"two gaps between", without(straight(4), 1, 2), false},
		{"a gap at first", without(straight(4), 0), true},
		{"three bends of a line", with(with(with(straight(3), 0, line), 1, line), 2, line), false},
		{"four bends of a line", with(with(with(with(straight(4), 0, line), 1, line), 2, line), 3, line), false},
		{"one bend beside a line", with(with(with(straight(4), 0, line), 1, line), 2, line), true},
		{"no bend", with(with(straight(3), 1, flat), 2, flat), false},
		{"one bend", with(with(with(straight(4), 1, flat), 2, flat), 3, flat), false},
		{"the least bend", with(with(with(straight(3), 1, flat), 2, flat), 2, func(s *api.Site) { s.Bend = 1 }), true},
		// A loss changes k, and with it the slope: even a straight line of bends determines k then.
		{"a loss between", with(with(with(straight(3), 1, line), 2, line), 0, func(s *api.Site) { s.Bend, s.Turn = 7, -3 }), false},
		{"a turn with a loss", with(with(with(straight(3), 1, line), 2, line), 0, func(s *api.Site) { s.Bend, s.Turn, s.Loss = 7, 5, 1 }), false},
		{"a turn with a loss between", with(with(with(straight(3), 0, line), 2, line), 1, func(s *api.Site) { s.Bend, s.Turn, s.Loss = 4, 5, 1 }), true},
		// Kicks are held by their variance, so they take no hits.
		{"kicks", with(with(straight(3), 0, func(s *api.Site) { s.Kick = 1 << 44 }), 1, func(s *api.Site) { s.Kick = 1 }), true},
		{"kicks of two hits", with(with(straight(2), 0, func(s *api.Site) { s.Kick = 1 << 44 }), 1, func(s *api.Site) { s.Kick = 1 }), false},
	} {
		if _, is := plainSmooth(x.l); x.l != nil && is != x.is {
			t.Fatal(x.name, is)
		}
		if !x.is {
			wantUndetermined(t, x.l, x.name)
			continue
		}
		wantFits(t, x.l, x.name)
	}
}

// TestManySites has as many sites as there may be.
func TestManySites(t *testing.T) {
	s := newSource()
	var l []api.Site
	for d := range 64 {
		x := hit(16*d, s.between(1000), s.between(1000))
		x.VX, x.VY = 1+s.Intn(3), 1+s.Intn(3)
		l = append(l, x)
	}
	want, _ := plainTrack(l, 0)
	fit, e := track.Fit(l)
	wantOK(t, e)
	wantTrack(t, fit, want)
	kicks, e := track.Kinks(l)
	wantOK(t, e)
	wantRatios(t, kicks, make([]api.Ratio, 126))
	for i := range l {
		l[i].Kick, l[i].Loss, l[i].Hit = s.Intn(3), s.Intn(2), s.Intn(5) > 0
	}
	wantLeast(t, s, l)
}
