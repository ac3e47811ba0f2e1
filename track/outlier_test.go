package track_test

import (
	"math"
	"math/big"
	"testing"

	"hodoscope/api"
	"hodoscope/track"
)

// wantGains holds Gain of all indices against the difference of two fits.
func wantGains(t *testing.T, l []api.Site, of ...any) {
	t.Helper()
	for i, s := range l {
		got, e := track.Gain(l, i)
		if !s.Hit {
			wantError(t, api.ErrNone, e, all(got), of, i)
			continue
		}
		want, is := plainGain(l, i)
		if !is {
			wantError(t, api.ErrSingular, e, all(got), of, i)
			continue
		}
		wantOK(t, e, of, i)
		wantRatio(t, got, ofRat(want), of, i)
	}
}

func TestGain(t *testing.T) {
	s := newSource()
	for range 40 {
		l := s.few()
		wantGains(t, l, l)
	}
	for range 10 {
		l := s.determined()
		wantGains(t, l, l)
	}
	wantGains(t, parabola(3), "just determined")
	wantGains(t, parabola(4), "determined without each")
	wantGains(t, without(parabola(4), 1), "a gap")
	wantGains(t, straight(4), "all on the track")
	// The hit of the only site whose bend is not on a line cannot be removed.
	wantGains(t, oneBend(), "one bend")
}

// oneBend returns sites of which the one with index 2 is the only one that tells of k.
func oneBend() []api.Site {
	l := []api.Site{hit(0, 5, 1), hit(1, 0, -3), hit(2, 3, 8), hit(3, 1, 2), hit(4, -4, 0)}
	for i := range l {
		l[i].Bend = 0
	}
	l[2].Bend = 3
	return l
}

func TestGainErrors(t *testing.T) {
	l := without(parabola(5), 1)
	for _, i := range []int{-1, 1, 5, 6, math.MinInt, math.MaxInt} {
		got, e := track.Gain(l, i)
		wantError(t, api.ErrNone, e, all(got), i)
	}
	// A list that is not determined.
	for i, want := range map[int]api.Errno{0: api.ErrSingular, 1: api.ErrNone, 2: api.ErrSingular, 3: api.ErrNone, -1: api.ErrNone} {
		got, e := track.Gain(without(straight(3), 1), i)
		wantError(t, want, e, all(got), i)
	}
	got, e := track.Gain(nil, 0)
	wantError(t, api.ErrNone, e, all(got))
}

// wantReject holds Reject against the chapter's loop.
func wantReject(t *testing.T, l []api.Site, limit *big.Rat, least int) []int {
	t.Helper()
	out := plainReject(l, limit, least)
	want, is := plainTrack(without(l, out...), 0)
	if !is {
		t.Fatal(l, out)
	}
	for _, r := range []api.Ratio{ofRat(limit), looseRatio(ofRat(limit))} {
		fit, got, e := track.Reject(l, r, least)
		wantOK(t, e, l, limit, least)
		wantNumbers(t, got, out, l, limit, least)
		wantTrack(t, fit, want, l, limit, least)
	}
	return out
}

func TestReject(t *testing.T) {
	s := newSource()
	removed := 0
	for range 25 {
		l := s.determined()
		limit := s.number()
		removed += len(wantReject(t, l, limit.Abs(limit), s.Intn(7)-1))
	}
	if removed < 10 {
		t.Error(removed)
	}
}

// TestRejectLimit has limits of 0, of just the greatest gain, and a little less.
func TestRejectLimit(t *testing.T) {
	l := parabola(6)
	l[2].X += 4
	gain, worst := new(big.Rat), -1
	for i := range l {
		if g, is := plainGain(l, i); is && g.Cmp(gain) > 0 {
			gain, worst = g, i
		}
	}
	if out := wantReject(t, l, gain, 0); len(out) != 0 {
		t.Error(out)
	}
	less := new(big.Rat).Sub(gain, rat("1/1000000"))
	if out := wantReject(t, l, less, 0); len(out) == 0 || out[0] != worst {
		t.Error(out, worst)
	}
	if out := wantReject(t, l, new(big.Rat), 0); len(out) == 0 || out[0] != worst {
		t.Error(out, worst)
	}
	// Where all hits are on the track, no gain is above 0.
	if out := wantReject(t, straight(6), new(big.Rat), 0); len(out) != 0 {
		t.Error(out)
	}
	for _, limit := range []string{"-1", "-1/1000000"} {
		fit, out, e := track.Reject(l, ratio(limit), 0)
		wantError(t, api.ErrArg, e, all(fit, out), limit)
		fit, out, e = track.Reject(l, looseRatio(ratio(limit)), 0)
		wantError(t, api.ErrArg, e, all(fit, out), limit)
		fit, out, e = track.Reject(straight(2), ratio(limit), 0)
		wantError(t, api.ErrArg, e, all(fit, out), limit)
		fit, out, e = track.Reject(nil, ratio(limit), 0)
		wantError(t, api.ErrArg, e, all(fit, out), limit)
	}
}

// noisy returns six hits of which each may be removed, until three are left.
func noisy() []api.Site {
	l := straight(6)
	for i := range l {
		l[i].X, l[i].Y = []int{3, -1, 4, 1, -5, 9}[i], []int{2, -7, 1, 8, -2, 8}[i]
	}
	return l
}

// TestRejectLeast has numbers of hits that are left in any case.
func TestRejectLeast(t *testing.T) {
	for least, removed := range map[int]int{math.MinInt: 3, -1: 3, 0: 3, 2: 3, 3: 3, 4: 2, 5: 1, 6: 0, 7: 0, math.MaxInt: 0} {
		if out := wantReject(t, noisy(), new(big.Rat), least); len(out) != removed {
			t.Error(least, out)
		}
		// Sites without a hit do not count.
		gaps := append(noisy(), api.Site{Depth: 50}, api.Site{Depth: 51})
		if out := wantReject(t, gaps, new(big.Rat), least); len(out) != removed {
			t.Error(least, out)
		}
	}
}

// TestRejectEqual has hits with the same gain: the first of them is removed.
func TestRejectEqual(t *testing.T) {
	l := straight(5)
	l[0].Y, l[4].Y = 3, 3
	a, _ := plainGain(l, 0)
	b, _ := plainGain(l, 4)
	c, _ := plainGain(l, 2)
	if a.Cmp(b) != 0 || a.Cmp(c) <= 0 {
		t.Fatal(a, b, c)
	}
	if out := wantReject(t, l, c, 4); len(out) != 1 || out[0] != 0 {
		t.Error(out)
	}
	l[1].Hit, l[3].Hit = false, false
	l = append(l, hit(7, 0, 0))
	wantReject(t, l, new(big.Rat), 0)
}

// TestRejectKept has hits that can't be removed without losing the fit.
func TestRejectKept(t *testing.T) {
	if out := wantReject(t, parabola(3), new(big.Rat), 0); len(out) != 0 {
		t.Error(out)
	}
	if out := wantReject(t, oneBend(), new(big.Rat), 0); len(out) != 2 || out[0] == 2 || out[1] == 2 {
		t.Error(out)
	}
	l := oneBend()
	l[2].Hit = false
	fit, out, e := track.Reject(l, ratio("0"), 0)
	wantError(t, api.ErrSingular, e, all(fit, out))
}
