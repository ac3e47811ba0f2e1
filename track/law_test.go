package track_test

import (
	"math/big"
	"slices"
	"testing"

	"hodoscope/api"
	"hodoscope/linear"
	"hodoscope/track"
)

// What follows from the promises, by calls of the package only (P7.9).

// wantLeast checks that Fit and Kinks have the least sum of squares, and what follows for the tracks of Smooth.
func wantLeast(t *testing.T, s source, l []api.Site) {
	t.Helper()
	tracks, e := track.Smooth(l)
	wantOK(t, e, l)
	kicks, e := track.Kinks(l)
	wantOK(t, e, l)
	fit, e := track.Fit(l)
	wantOK(t, e, l)
	wantTrack(t, fit, tracks[0])
	sum, e := track.Sum(l, fit.P, kicks)
	wantOK(t, e, l)
	wantRatio(t, sum, fit.Chi, l)
	for i, x := range tracks {
		wantRatio(t, x.Chi, fit.Chi, l, i)
		wantNumbers(t, []int{x.Free}, []int{fit.Free}, l, i)
	}
	before, e := track.Forward(l)
	wantOK(t, e, l)
	p, cov, chi, e := linear.Estimate(before[len(l)-1])
	wantOK(t, e, l)
	wantTrack(t, tracks[len(l)-1], api.Track{P: p, Cov: cov, Chi: chi, Free: before[len(l)-1].Count - 5}, l)
	for range 5 {
		off, offKicks := plus(fit.P, s.parameters()), slices.Clone(kicks)
		for i, k := range s.kicks(l) {
			offKicks[i] = ofRat(new(big.Rat).Add(bigRat(kicks[i]), bigRat(k)))
		}
		more, e := track.Sum(l, off, offKicks)
		wantOK(t, e, l)
		if bigRat(more).Cmp(bigRat(fit.Chi)) <= 0 {
			t.Error(l, "not least:", bigRat(fit.Chi), bigRat(more))
		}
	}
}

func TestLeast(t *testing.T) {
	s := newSource()
	for range 40 {
		wantLeast(t, s, s.determined())
	}
}

// TestFoundAgain has points that lie on a track; with a loss of 1000, which doubles k, they are integers.
func TestFoundAgain(t *testing.T) {
	s := newSource()
	for range 60 {
		l := s.sites(3 + s.Intn(4))
		for i := range l {
			l[i].Loss = 1000 * s.Intn(2)
			l[i].Bend, l[i].Turn = s.between(9), s.between(5)
		}
		var p api.Matrix
		p.Rows, p.Cols = 5, 1
		for range 5 {
			p.Cells = append(p.Cells, ofRat(ratOf(s.between(9))))
		}
		none := slices.Repeat(ratios("0"), 2*(len(l)-1))
		positions, e := track.Follow(l, p, none)
		wantOK(t, e)
		for i := range l {
			l[i].X, l[i].Y = whole(positions[2*i]), whole(positions[2*i+1])
		}
		fit, e := track.Fit(l)
		if e == api.ErrSingular {
			continue
		}
		wantOK(t, e)
		wantMatrix(t, fit.P, p, l)
		wantRatio(t, fit.Chi, ratio("0"), l)
		kicks, e := track.Kinks(l)
		wantOK(t, e)
		wantRatios(t, kicks, none, l)
	}
}

// whole returns the integer that r is.
func whole(r api.Ratio) int {
	return int(bigRat(r).Num().Int64())
}

// TestStepByStep does by Predict and Update what Forward does.
func TestStepByStep(t *testing.T) {
	s := newSource()
	steps := 0
	for range 60 {
		l := s.sites(4 + s.Intn(4))
		before, e := track.Forward(l)
		wantOK(t, e)
		var now api.Track
		known := false
		for i, x := range l {
			if known {
				now, e = track.Predict(now, l[i-1])
				wantOK(t, e)
				if x.Hit {
					now, e = track.Update(now, x)
					wantOK(t, e)
				}
				steps++
			}
			p, cov, chi, e := linear.Estimate(before[i])
			if e != api.OK {
				continue
			}
			want := api.Track{P: p, Cov: cov, Chi: chi, Free: before[i].Count - 5}
			if known {
				wantTrack(t, now, want, l, i)
			}
			now, known = want, true
		}
	}
	if steps < 50 {
		t.Error(steps)
	}
}

// TestJoinBothSides joins what the hits up to a site say with what the others do.
func TestJoinBothSides(t *testing.T) {
	s := newSource()
	joined := 0
	for range 40 {
		l := s.sites(6 + s.Intn(3))
		for i := range l {
			l[i].Hit = true
			l[i].VX, l[i].VY = 1, 2
		}
		i := 2 + s.Intn(3)
		before, e := track.Forward(l)
		wantOK(t, e)
		behind, e := track.Backward(l)
		wantOK(t, e)
		estimate := func(f api.Info) (api.Track, bool) {
			p, cov, chi, e := linear.Estimate(f)
			return api.Track{P: p, Cov: cov, Chi: chi, Free: f.Count - 5}, e == api.OK
		}
		a, is := estimate(before[i])
		b, isToo := estimate(behind[i])
		if !is || !isToo {
			continue
		}
		joined++
		got, _, e := track.Join(a, b)
		wantOK(t, e)
		tracks, e := track.Smooth(l)
		wantOK(t, e)
		wantTrack(t, got, tracks[i], l, i)
	}
	if joined < 10 {
		t.Error(joined)
	}
}

// TestRejectEnds says what holds when Reject has ended.
func TestRejectEnds(t *testing.T) {
	s := newSource()
	for range 30 {
		l := s.determined()
		limit, least := s.Intn(5), s.Intn(7)-1
		fit, out, e := track.Reject(l, ofRat(ratOf(limit)), least)
		wantOK(t, e)
		left := without(l, out...)
		want, e := track.Fit(left)
		wantOK(t, e, l, out)
		wantTrack(t, fit, want, l, out)
		if hitsOf(left, always) <= least {
			continue
		}
		for i, x := range left {
			gain, e := track.Gain(left, i)
			if x.Hit && e == api.OK && bigRat(gain).Cmp(ratOf(limit)) > 0 {
				t.Error(l, out, i, bigRat(gain))
			}
		}
	}
}

// TestRoundedPosition has positions that are off by at most what Bits was given.
func TestRoundedPosition(t *testing.T) {
	s := newSource()
	for range 100 {
		x := s.track()
		site := s.site(s.Intn(2000))
		off := big.NewRat(int64(1+s.Intn(9)), int64(1+s.Intn(1000)))
		bits, e := track.Bits(site, ofRat(off))
		wantOK(t, e)
		l, e := track.Round(x, bits)
		wantOK(t, e)
		gotX, gotY, e := track.Value(l, bits, site)
		wantOK(t, e)
		point, _, e := track.At(x, site)
		wantOK(t, e)
		for k, got := range []api.Ratio{gotX, gotY} {
			d := new(big.Rat).Sub(bigRat(got), at(point, k, 0))
			if d.Abs(d).Cmp(off) > 0 {
				t.Error(site, off, bits, k, d)
			}
		}
	}
}
