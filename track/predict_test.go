package track_test

import (
	"math"
	"math/big"
	"testing"

	"hodoscope/api"
	"hodoscope/track"
)

// plainKnown is what a track says, as the chapter has it: Cov⁻¹, Cov⁻¹ P, P' Cov⁻¹ P.
func plainKnown(t api.Track) api.Info {
	n, _ := inverted(t.Cov)
	r := times(n, t.P)
	return api.Info{N: n, R: r, C: times(turned(t.P), r).Cells[0]}
}

// plainBoth is the estimate of the sum of two informations.
func plainBoth(f, g api.Info) api.Track {
	c := new(big.Rat).Add(bigRat(f.C), bigRat(g.C))
	t, _ := plainEstimate(api.Info{N: plus(f.N, g.N), R: plus(f.R, g.R), C: ofRat(c)})
	return t
}

// plainHit is what the hit of a site says.
func plainHit(s api.Site) api.Info {
	h := plainRow(s)
	w := laid(2, 2, func(i, j int) *big.Rat {
		if i != j {
			return new(big.Rat)
		}
		return big.NewRat(1, int64([]int{s.VX, s.VY}[i]))
	})
	y := laid(2, 1, func(i, j int) *big.Rat { return ratOf([]int{s.X, s.Y}[i]) })
	weighted := times(turned(h), w)
	return api.Info{N: times(weighted, h), R: times(weighted, y), C: around(turned(y), w).Cells[0]}
}

func added(l ...api.Ratio) api.Ratio {
	sum := new(big.Rat)
	for _, r := range l {
		sum.Add(sum, bigRat(r))
	}
	return ofRat(sum)
}

func plainUpdate(t api.Track, s api.Site) api.Track {
	u := plainBoth(plainKnown(t), plainHit(s))
	u.Chi, u.Free = added(t.Chi, u.Chi), t.Free+2
	return u
}

func plainPredict(t api.Track, s api.Site) api.Track {
	turn := plainT(s)
	return api.Track{P: times(turn, t.P), Cov: plus(around(turn, t.Cov), plainQ(s)), Chi: t.Chi, Free: t.Free}
}

// wantPredictions holds all functions of a track and a site against what the chapter says.
func wantPredictions(t *testing.T, x api.Track, s api.Site, of ...any) {
	t.Helper()
	for _, given := range []api.Track{x, looseTrack(x)} {
		point, cov, e := track.At(given, s)
		wantOK(t, e, of...)
		wantMatrix(t, point, times(plainRow(s), x.P), of...)
		wantMatrix(t, cov, around(plainRow(s), x.Cov), of...)
		next, e := track.Predict(given, s)
		wantOK(t, e, of...)
		wantTrack(t, next, plainPredict(x, s), of...)
		updated, e := track.Update(given, s)
		if s.Hit {
			wantOK(t, e, of...)
			wantTrack(t, updated, plainUpdate(x, s), of...)
		} else {
			wantError(t, api.ErrNone, e, all(updated), of...)
		}
	}
}

func TestPredictions(t *testing.T) {
	s := newSource()
	for range 30 {
		x, site := s.track(), s.site(s.Intn(100))
		wantPredictions(t, x, site, x, site)
	}
	for name, site := range goodSites() {
		wantPredictions(t, some(), site, name)
	}
	x := some()
	x.Free = math.MaxInt
	x.Chi = ratio("-5/3")
	wantPredictions(t, x, hit(3, 1, 4), "Free wraps around")
}

// trackCalls are the functions of a track; those of a track and a site, where the site is not nil.
func trackCalls() map[string]func(x api.Track, s api.Site) ([]any, api.Errno) {
	return map[string]func(x api.Track, s api.Site) ([]any, api.Errno){
		"At":      func(x api.Track, s api.Site) ([]any, api.Errno) { a, b, e := track.At(x, s); return all(a, b), e },
		"Predict": func(x api.Track, s api.Site) ([]any, api.Errno) { a, e := track.Predict(x, s); return all(a), e },
		"Update":  func(x api.Track, s api.Site) ([]any, api.Errno) { a, e := track.Update(x, s); return all(a), e },
	}
}

func TestPredictionErrors(t *testing.T) {
	gap := hit(3, 1, 4)
	gap.Hit = false
	for name, call := range trackCalls() {
		for reason, x := range badTracks() {
			for _, s := range []api.Site{hit(3, 1, 4), gap, {Depth: -1}} {
				got, e := call(x, s)
				wantError(t, api.ErrArg, e, got, name, reason, s)
			}
		}
		for reason, s := range badSites() {
			got, e := call(some(), s)
			wantError(t, api.ErrRange, e, got, name, reason)
		}
	}
	got, e := track.Update(some(), gap)
	wantError(t, api.ErrNone, e, all(got))
	for reason, x := range badTracks() {
		a, gapOf, e := track.Join(x, some())
		wantError(t, api.ErrArg, e, all(a, gapOf), reason)
		a, gapOf, e = track.Join(some(), x)
		wantError(t, api.ErrArg, e, all(a, gapOf), reason)
		sign, square, e := track.Charge(x)
		wantError(t, api.ErrArg, e, all(sign, square), reason)
	}
}

func TestJoin(t *testing.T) {
	s := newSource()
	for i := range 30 {
		a, b := s.track(), s.track()
		switch i {
		case 0:
			b = a
		case 1:
			a.Free, b.Free = math.MaxInt, math.MaxInt-7
		case 2:
			a.Free, b.Free = math.MinInt, -1
		}
		want := plainBoth(plainKnown(a), plainKnown(b))
		gap := want.Chi
		want.Chi, want.Free = added(a.Chi, b.Chi, gap), a.Free+b.Free+5
		got, gotGap, e := track.Join(a, b)
		wantOK(t, e)
		wantTrack(t, got, want, i)
		wantRatio(t, gotGap, gap, i)
		got, gotGap, e = track.Join(looseTrack(b), looseTrack(a))
		wantOK(t, e)
		wantTrack(t, got, want, i)
		wantRatio(t, gotGap, gap, i)
	}
	// Two estimates of the same parameters have no gap.
	a, b := some(), some()
	b.Cov = diagonal(5, "3")
	_, gap, e := track.Join(a, b)
	wantOK(t, e)
	wantRatio(t, gap, ratio("0"))
	b.P = column("1 1/2 -3 0 5")
	a.Cov = diagonal(5, "1")
	joined, gap, e := track.Join(a, b)
	wantOK(t, e)
	wantRatio(t, gap, ratio("9/4"))
	wantTrack(t, joined, api.Track{P: column("1 1/2 -3 0 11/4"), Cov: diagonal(5, "3/4"), Chi: ratio("37/4"), Free: 23})
}

func TestCharge(t *testing.T) {
	for _, x := range []struct {
		k, square string
		sign      int
	}{
		{"3", "9/4", 1}, {"-3", "9/4", -1}, {"0", "0", 0}, {"1/1000000000000000000000000", "1/4000000000000000000000000000000000000000000000000", 1}, {"-5/7", "25/196", -1},
	} {
		for _, turn := range []func(api.Track) api.Track{func(y api.Track) api.Track { return y }, looseTrack} {
			y := some()
			y.P.Cells[2] = ratio(x.k)
			sign, square, e := track.Charge(turn(y))
			wantOK(t, e, x)
			wantNumbers(t, []int{sign}, []int{x.sign}, x)
			wantRatio(t, square, ratio(x.square), x)
		}
	}
	s := newSource()
	for range 20 {
		x := s.track()
		k := at(x.P, 2, 0)
		sign, square, e := track.Charge(x)
		wantOK(t, e)
		wantNumbers(t, []int{sign}, []int{k.Sign()})
		wantRatio(t, square, ofRat(new(big.Rat).Quo(new(big.Rat).Mul(k, k), at(x.Cov, 2, 2))))
	}
}
