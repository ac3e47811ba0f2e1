package track_test

import (
	"slices"
	"strings"
	"testing"

	"hodoscope/api"
	"hodoscope/track"
)

func TestFollow(t *testing.T) {
	s := newSource()
	ok := first[[]api.Ratio](t)
	for range 60 {
		l := s.few()
		p, kicks := s.parameters(), s.numbers(2*max(len(l)-1, 0))
		want := plainFollow(l, p, kicks)
		wantRatios(t, ok(track.Follow(l, p, kicks)), want, l)
		wantRatios(t, ok(track.Follow(l, looseMatrix(p), looseRatios(kicks))), want, l)
	}
	// Hits make no difference, and neither do the kick and the loss of the last site.
	l := []api.Site{{Depth: 1, Bend: 2, Turn: 3, Kick: 0, Loss: 500}, {Depth: 4, Bend: 5, Turn: -6, Kick: 7, Loss: 0}, hit(9, 1, 1)}
	p, kicks := column("1 2 1 1 5"), ratios("1/2 2 -1 3")
	want := ratios("5 6 25/2 27 253/2 77")
	for range 2 {
		wantRatios(t, ok(track.Follow(l, p, kicks)), want)
		l[0].Hit, l[0].VX, l[0].VY, l[2].Hit, l[2].Kick, l[2].Loss = true, 1, 1, false, 8, 999
	}
	wantRatios(t, ok(track.Follow(nil, p, nil)), nil)
	wantRatios(t, ok(track.Follow([]api.Site{}, p, []api.Ratio{})), nil)
	wantRatios(t, ok(track.Follow(l[:1], p, nil)), want[:2])
}

// following is what Follow and Sum take beside a list.
type following struct {
	p     api.Matrix
	kicks []api.Ratio
}

// badFollowings are not valid for three sites, each for one reason.
func badFollowings() map[string]following {
	p, kicks := column("1 2 1 1 5"), ratios("0 0 0 0")
	bad := map[string]following{
		"no kicks": {p, nil}, "two kicks": {p, kicks[:2]}, "three kicks": {p, kicks[:3]}, "five kicks": {p, ratios("0 0 0 0 0")}, "six kicks": {p, ratios("0 0 0 0 0 0")},
	}
	for reason, x := range badTracks() {
		if strings.HasPrefix(reason, "P") {
			bad[reason] = following{x.P, kicks}
		}
	}
	return bad
}

func TestFollowErrors(t *testing.T) {
	for reason, b := range badFollowings() {
		got, e := track.Follow(straight(3), b.p, b.kicks)
		wantError(t, api.ErrArg, e, all(got), reason)
		sum, e := track.Sum(straight(3), b.p, b.kicks)
		wantError(t, api.ErrArg, e, all(sum), reason)
	}
	for n, kicks := range map[int]string{0: "0 0", 1: "0 0"} {
		got, e := track.Follow(straight(n), column("1 2 1 1 5"), ratios(kicks))
		wantError(t, api.ErrArg, e, all(got), n)
		sum, e := track.Sum(straight(n), column("1 2 1 1 5"), ratios(kicks))
		wantError(t, api.ErrArg, e, all(sum), n)
	}
}

func TestSum(t *testing.T) {
	s := newSource()
	ok := first[api.Ratio](t)
	for range 60 {
		l := s.few()
		p, kicks := s.parameters(), s.kicks(l)
		want := plainSum(l, p, kicks)
		wantRatio(t, ok(track.Sum(l, p, kicks)), want, l)
		wantRatio(t, ok(track.Sum(l, looseMatrix(p), looseRatios(kicks))), want, l)
	}
	p := column("1 0 0 0 0")
	wantRatio(t, ok(track.Sum(nil, p, nil)), ratio("0"))
	wantRatio(t, ok(track.Sum([]api.Site{{}}, p, nil)), ratio("0"))
	l := []api.Site{{Depth: 1, Hit: true, X: 4, Y: -1, VX: 3, VY: 4}}
	wantRatio(t, ok(track.Sum(l, p, nil)), ratio("13/4"))
	for name, x := range goodSites() {
		wantRatio(t, ok(track.Sum([]api.Site{x}, p, nil)), plainSum([]api.Site{x}, p, nil), name)
	}
}

// TestSumKicks has kicks of sites whose Kick is 0, and of others.
func TestSumKicks(t *testing.T) {
	p := column("0 0 0 0 0")
	l := []api.Site{{Depth: 1, Kick: 2}, {Depth: 2}, {Depth: 3, Kick: 3}, {Depth: 4, Kick: 5}}
	for _, x := range []struct {
		kicks, sum string
		e          api.Errno
	}{
		{"0 0 0 0 0 0", "0", api.OK},
		{"1 3 0 0 0 0", "5", api.OK},
		{"0 0 0 0 1 -1", "2/3", api.OK},
		{"1/2 0 0 0 2 0", "35/24", api.OK},
		{"0 0 1 0 0 0", "", api.ErrArg},
		{"0 0 0 -1/1000 0 0", "", api.ErrArg},
		{"1 1 0 1 1 1", "", api.ErrArg},
	} {
		kicks := ratios(x.kicks)
		sum, e := track.Sum(l, p, kicks)
		if x.e == api.OK {
			wantOK(t, e, x.kicks)
			wantRatio(t, sum, ratio(x.sum), x.kicks)
			sum, e = track.Sum(l, p, looseRatios(kicks))
			wantOK(t, e, x.kicks)
			wantRatio(t, sum, ratio(x.sum), x.kicks)
		} else {
			wantError(t, x.e, e, all(sum), x.kicks)
		}
		// Follow takes any kicks.
		positions, e := track.Follow(l, p, kicks)
		wantOK(t, e, x.kicks)
		wantRatios(t, positions, plainFollow(l, p, kicks), x.kicks)
	}
	// The last site's Kick has no kicks, whatever it is.
	for _, kick := range []int{0, 1 << 44} {
		m := with(slices.Clone(l), 3, func(s *api.Site) { s.Kick = kick })
		sum, e := track.Sum(m, p, ratios("1 3 0 0 0 0"))
		wantOK(t, e)
		wantRatio(t, sum, ratio("5"))
	}
}
