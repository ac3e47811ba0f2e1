package track_test

import (
	"testing"

	"hodoscope/api"
	"hodoscope/track"
)

// wantFilters holds both filters against the sums of squares that the hits on each side have.
func wantFilters(t *testing.T, l []api.Site, of ...any) {
	t.Helper()
	before, e := track.Forward(l)
	wantOK(t, e, of...)
	behind, e := track.Backward(l)
	wantOK(t, e, of...)
	wantNumbers(t, []int{len(before), len(behind)}, []int{len(l), len(l)}, of...)
	for i := range l {
		wantInfo(t, before[i], plainInfo(l, i, func(j int) bool { return j <= i }), of, "forward", i)
		wantInfo(t, behind[i], plainInfo(l, i, func(j int) bool { return j > i }), of, "backward", i)
	}
}

func TestFilters(t *testing.T) {
	s := newSource()
	for range 60 {
		l := s.few()
		wantFilters(t, l, l)
	}
	for name, x := range goodSites() {
		// Before and behind a site at either end of the depths there is no other one.
		l := []api.Site{x}
		if x.Depth > 3 {
			l = append(straight(4), l...)
		}
		if x.Depth < 1<<20 {
			l = append(l, hit(x.Depth+2, 9, 9), hit(1<<20, 7, -5))
		}
		wantFilters(t, l, name)
	}
}

// TestFiltersPlainly has filters whose informations can be written down.
func TestFiltersPlainly(t *testing.T) {
	one := hit(3, 5, 7)
	one.VX, one.VY = 2, 4
	blank := api.Info{N: diagonal(5, "0"), R: column("0 0 0 0 0"), C: ratio("0")}
	seen := api.Info{
		N:     matrix("1/2 3/2 9/2 0 0, 3/2 9/2 27/2 0 0, 9/2 27/2 81/2 0 0, 0 0 0 1/4 3/4, 0 0 0 3/4 9/4"),
		R:     column("5/2 15/2 45/2 7/4 21/4"),
		C:     ratio("99/4"),
		Count: 2,
	}
	ok := first[[]api.Info](t)
	check := func(got []api.Info, want ...api.Info) {
		t.Helper()
		wantNumbers(t, []int{len(got)}, []int{len(want)})
		for i := range got {
			wantInfo(t, got[i], want[i], i)
		}
	}
	check(ok(track.Forward(nil)))
	check(ok(track.Backward(nil)))
	check(ok(track.Forward([]api.Site{one})), seen)
	check(ok(track.Backward([]api.Site{one})), blank)
	// Sites without hits, kicks and losses change nothing; where nothing is known, kicks and losses do not, either.
	gap := func(depth, kick, loss int) api.Site {
		return api.Site{Depth: depth, Bend: depth * depth, Turn: 2 * depth, Kick: kick, Loss: loss, X: -1 << 60, VX: -3}
	}
	l := []api.Site{gap(1, 5, 500), gap(2, 0, 0), one, gap(4, 0, 0), gap(5, 0, 0)}
	check(ok(track.Forward(l)), blank, blank, seen, seen, seen)
	l[0] = gap(1, 0, 0)
	check(ok(track.Backward(l)), seen, seen, blank, blank, blank)
	check(ok(track.Forward(without(l, 2))), blank, blank, blank, blank, blank)
}
