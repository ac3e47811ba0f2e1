package track_test

import (
	"math"
	"math/big"
	"testing"

	"hodoscope/api"
	"hodoscope/track"
)

// change is one of a site, by its name.
type change struct {
	name string
	of   func(s *api.Site)
}

// ends are changes to values that are just valid.
func ends() []change {
	return []change{
		{"Depth 0", func(s *api.Site) { s.Depth = 0 }},
		{"Depth MaxFar", func(s *api.Site) { s.Depth = 1 << 20 }},
		{"Bend least", func(s *api.Site) { s.Bend = -1 << 44 }},
		{"Bend most", func(s *api.Site) { s.Bend = 1 << 44 }},
		{"Turn least", func(s *api.Site) { s.Turn = -1 << 44 }},
		{"Turn most", func(s *api.Site) { s.Turn = 1 << 44 }},
		{"Kick 0", func(s *api.Site) { s.Kick = 0 }},
		{"Kick most", func(s *api.Site) { s.Kick = 1 << 44 }},
		{"Loss 0", func(s *api.Site) { s.Loss = 0 }},
		{"Loss most", func(s *api.Site) { s.Loss = 1000 }},
		{"X least", func(s *api.Site) { s.X = -1 << 44 }},
		{"X most", func(s *api.Site) { s.X = 1 << 44 }},
		{"Y least", func(s *api.Site) { s.Y = -1 << 44 }},
		{"Y most", func(s *api.Site) { s.Y = 1 << 44 }},
		{"VX 1", func(s *api.Site) { s.VX = 1 }},
		{"VX most", func(s *api.Site) { s.VX = 1 << 44 }},
		{"VY 1", func(s *api.Site) { s.VY = 1 }},
		{"VY most", func(s *api.Site) { s.VY = 1 << 44 }},
	}
}

// beyondOfMaterial are changes to values that are not valid, with a hit and without.
func beyondOfMaterial() []change {
	return []change{
		{"Depth -1", func(s *api.Site) { s.Depth = -1 }},
		{"Depth beyond", func(s *api.Site) { s.Depth = 1<<20 + 1 }},
		{"Depth far beyond", func(s *api.Site) { s.Depth = math.MaxInt }},
		{"Bend below", func(s *api.Site) { s.Bend = -1<<44 - 1 }},
		{"Bend far below", func(s *api.Site) { s.Bend = math.MinInt }},
		{"Bend beyond", func(s *api.Site) { s.Bend = 1<<44 + 1 }},
		{"Turn below", func(s *api.Site) { s.Turn = -1<<44 - 1 }},
		{"Turn beyond", func(s *api.Site) { s.Turn = 1<<44 + 1 }},
		{"Kick -1", func(s *api.Site) { s.Kick = -1 }},
		{"Kick beyond", func(s *api.Site) { s.Kick = 1<<44 + 1 }},
		{"Loss -1", func(s *api.Site) { s.Loss = -1 }},
		{"Loss beyond", func(s *api.Site) { s.Loss = 1001 }},
	}
}

// beyondOfHits are changes to values that are not valid with a hit, and ignored without one.
func beyondOfHits() []change {
	return []change{
		{"X below", func(s *api.Site) { s.X = -1<<44 - 1 }},
		{"X beyond", func(s *api.Site) { s.X = 1<<44 + 1 }},
		{"Y below", func(s *api.Site) { s.Y = -1<<44 - 1 }},
		{"Y beyond", func(s *api.Site) { s.Y = 1<<44 + 1 }},
		{"VX 0", func(s *api.Site) { s.VX = 0 }},
		{"VX beyond", func(s *api.Site) { s.VX = 1<<44 + 1 }},
		{"VY 0", func(s *api.Site) { s.VY = 0 }},
		{"VY -1", func(s *api.Site) { s.VY = -1 }},
		{"VY beyond", func(s *api.Site) { s.VY = 1<<44 + 1 }},
	}
}

// badSites are not valid, each for one reason.
func badSites() map[string]api.Site {
	bad := map[string]api.Site{}
	for _, c := range append(beyondOfMaterial(), beyondOfHits()...) {
		s := hit(5, 1, 2)
		c.of(&s)
		bad[c.name] = s
	}
	for _, c := range beyondOfMaterial() {
		s := api.Site{Depth: 5}
		c.of(&s)
		bad[c.name+" without a hit"] = s
	}
	return bad
}

// goodSites are just valid, each for one reason; some have no hit, and a point that is not valid.
func goodSites() map[string]api.Site {
	good := map[string]api.Site{"all least": {}, "all most": {
		Depth: 1 << 20, Bend: 1 << 44, Turn: -1 << 44, Kick: 1 << 44, Loss: 1000, Hit: true, X: 1 << 44, Y: -1 << 44, VX: 1 << 44, VY: 1 << 44,
	}}
	for _, c := range ends() {
		s := hit(5, 1, 2)
		s.Kick, s.Loss = 2, 100
		c.of(&s)
		good[c.name] = s
	}
	for _, c := range beyondOfHits() {
		s := hit(5, 1, 2)
		s.Hit = false
		c.of(&s)
		good[c.name+" without a hit"] = s
	}
	return good
}

// straight returns n sites with hits, at the depths from 0 on.
func straight(n int) []api.Site {
	var l []api.Site
	for d := range n {
		l = append(l, hit(d, 0, 0))
	}
	return l
}

// badList is a list of sites with its error.
type badList struct {
	name  string
	sites []api.Site
	e     api.Errno
}

// badLists have errors; where there are several, the first of them counts.
func badLists() []badList {
	at := func(i, depth, kick int) []api.Site {
		return with(straight(5), i, func(s *api.Site) { s.Depth, s.Kick = depth, kick })
	}
	many := straight(65)
	l := []badList{
		{"65 sites", many, api.ErrLong},
		{"65 sites, and one that is not valid", with(many, 0, func(s *api.Site) { s.Depth = -1 }), api.ErrLong},
		{"65 sites, and equal depths", with(many, 1, func(s *api.Site) { s.Depth = 0 }), api.ErrLong},
		{"65 sites of zeros", make([]api.Site, 65), api.ErrLong},
		{"64 sites of zeros", make([]api.Site, 64), api.ErrArg},
		{"equal depths", at(2, 1, 0), api.ErrArg},
		{"equal depths at the end", at(4, 3, 0), api.ErrArg},
		{"falling depths", at(3, 1, 0), api.ErrArg},
		{"falling depths at the beginning", at(0, 7, 0), api.ErrArg},
		{"equal depths, and a kick that is not valid", at(2, 1, -1), api.ErrRange},
		{"a depth that falls below 0", at(2, -1, 0), api.ErrRange},
		{"equal depths, then a site that is not valid", with(at(2, 1, 0), 3, func(s *api.Site) { s.Kick = -1 }), api.ErrArg},
		{"a site that is not valid, then equal depths", with(at(3, 2, 0), 2, func(s *api.Site) { s.Kick = -1 }), api.ErrRange},
	}
	for name, s := range badSites() {
		l = append(l, badList{name, []api.Site{s}, api.ErrRange})
		l = append(l, badList{name + " behind others", append(straight(5), s), api.ErrRange})
	}
	return l
}

func TestCheckSites(t *testing.T) {
	for name, s := range goodSites() {
		if e := track.CheckSites([]api.Site{s}); e != api.OK {
			t.Error(name, e)
		}
	}
	for _, l := range [][]api.Site{nil, {}, straight(1), straight(64), {hit(0, 0, 0), hit(1<<20, 0, 0)}} {
		if e := track.CheckSites(l); e != api.OK {
			t.Error(len(l), e)
		}
	}
	for _, b := range badLists() {
		if e := track.CheckSites(b.sites); e != b.e {
			t.Error(b.name, e, b.e)
		}
	}
}

// listCalls are the functions that take a list of sites, with other arguments that are not valid, either, where they have some.
func listCalls() map[string]func(l []api.Site) ([]any, api.Errno) {
	bad := column("1 2")
	return map[string]func(l []api.Site) ([]any, api.Errno){
		"Forward":  func(l []api.Site) ([]any, api.Errno) { x, e := track.Forward(l); return all(x), e },
		"Backward": func(l []api.Site) ([]any, api.Errno) { x, e := track.Backward(l); return all(x), e },
		"Smooth":   func(l []api.Site) ([]any, api.Errno) { x, e := track.Smooth(l); return all(x), e },
		"Fit":      func(l []api.Site) ([]any, api.Errno) { x, e := track.Fit(l); return all(x), e },
		"Kinks":    func(l []api.Site) ([]any, api.Errno) { x, e := track.Kinks(l); return all(x), e },
		"Follow":   func(l []api.Site) ([]any, api.Errno) { x, e := track.Follow(l, bad, nil); return all(x), e },
		"Sum":      func(l []api.Site) ([]any, api.Errno) { x, e := track.Sum(l, bad, nil); return all(x), e },
		"Gain":     func(l []api.Site) ([]any, api.Errno) { x, e := track.Gain(l, -1); return all(x), e },
		"Reject": func(l []api.Site) ([]any, api.Errno) {
			x, out, e := track.Reject(l, ratio("-1"), 0)
			return all(x, out), e
		},
	}
}

func TestListErrors(t *testing.T) {
	for name, call := range listCalls() {
		for _, b := range badLists() {
			got, e := call(b.sites)
			wantError(t, b.e, e, got, name, b.name)
		}
	}
}

// badTracks are not valid, each for one reason.
func badTracks() map[string]api.Track {
	p := func(m api.Matrix) api.Track { t := some(); t.P = m; return t }
	cov := func(m api.Matrix) api.Track { t := some(); t.Cov = m; return t }
	cell := func(i int, s string) api.Track {
		t := some()
		t.Cov.Cells[i] = ratio(s)
		return t
	}
	cells := some().Cov.Cells
	unit := func(n int) api.Matrix { return diagonal(n, "1") }
	semidefinite := diagonal(5, "1")
	semidefinite.Cells[24] = ratio("0")
	return map[string]api.Track{
		"zero":                  {},
		"P of no cells":         p(api.Matrix{}),
		"P 4 by 1":              p(column("1 2 3 4")),
		"P 6 by 1":              p(column("1 2 3 4 5 6")),
		"P 1 by 5":              p(matrix("1 2 3 4 5")),
		"P 5 by 2":              p(matrix("1 2, 1 2, 1 2, 1 2, 1 2")),
		"P with few cells":      p(api.Matrix{Rows: 5, Cols: 1, Cells: cells[:4]}),
		"P with many cells":     p(api.Matrix{Rows: 5, Cols: 1, Cells: cells[:6]}),
		"Cov of no cells":       cov(api.Matrix{}),
		"Cov 4 by 4":            cov(unit(4)),
		"Cov 6 by 6":            cov(unit(6)),
		"Cov 5 by 4":            cov(api.Matrix{Rows: 5, Cols: 4, Cells: cells[:20]}),
		"Cov 5 by 6":            cov(api.Matrix{Rows: 5, Cols: 6, Cells: append(cells[:25:25], cells[:5]...)}),
		"Cov 25 by 1":           cov(api.Matrix{Rows: 25, Cols: 1, Cells: cells}),
		"Cov with few cells":    cov(api.Matrix{Rows: 5, Cols: 5, Cells: cells[:24]}),
		"Cov with many cells":   cov(api.Matrix{Rows: 5, Cols: 5, Cells: append(cells[:25:25], cells[0])}),
		"Cov not symmetric":     cell(4, "1/4"),
		"Cov not symmetric, 0":  cell(1, "0"),
		"Cov semidefinite":      cov(semidefinite),
		"Cov of zeros":          cov(diagonal(5, "0")),
		"Cov negative":          cov(diagonal(5, "-1")),
		"Cov not definite":      cell(24, "1/1000"),
		"Cov with no variance":  cell(12, "0"),
		"Cov below 0 somewhere": cell(12, "-4"),
	}
}

func TestCheckTrack(t *testing.T) {
	s := newSource()
	good := []api.Track{some(), looseTrack(some()), {P: column("0 0 0 0 0"), Cov: diagonal(5, "1/1000")}, {P: looseMatrix(column("0 0 0 0 0")), Cov: diagonal(5, "1"), Free: math.MinInt}}
	for range 20 {
		good = append(good, s.track())
	}
	for i, x := range good {
		if e := track.CheckTrack(x); e != api.OK {
			t.Error(i, e)
		}
	}
	for name, b := range badTracks() {
		if e := track.CheckTrack(b); e != api.ErrArg {
			t.Error(name, e)
		}
	}
}

func TestRow(t *testing.T) {
	s := newSource()
	ok := first[api.Matrix](t)
	for name, x := range goodSites() {
		wantMatrix(t, ok(track.Row(x)), plainRow(x), name)
	}
	for range 50 {
		x := s.site(s.Intn(1<<20 + 1))
		wantMatrix(t, ok(track.Row(x)), plainRow(x), x)
	}
	for name, x := range badSites() {
		m, e := track.Row(x)
		wantError(t, api.ErrRange, e, all(m), name)
	}
}

func TestCross(t *testing.T) {
	s := newSource()
	check := func(x api.Site, of ...any) {
		turn, noise, e := track.Cross(x)
		wantOK(t, e, of...)
		wantMatrix(t, turn, plainT(x), of...)
		wantMatrix(t, noise, plainQ(x), of...)
	}
	for name, x := range goodSites() {
		check(x, name)
	}
	for range 50 {
		x := s.site(s.Intn(1<<20 + 1))
		check(x, x)
	}
	for name, x := range badSites() {
		turn, noise, e := track.Cross(x)
		wantError(t, api.ErrRange, e, all(turn, noise), name)
	}
}

// TestCrossIsContinuous says what crossing does by positions and slopes, not by T.
func TestCrossIsContinuous(t *testing.T) {
	s := newSource()
	for range 50 {
		x := s.site(s.Intn(100))
		p := s.parameters()
		turn, noise, e := track.Cross(x)
		wantOK(t, e)
		var c course
		for i := range c {
			c[i] = affine{at(p, i, 0)}
		}
		none := affine{new(big.Rat)}
		c = c.behind(x, none, none)
		wantMatrix(t, times(turn, p), laid(5, 1, func(i, j int) *big.Rat { return c[i][0] }), x)
		// The noise is the covariance of what the two kicks change.
		by := laid(5, 2, func(i, j int) *big.Rat {
			kicks := [2]affine{none, none}
			kicks[j] = affine{ratOf(1)}
			return new(big.Rat).Sub(course{none, none, none, none, none}.behind(x, kicks[0], kicks[1])[i][0], none[0])
		})
		wantMatrix(t, noise, around(by, diagonal(2, ratOf(x.Kick).RatString())), x)
	}
}
