package track

import (
	"hodoscope/api"
	"hodoscope/exact"
	"hodoscope/linear"
)

// stage is a site with the track that is fitted there, to all hits.
type stage struct {
	api.Site
	api.Track
}

// estimated returns the track of what is known.
func estimated(f api.Info) (api.Track, api.Errno) {
	p, cov, chi, e := linear.Estimate(f)
	if e != api.OK {
		return api.Track{}, e
	}
	return api.Track{P: p, Cov: cov, Chi: chi, Free: f.Count - api.Params}, api.OK
}

// smooth returns all stages. The list is valid.
func smooth(l []api.Site) ([]stage, api.Errno) {
	if len(l) == 0 {
		return nil, api.ErrSingular
	}
	before, behind := forward(l), backward(l)
	stages := make([]stage, len(l))
	for i, s := range l {
		t, e := estimated(combined(before[i], behind[i]))
		if e != api.OK {
			return nil, e
		}
		stages[i] = stage{s, t}
	}
	return stages, api.OK
}

// fit returns the stage of site i. The list is valid.
func fit(l []api.Site, i int) (stage, api.Errno) {
	t, e := estimated(knownAt(l, i))
	if e != api.OK {
		return stage{}, e
	}
	return stage{l[i], t}, api.OK
}

// Smooth returns the track at each site, from all hits.
func Smooth(l []api.Site) ([]api.Track, api.Errno) {
	if e := CheckSites(l); e != api.OK {
		return nil, e
	}
	stages, e := guarded(func() ([]stage, api.Errno) { return smooth(l) })
	var tracks []api.Track
	for _, s := range stages {
		tracks = append(tracks, s.Track)
	}
	return tracks, e
}

// Fit returns the track of the first site, from all hits.
func Fit(l []api.Site) (api.Track, api.Errno) {
	if e := CheckSites(l); e != api.OK {
		return api.Track{}, e
	}
	if len(l) == 0 {
		return api.Track{}, api.ErrSingular
	}
	s, e := guarded(func() (stage, api.Errno) { return fit(l, 0) })
	return s.Track, e
}

// Kinks returns the kicks at the minimum.
func Kinks(l []api.Site) ([]api.Ratio, api.Errno) {
	if e := CheckSites(l); e != api.OK {
		return nil, e
	}
	return guarded(func() ([]api.Ratio, api.Errno) { return kinks(l) })
}

// kinks reads the kicks off the slopes: each is by how much the slope before a site differs from that with which the track left the site before it. The list is valid.
func kinks(l []api.Site) ([]api.Ratio, api.Errno) {
	stages, e := smooth(l)
	if e != api.OK {
		return nil, e
	}
	var kicks []api.Ratio
	for i, next := range stages[1:] {
		left := product(turned(l[i]), stages[i].P)
		for _, slope := range [...]int{atX1, atY1} {
			kicks = append(kicks, exact.Minus(next.P.Cells[slope], left.Cells[slope]))
		}
	}
	return kicks, api.OK
}
