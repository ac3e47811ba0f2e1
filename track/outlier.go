package track

import (
	"slices"

	"hodoscope/api"
	"hodoscope/exact"
	"hodoscope/linear"
)

// gain returns by how much the least sum of squares is less without the hit of a stage; ErrSingular, if the fit is lost without it. As the track is fitted to the hit, too, their difference has the covariance of the hit less that of the position, which has an inverse just if the other hits determine the track.
func (s stage) gain() (api.Ratio, api.Errno) {
	there := positionOf(s.Track, s.Site)
	off := difference(pointOf(s.Site), there.point)
	weighted, e := linear.Solve(difference(varianceOf(s.Site), there.cov), off)
	if e != api.OK {
		return api.Ratio{}, e
	}
	return inner(off, weighted), api.OK
}

// Gain returns by how much the least sum of squares is less without a hit.
func Gain(l []api.Site, i int) (api.Ratio, api.Errno) {
	if e := CheckSites(l); e != api.OK {
		return api.Ratio{}, e
	}
	if i < 0 || i >= len(l) || !l[i].Hit {
		return api.Ratio{}, api.ErrNone
	}
	return guarded(func() (api.Ratio, api.Errno) {
		s, e := fit(l, i)
		if e != api.OK {
			return api.Ratio{}, e
		}
		return s.gain()
	})
}

// rejection is what is left when hits are removed: the track, and their indices.
type rejection struct {
	api.Track
	out []int
}

// Reject removes hits, the worst one first, as long as one is worse than the limit.
func Reject(l []api.Site, limit api.Ratio, least int) (t api.Track, out []int, e api.Errno) {
	if e := CheckSites(l); e != api.OK {
		return api.Track{}, nil, e
	}
	if exact.Signum(limit) < 0 {
		return api.Track{}, nil, api.ErrArg
	}
	r, e := guarded(func() (rejection, api.Errno) { return reject(slices.Clone(l), limit, max(least, 0)) })
	return r.Track, r.out, e
}

// reject changes l.
func reject(l []api.Site, limit api.Ratio, least int) (rejection, api.Errno) {
	stages, e := smooth(l)
	if e != api.OK {
		return rejection{}, e
	}
	var out []int
	for hits(l) > least {
		i, gain := worst(stages)
		if i < 0 || exact.Compare(gain, limit) <= 0 {
			break
		}
		l[i].Hit = false
		out = append(out, i)
		stages = sure(smooth(l))
	}
	return rejection{stages[0].Track, out}, api.OK
}

func hits(l []api.Site) int {
	n := 0
	for _, s := range l {
		if s.Hit {
			n++
		}
	}
	return n
}

// worst returns the index of the hit with the greatest gain, and that; -1, if none can be removed.
func worst(stages []stage) (i int, gain api.Ratio) {
	i = -1
	for j, s := range stages {
		if !s.Hit {
			continue
		}
		g, e := s.gain()
		if e == api.OK && (i < 0 || exact.Compare(g, gain) > 0) {
			i, gain = j, g
		}
	}
	return i, gain
}
