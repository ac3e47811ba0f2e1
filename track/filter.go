package track

import (
	"iter"
	"slices"

	"hodoscope/api"
	"hodoscope/linear"
)

// Forward returns what all hits up to each site say of the parameters before it.
func Forward(l []api.Site) ([]api.Info, api.Errno) {
	return filtered(l, forward)
}

// Backward returns what all hits after each site say of the parameters before it.
func Backward(l []api.Site) ([]api.Info, api.Errno) {
	return filtered(l, backward)
}

func filtered(l []api.Site, filter func(l []api.Site) []api.Info) ([]api.Info, api.Errno) {
	if e := CheckSites(l); e != api.OK {
		return nil, e
	}
	return guarded(func() ([]api.Info, api.Errno) { return filter(l), api.OK })
}

func forward(l []api.Site) []api.Info {
	return pass(slices.All(l), len(l), func(known api.Info, s api.Site) (here, next api.Info) {
		here = measured(known, s)
		return here, moved(here, cross(s))
	})
}

func backward(l []api.Site) []api.Info {
	return pass(slices.Backward(l), len(l), func(known api.Info, s api.Site) (here, next api.Info) {
		here = moved(known, cross(s).back())
		return here, measured(here, s)
	})
}

// pass goes along n sites, and returns what is known at each of them. A step makes, of what is known when a site is reached, what is known there, and what is known when it is left.
func pass(sites iter.Seq2[int, api.Site], n int, step func(known api.Info, s api.Site) (here, next api.Info)) []api.Info {
	known := sure(linear.Blank(api.Params))
	l := make([]api.Info, n)
	for i, s := range sites {
		l[i], known = step(known, s)
	}
	return l
}

func moved(f api.Info, c crossing) api.Info {
	return sure(linear.Move(f, c.t, c.q))
}

// measured returns f with the hit of a site, if it has one.
func measured(f api.Info, s api.Site) api.Info {
	if !s.Hit {
		return f
	}
	return sure(linear.Measure(f, row(s), pointOf(s), varianceOf(s)))
}

func pointOf(s api.Site) api.Matrix {
	return sure(linear.Make(2, 1, int64(s.X), int64(s.Y)))
}

func varianceOf(s api.Site) api.Matrix {
	return sure(linear.Make(2, 2, int64(s.VX), 0, 0, int64(s.VY)))
}

func combined(f, g api.Info) api.Info {
	return sure(linear.Combine(f, g))
}

// knownAt returns what all hits say of the parameters before site i.
func knownAt(l []api.Site, i int) api.Info {
	return combined(forward(l[:i+1])[i], backward(l[i:])[0])
}
