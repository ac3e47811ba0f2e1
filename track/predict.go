package track

import (
	"hodoscope/api"
	"hodoscope/exact"
	"hodoscope/linear"
)

// position is that of a track at a site, with its covariance.
type position struct{ point, cov api.Matrix }

func positionOf(t api.Track, s api.Site) position {
	h := row(s)
	return position{product(h, t.P), around(h, t.Cov)}
}

// At returns the position of a track at a site, and its covariance.
func At(t api.Track, s api.Site) (point, cov api.Matrix, e api.Errno) {
	if e := checkAt(t, s); e != api.OK {
		return api.Matrix{}, api.Matrix{}, e
	}
	p, e := guarded(func() (position, api.Errno) { return positionOf(t, s), api.OK })
	return p.point, p.cov, e
}

// Predict returns a track after crossing a site.
func Predict(t api.Track, s api.Site) (api.Track, api.Errno) {
	if e := checkAt(t, s); e != api.OK {
		return api.Track{}, e
	}
	return guarded(func() (api.Track, api.Errno) {
		c := cross(s)
		return api.Track{
			P:    product(c.t, t.P),
			Cov:  sum(around(c.t, t.Cov), c.q),
			Chi:  exact.Lowest(t.Chi),
			Free: t.Free,
		}, api.OK
	})
}

// saidBy returns what a track says of its parameters. It has no sum of squares.
func saidBy(t api.Track) api.Info {
	n := sure(linear.Inverse(t.Cov))
	r := product(n, t.P)
	return api.Info{N: n, R: r, C: inner(t.P, r), Count: t.Free + api.Params}
}

// Update returns a track with the hit of a site.
func Update(t api.Track, s api.Site) (api.Track, api.Errno) {
	if e := checkAt(t, s); e != api.OK {
		return api.Track{}, e
	}
	if !s.Hit {
		return api.Track{}, api.ErrNone
	}
	updated, e := guarded(func() (api.Track, api.Errno) { return estimated(measured(saidBy(t), s)) })
	if e != api.OK {
		return api.Track{}, e
	}
	updated.Chi = exact.Plus(t.Chi, updated.Chi)
	return updated, api.OK
}

// Join returns the track of two estimates, and the sum of squares of their difference.
func Join(a, b api.Track) (t api.Track, gap api.Ratio, e api.Errno) {
	if !isTrack(a) || !isTrack(b) {
		return api.Track{}, api.Ratio{}, api.ErrArg
	}
	t, e = guarded(func() (api.Track, api.Errno) { return estimated(combined(saidBy(a), saidBy(b))) })
	if e != api.OK {
		return api.Track{}, api.Ratio{}, e
	}
	gap = t.Chi
	t.Chi = exact.Total(a.Chi, b.Chi, gap)
	return t, gap, api.OK
}

// Charge returns the sign of k, and k squared, divided by its variance.
func Charge(t api.Track) (sign int, square api.Ratio, e api.Errno) {
	if e := CheckTrack(t); e != api.OK {
		return 0, api.Ratio{}, e
	}
	k := t.P.Cells[atK]
	square, e = guarded(func() (api.Ratio, api.Errno) {
		variance := sure(linear.Cell(t.Cov, atK, atK))
		return sure(exact.Quotient(exact.Times(k, k), variance)), api.OK
	})
	if e != api.OK {
		return 0, api.Ratio{}, e
	}
	return exact.Signum(k), square, api.OK
}
