package vertex

import (
	"slices"

	"hodoscope/api"
	"hodoscope/exact"
	"hodoscope/linear"
)

// checkRays returns the errors of a prior and rays.
func checkRays(prior api.Info, l []api.Ray) api.Errno {
	switch {
	case linear.CheckInfo(prior) != api.OK || prior.N.Rows != axes:
		return api.ErrShape
	case len(l) > api.MaxRays:
		return api.ErrLong
	}
	for _, r := range l {
		if e := CheckRay(r); e != api.OK {
			return e
		}
	}
	return api.OK
}

// estimated returns the vertex of what is known, without its rays.
func estimated(f api.Info) (api.Vertex, api.Errno) {
	p, cov, chi, e := linear.Estimate(f)
	if e != api.OK {
		return api.Vertex{}, e
	}
	return api.Vertex{P: p, Cov: cov, Chi: chi, Free: f.Count - axes}, api.OK
}

// Fit returns the vertex of all rays.
func Fit(prior api.Info, l []api.Ray) (api.Vertex, api.Errno) {
	if e := checkRays(prior, l); e != api.OK {
		return api.Vertex{}, e
	}
	known := prior
	for _, r := range l {
		known = measured(known, r)
	}
	v, e := estimated(known)
	if e != api.OK {
		return api.Vertex{}, e
	}
	v.Rays = indices(len(l))
	return v, api.OK
}

// placed returns f with the point of a vertex, measured with its covariance.
func placed(f api.Info, v api.Vertex) api.Info {
	return sure(linear.Measure(f, identity(), v.P, v.Cov))
}

// Merge returns the estimate of two vertices.
func Merge(a, b api.Vertex) (v api.Vertex, gap api.Ratio, e api.Errno) {
	if !isVertex(a) || !isVertex(b) {
		return api.Vertex{}, api.Ratio{}, api.ErrArg
	}
	v = sure(estimated(placed(placed(blank(), a), b)))
	gap = v.Chi
	v.Chi = exact.Total(a.Chi, b.Chi, gap)
	v.Free += a.Free + b.Free
	v.Rays = slices.Concat(a.Rays, b.Rays)
	slices.Sort(v.Rays)
	v.Rays = slices.Compact(v.Rays)
	return v, gap, api.OK
}

// Flight returns the way from a vertex to another one, its square, and its square by its covariance.
func Flight(a, b api.Vertex) (way api.Matrix, square, significance api.Ratio, e api.Errno) {
	if !isVertex(a) || !isVertex(b) {
		return api.Matrix{}, api.Ratio{}, api.Ratio{}, api.ErrArg
	}
	way = difference(b.P, a.P)
	return way, inner(way, way), weighted(way, sum(a.Cov, b.Cov)), api.OK
}
