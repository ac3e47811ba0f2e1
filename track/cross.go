package track

import (
	"hodoscope/api"
	"hodoscope/exact"
	"hodoscope/linear"
)

// Row returns the matrix by which the parameters give the position at a site.
func Row(s api.Site) (api.Matrix, api.Errno) {
	if e := checkSite(s); e != api.OK {
		return api.Matrix{}, e
	}
	return guarded(func() (api.Matrix, api.Errno) { return row(s), api.OK })
}

func row(s api.Site) api.Matrix {
	d, b := int64(s.Depth), int64(s.Bend)
	return sure(linear.Make(2, api.Params,
		1, d, b, 0, 0,
		0, 0, 0, 1, d,
	))
}

// Cross returns T and Q of crossing a site.
func Cross(s api.Site) (t, q api.Matrix, e api.Errno) {
	if e := checkSite(s); e != api.OK {
		return api.Matrix{}, api.Matrix{}, e
	}
	c, e := guarded(func() (crossing, api.Errno) { return cross(s), api.OK })
	return c.t, c.q, e
}

// crossing changes the parameters: by t, and by a noise of the covariance q.
type crossing struct{ t, q api.Matrix }

func cross(s api.Site) crossing {
	by := kicked(s)
	return crossing{turned(s), scaled(product(by, transposed(by)), whole(s.Kick))}
}

// back returns the crossing the other way. Its noise is the same one: t leaves kicks as they are, as they do not change k.
func (c crossing) back() crossing {
	return crossing{sure(linear.Inverse(c.t)), c.q}
}

// turned returns the matrix by which the parameters behind a site follow from those before it, if there are no kicks.
func turned(s api.Site) api.Matrix {
	t := sure(linear.Identity(api.Params))
	put := func(i int, r api.Ratio) { t.Cells[i*api.Params+atK] = r }
	// A turn times a depth may leave 64 bits.
	lever := exact.Minus(whole(s.Bend), exact.Times(whole(s.Turn), whole(s.Depth)))
	less := perMille(-s.Loss)
	put(atX0, exact.Times(less, lever))
	put(atX1, exact.Times(less, whole(s.Turn)))
	put(atK, perMille(1000+s.Loss))
	return t
}

// kicked returns the matrix by which two kicks of a site change the parameters behind it.
func kicked(s api.Site) api.Matrix {
	d := int64(s.Depth)
	return sure(linear.Make(api.Params, 2,
		-d, 0,
		1, 0,
		0, 0,
		0, -d,
		0, 1,
	))
}
