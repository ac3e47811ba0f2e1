package vertex

import (
	"hodoscope/api"
	"hodoscope/detector"
	"hodoscope/exact"
	"hodoscope/linear"
	"hodoscope/track"
)

// Places of a track's parameters.
const (
	atX0 = 0
	atX1 = 1
	atY0 = 3
	atY1 = 4
)

// FromTrack returns the ray of a track near the origin.
func FromTrack(face int, t api.Track) (api.Ray, api.Errno) {
	if !isFace(face) || track.CheckTrack(t) != api.OK {
		return api.Ray{}, api.ErrArg
	}
	at := []int{atX0, atY0}
	return api.Ray{
		Face: face,
		X0:   exact.Lowest(t.P.Cells[atX0]),
		X1:   exact.Lowest(t.P.Cells[atX1]),
		Y0:   exact.Lowest(t.P.Cells[atY0]),
		Y1:   exact.Lowest(t.P.Cells[atY1]),
		V:    sure(linear.Pick(t.Cov, at, at)),
	}, api.OK
}

// frame returns the matrix by which X, Y and Z give the depth and the coordinates in a face's frame. It is a rotation: its transposed one leads back.
func frame(face int) api.Matrix {
	axis, sign, _ := detector.Axes(face)
	var cells [axes * axes]int64
	for i := range axes {
		cells[axes*i+axis[i]] = int64(sign[i])
	}
	return sure(linear.Make(axes, axes, cells[:]...))
}

// Row returns the row of a ray, and what was measured.
func Row(r api.Ray) (h, y api.Matrix, e api.Errno) {
	if !isRay(r) {
		return api.Matrix{}, api.Matrix{}, api.ErrArg
	}
	h, y = row(r)
	return h, y, api.OK
}

func row(r api.Ray) (h, y api.Matrix) {
	local := api.Matrix{Rows: 2, Cols: axes, Cells: []api.Ratio{
		negated(r.X1), whole(1), whole(0),
		negated(r.Y1), whole(0), whole(1),
	}}
	return product(local, frame(r.Face)), vector(r.X0, r.Y0)
}

// Distance returns how far a point is from a ray.
func Distance(r api.Ray, p api.Matrix) (off api.Matrix, chi api.Ratio, e api.Errno) {
	switch {
	case !isRay(r):
		return api.Matrix{}, api.Ratio{}, api.ErrArg
	case !isPoint(p):
		return api.Matrix{}, api.Ratio{}, api.ErrShape
	}
	h, y := row(r)
	off = difference(y, product(h, p))
	return off, weighted(off, r.V), api.OK
}

// measured returns f with what a ray says.
func measured(f api.Info, r api.Ray) api.Info {
	h, y := row(r)
	return sure(linear.Measure(f, h, y, r.V))
}

func blank() api.Info {
	return sure(linear.Blank(axes))
}

// Beam returns what is known of a point before any ray is.
func Beam(place, variance [3]int) (api.Info, api.Errno) {
	for _, v := range variance {
		if v < 0 {
			return api.Info{}, api.ErrArg
		}
	}
	f := blank()
	for i, v := range variance {
		if v == 0 {
			continue
		}
		f = sure(linear.Measure(f, unit(i), vector(whole(place[i])), vector(whole(v))))
	}
	return f, api.OK
}
