package vertex

import (
	"slices"

	"hodoscope/api"
	"hodoscope/exact"
	"hodoscope/linear"
)

// Momentum returns the direction of a ray, divided by the size of k.
func Momentum(r api.Ray, k api.Ratio) (api.Matrix, api.Errno) {
	switch {
	case !isRay(r):
		return api.Matrix{}, api.ErrArg
	case exact.Signum(k) == 0:
		return api.Matrix{}, api.ErrZero
	}
	return momentum(r, k), api.OK
}

func momentum(r api.Ray, k api.Ratio) api.Matrix {
	back := sure(linear.Transpose(frame(r.Face)))
	direction := product(back, vector(whole(1), r.X1, r.Y1))
	return scaled(direction, quotient(whole(1), size(k)))
}

func isZero(p api.Matrix) bool {
	return !slices.ContainsFunc(p.Cells, func(r api.Ratio) bool { return exact.Signum(r) != 0 })
}

// Pair returns how two momenta share their sum, and the square of what is across it.
func Pair(p, q api.Matrix) (alpha, square api.Ratio, e api.Errno) {
	if !isPoint(p) || !isPoint(q) {
		return api.Ratio{}, api.Ratio{}, api.ErrShape
	}
	s := sum(p, q)
	if isZero(s) {
		return api.Ratio{}, api.Ratio{}, api.ErrZero
	}
	all, turn := inner(s, s), across(p, q)
	return quotient(inner(difference(p, q), s), all), quotient(inner(turn, turn), all), api.OK
}

// mainAxis returns the axis of the number with the greatest absolute value.
func mainAxis(s api.Matrix) int {
	m := 0
	for i, r := range s.Cells {
		if exact.Compare(size(r), size(s.Cells[m])) > 0 {
			m = i
		}
	}
	return m
}

// beside returns the matrix that makes, of v, s_m v_i - s_i v_m for both axes i other than m.
func beside(s api.Matrix, m int) api.Matrix {
	turned := difference(scaled(identity(), s.Cells[m]), product(s, unit(m)))
	others := slices.DeleteFunc(indices(axes), func(i int) bool { return i == m })
	return sure(linear.Pick(turned, others, indices(axes)))
}

// Decay returns where something that came from p decayed into two rays.
func Decay(p api.Matrix, a, b api.Ray, ka, kb api.Ratio) (api.Decay, api.Errno) {
	switch {
	case !isPoint(p):
		return api.Decay{}, api.ErrShape
	case !isRay(a) || !isRay(b):
		return api.Decay{}, api.ErrArg
	case exact.Signum(ka) == 0 || exact.Signum(kb) == 0:
		return api.Decay{}, api.ErrZero
	}
	pa, pb := momentum(a, ka), momentum(b, kb)
	alpha, square, e := Pair(pa, pb)
	if e != api.OK {
		return api.Decay{}, e
	}
	s := sum(pa, pb)
	m := mainAxis(s)
	line := beside(s, m)
	v, _, chi, e := linear.Constrain(measured(measured(blank(), a), b), line, product(line, p))
	if e != api.OK {
		return api.Decay{}, e
	}
	time := quotient(exact.Minus(v.Cells[m], p.Cells[m]), s.Cells[m])
	return api.Decay{P: v, Sum: s, Chi: chi, Time: time, Alpha: alpha, Square: square}, api.OK
}

// reach returns f of an ellipse: 1 on it, less inside of it.
func reach(alpha, square api.Ratio, c api.Ellipse) api.Ratio {
	along := quotient(exact.Minus(alpha, c.Centre), c.Width)
	return exact.Plus(exact.Times(along, along), quotient(square, exact.Times(c.Height, c.Height)))
}

// Kind returns the ellipse that fits best.
func Kind(alpha, square api.Ratio, l []api.Ellipse) (int, api.Ratio, api.Errno) {
	for _, c := range l {
		if exact.Signum(c.Width) <= 0 || exact.Signum(c.Height) <= 0 {
			return 0, api.Ratio{}, api.ErrArg
		}
	}
	best, _, is := leastOf(slices.Values(indices(len(l))), func(i int) (api.Ratio, bool) {
		return size(exact.Minus(reach(alpha, square, l[i]), whole(1))), true
	})
	if !is {
		return -1, whole(0), api.OK
	}
	return best, reach(alpha, square, l[best]), api.OK
}
