package track

import (
	"hodoscope/api"
	"hodoscope/exact"
)

func checkFollow(l []api.Site, p api.Matrix, kicks []api.Ratio) api.Errno {
	if e := CheckSites(l); e != api.OK {
		return e
	}
	if !isParameters(p) || len(kicks) != 2*max(len(l)-1, 0) {
		return api.ErrArg
	}
	return api.OK
}

// kicksAt returns the two kicks of site i; none of the last one.
func kicksAt(kicks []api.Ratio, i int) []api.Ratio {
	if 2*i == len(kicks) {
		return nil
	}
	return kicks[2*i : 2*i+2]
}

// Follow returns the positions of a track that has these parameters and kicks.
func Follow(l []api.Site, p api.Matrix, kicks []api.Ratio) ([]api.Ratio, api.Errno) {
	if e := checkFollow(l, p, kicks); e != api.OK {
		return nil, e
	}
	return guarded(func() ([]api.Ratio, api.Errno) { return follow(l, p, kicks), api.OK })
}

func follow(l []api.Site, p api.Matrix, kicks []api.Ratio) []api.Ratio {
	var positions []api.Ratio
	for i, s := range l {
		positions = append(positions, product(row(s), p).Cells...)
		if k := kicksAt(kicks, i); k != nil {
			p = sum(product(turned(s), p), product(kicked(s), api.Matrix{Rows: 2, Cols: 1, Cells: k}))
		}
	}
	return positions
}

// Sum returns the sum of squares of parameters and kicks.
func Sum(l []api.Site, p api.Matrix, kicks []api.Ratio) (api.Ratio, api.Errno) {
	if e := checkFollow(l, p, kicks); e != api.OK {
		return api.Ratio{}, e
	}
	for i, s := range l {
		for _, k := range kicksAt(kicks, i) {
			if s.Kick == 0 && exact.Signum(k) != 0 {
				return api.Ratio{}, api.ErrArg
			}
		}
	}
	return guarded(func() (api.Ratio, api.Errno) { return sumOfSquares(l, p, kicks), api.OK })
}

// sumOfSquares takes kicks that are 0 where Kick is.
func sumOfSquares(l []api.Site, p api.Matrix, kicks []api.Ratio) api.Ratio {
	positions := follow(l, p, kicks)
	total := whole(0)
	add := func(r api.Ratio, variance int) {
		total = exact.Plus(total, sure(exact.Quotient(square(r), whole(variance))))
	}
	for i, s := range l {
		if s.Hit {
			add(exact.Minus(whole(s.X), positions[2*i]), s.VX)
			add(exact.Minus(whole(s.Y), positions[2*i+1]), s.VY)
		}
		if s.Kick == 0 {
			continue
		}
		for _, k := range kicksAt(kicks, i) {
			add(k, s.Kick)
		}
	}
	return total
}
