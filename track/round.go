package track

import (
	"hodoscope/api"
	"hodoscope/exact"
)

func areBits(bits int) bool {
	return isWithin(bits, 0, api.MaxBits)
}

// Round returns the parameters to so many bits.
func Round(t api.Track, bits int) ([]api.Int, api.Errno) {
	if !isTrack(t) || !areBits(bits) {
		return nil, api.ErrArg
	}
	return guarded(func() ([]api.Int, api.Errno) {
		var l []api.Int
		for _, r := range t.P.Cells {
			l = append(l, sure(exact.Fixed(r, bits)))
		}
		return l, api.OK
	})
}

// Value returns the position at a site of parameters that were rounded.
func Value(l []api.Int, bits int, s api.Site) (x, y api.Ratio, e api.Errno) {
	if len(l) != api.Params || !areBits(bits) {
		return api.Ratio{}, api.Ratio{}, api.ErrArg
	}
	if e := checkSite(s); e != api.OK {
		return api.Ratio{}, api.Ratio{}, e
	}
	point, e := guarded(func() (api.Matrix, api.Errno) {
		p := api.Matrix{Rows: api.Params, Cols: 1}
		for _, n := range l {
			p.Cells = append(p.Cells, sure(exact.FromFixed(n, bits)))
		}
		return product(row(s), p), api.OK
	})
	if e != api.OK {
		return api.Ratio{}, api.Ratio{}, e
	}
	return point.Cells[0], point.Cells[1], api.OK
}

// Bits returns how many bits are enough for a position at a site that is off by so much at most.
func Bits(s api.Site, off api.Ratio) (int, api.Errno) {
	if e := checkSite(s); e != api.OK {
		return 0, e
	}
	if exact.Signum(off) <= 0 {
		return 0, api.ErrArg
	}
	// Each parameter is off by half of 2^-n at most.
	need := whole(1 + s.Depth + max(s.Bend, -s.Bend))
	room := exact.Plus(off, off)
	for n := range api.MaxBits + 1 {
		if exact.Compare(need, room) <= 0 {
			return n, api.OK
		}
		room = exact.Plus(room, room)
	}
	return 0, api.ErrRange
}
