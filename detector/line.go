package detector

import "hodoscope/api"

// A line's slopes and curvature are multiples of 1 / 2^slopeBits.
const slopeBits = 20

// Cross returns the position of a line at a depth.
func Cross(d api.Detector, face int, l api.Line, depth int) (x, y int, e api.Errno) {
	if e = checkLine(d, face, l); e != api.OK {
		return 0, 0, e
	}
	if !isWithin(depth, 0, api.MaxDepth) {
		return 0, 0, api.ErrRange
	}
	x, y = position(d.Field, face, l, depth)
	return x, y, api.OK
}

func checkLine(d api.Detector, face int, l api.Line) api.Errno {
	switch {
	case !isValid(d):
		return api.ErrArg
	case !isFace(face):
		return api.ErrNone
	case !isLine(l):
		return api.ErrRange
	}
	return api.OK
}

func isLine(l api.Line) bool {
	isSlope := func(n int) bool { return isWithin(n, -api.MaxSlope, api.MaxSlope) }
	return isReach(l.X0) && isReach(l.Y0) && isSlope(l.X1) && isSlope(l.Y1) && isWithin(l.K, -api.MaxCurve, api.MaxCurve)
}

// position returns where a line is at a depth. A shift to the right rounds down.
func position(slabs []api.Slab, face int, l api.Line, depth int) (x, y int) {
	x = l.X0 + (l.X1*depth+l.K*bend(slabs, face, depth))>>slopeBits
	y = l.Y0 + (l.Y1*depth)>>slopeBits
	return x, y
}

// Swim returns the cells that a line crosses.
func Swim(d api.Detector, face int, l api.Line) ([]api.Cell, api.Errno) {
	if e := checkLine(d, face, l); e != api.OK {
		return nil, e
	}
	var cells []api.Cell
	for _, i := range stack(d.Planes, face) {
		x, y := position(d.Field, face, l, d.Planes[i].Depth)
		if col, row, ok := At(d.Planes[i], x, y); ok {
			cells = append(cells, api.Cell{Plane: i, Col: col, Row: row})
		}
	}
	return cells, api.OK
}
