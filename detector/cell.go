package detector

import "hodoscope/api"

// A key has the column and the row of a cell in sideBits bits each: all numbers of cells are below MaxSide.
const sideBits = 10

// Centre returns the centre of a cell.
func Centre(p api.Plane, col, row int) (x, y int, e api.Errno) {
	if !isPlane(p) {
		return 0, 0, api.ErrArg
	}
	if !isWithin(col, 0, p.Cols-1) || !isWithin(row, 0, p.Rows-1) {
		return 0, 0, api.ErrRange
	}
	return (2*col + 1 - p.Cols) * p.HalfX, (2*row + 1 - p.Rows) * p.HalfY, api.OK
}

// At returns the cell that contains a place.
func At(p api.Plane, x, y int) (col, row int, ok bool) {
	if !isPlane(p) {
		return 0, 0, false
	}
	col, isCol := cellNumber(x, p.Cols, p.HalfX)
	row, isRow := cellNumber(y, p.Rows, p.HalfY)
	if !isCol || !isRow {
		return 0, 0, false
	}
	return col, row, true
}

// cellNumber returns which one of n cells, of twice half each, a coordinate is in.
func cellNumber(at, n, half int) (int, bool) {
	edge := n * half
	if at < -edge || at >= edge {
		return 0, false
	}
	return (at + edge) / (2 * half), true
}

// Key returns the key of a cell.
func Key(c api.Cell) (int, bool) {
	if !isWithin(c.Plane, 0, api.MaxPlanes-1) || !isWithin(c.Col, 0, api.MaxSide-1) || !isWithin(c.Row, 0, api.MaxSide-1) {
		return 0, false
	}
	return c.Plane<<(2*sideBits) + c.Col<<sideBits + c.Row, true
}

// Keyed returns the cell that has a key.
func Keyed(key int) (api.Cell, bool) {
	if !isWithin(key, 0, api.MaxPlanes<<(2*sideBits)-1) {
		return api.Cell{}, false
	}
	return api.Cell{Plane: key >> (2 * sideBits), Col: key >> sideBits % api.MaxSide, Row: key % api.MaxSide}, true
}
