package detector_test

import (
	"math/big"
	"slices"
	"strconv"
	"strings"

	"hodoscope/api"
)

// What the chapter says, word by word: slow, and for detectors with small numbers.

// fault is Check for planes, slabs and cables whose numbers are small; the name and the limits are those of a valid detector.
func fault(d api.Detector) (part, index int, e api.Errno) {
	for i, p := range d.Planes {
		if !isPlane(p) {
			return 1, i, api.ErrRange
		}
		if slices.ContainsFunc(d.Planes[:i], func(q api.Plane) bool { return q.Face == p.Face && q.Depth == p.Depth }) {
			return 1, i, api.ErrThere
		}
	}
	for i, s := range d.Field {
		if s.Face < 0 || s.Face > 5 || s.From < 0 || s.From >= s.To || s.To > 65536 || s.B < -1024 || s.B > 1024 {
			return 2, i, api.ErrRange
		}
		if slices.ContainsFunc(d.Field[:i], func(r api.Slab) bool { return r.Face == s.Face && meet(depthsOf(r), depthsOf(s)) }) {
			return 2, i, api.ErrThere
		}
	}
	for i, c := range d.Cables {
		if e := cableFault(d, c); e != api.OK {
			return 3, i, e
		}
		if slices.ContainsFunc(d.Cables[:i], func(b api.Cable) bool { return collide(b, c) }) {
			return 3, i, api.ErrThere
		}
	}
	return 0, 0, api.OK
}

func isPlane(p api.Plane) bool {
	if p.Face < 0 || p.Face > 6 || p.Cols < 1 || p.Cols > 1024 || p.Rows < 1 || p.Rows > 1024 || p.HalfX < 1 || p.HalfX > 4096 || p.HalfY < 1 || p.HalfY > 4096 {
		return false
	}
	if p.Face == 6 {
		return p.Depth == 0 && p.Thick == 0
	}
	return p.Depth >= 1 && p.Depth <= 65536 && p.Thick >= 0 && p.Thick <= 1000
}

func cableFault(d api.Detector, c api.Cable) api.Errno {
	switch {
	case c.Link < 0 || c.Link > 15 || c.Slot < 0 || c.Slot > 31 || c.From < 0 || c.From >= c.To || c.To > 1<<40:
		return api.ErrRange
	case c.Plane < 0 || c.Plane >= len(d.Planes):
		return api.ErrNone
	case c.Wide < 1 || c.High < 1 || c.Wide*c.High > 4096:
		return api.ErrRange
	}
	for _, cell := range cellsOf(c) {
		if p := d.Planes[c.Plane]; cell.Col < 0 || cell.Col >= p.Cols || cell.Row < 0 || cell.Row >= p.Rows {
			return api.ErrRange
		}
	}
	return api.OK
}

func depthsOf(s api.Slab) []int {
	return span(s.From, s.To)
}

func timesOf(c api.Cable) []int {
	return span(c.From, c.To)
}

// span returns the numbers from a to below b.
func span(a, b int) []int {
	var l []int
	for n := a; n < b; n++ {
		l = append(l, n)
	}
	return l
}

// cellsOf returns the cells of a cable's block by their addresses.
func cellsOf(c api.Cable) []api.Cell {
	var l []api.Cell
	for _, col := range span(c.Col, c.Col+c.Wide) {
		for _, row := range span(c.Row, c.Row+c.High) {
			l = append(l, api.Cell{Plane: c.Plane, Col: col, Row: row})
		}
	}
	return l
}

// meet reports whether two lists have something in common.
func meet[T comparable](a, b []T) bool {
	return slices.ContainsFunc(a, func(x T) bool { return slices.Contains(b, x) })
}

func collide(a, b api.Cable) bool {
	return meet(timesOf(a), timesOf(b)) && (a.Link == b.Link && a.Slot == b.Slot || meet(cellsOf(a), cellsOf(b)))
}

// written is the text of a detector.
func written(d api.Detector) string {
	var b strings.Builder
	line := func(word string, l ...int) {
		b.WriteString(word)
		for _, n := range l {
			b.WriteString(" " + strconv.Itoa(n))
		}
		b.WriteString("\n")
	}
	line("detector " + d.Name)
	for _, p := range d.Planes {
		line("plane", p.Face, p.Depth, p.Cols, p.Rows, p.HalfX, p.HalfY, p.Thick)
	}
	for _, s := range d.Field {
		line("slab", s.Face, s.From, s.To, s.B)
	}
	for _, c := range d.Cables {
		line("cable", c.Link, c.Slot, c.Plane, c.Col, c.Row, c.Wide, c.High, c.From, c.To)
	}
	return b.String()
}

// containing returns all cells of a plane that contain a place.
func containing(p api.Plane, x, y int) [][2]int {
	var l [][2]int
	for col := range p.Cols {
		for row := range p.Rows {
			isCol := x >= (2*col-p.Cols)*p.HalfX && x < (2*col+2-p.Cols)*p.HalfX
			isRow := y >= (2*row-p.Rows)*p.HalfY && y < (2*row+2-p.Rows)*p.HalfY
			if isCol && isRow {
				l = append(l, [2]int{col, row})
			}
		}
	}
	return l
}

// stacked returns the planes of a face, each after all of lesser depths.
func stacked(d api.Detector, face int) []int {
	var l []int
	for depth := range 65537 {
		for i, p := range d.Planes {
			if p.Face == face && p.Depth == depth && face < 6 {
				l = append(l, i)
			}
		}
	}
	return l
}

func fieldAt(d api.Detector, face, depth int) int {
	for _, s := range d.Field {
		if s.Face == face && s.From <= depth && depth < s.To {
			return s.B
		}
	}
	return 0
}

// integrated returns the sums of the field over all lesser depths, and the sums of these sums as P3.15 says it, for depths from 0 to n.
func integrated(d api.Detector, face, n int) (integrals, bends []int) {
	integrals, bends = []int{0}, []int{0}
	for depth := range n {
		next := integrals[depth] + fieldAt(d, face, depth)
		bends = append(bends, bends[depth]+integrals[depth]+next)
		integrals = append(integrals, next)
	}
	return integrals, bends
}

func liveAt(d api.Detector, time int) []int {
	var l []int
	for i, c := range d.Cables {
		if c.From <= time && time < c.To {
			l = append(l, i)
		}
	}
	return l
}

// chipsAt asks for each chip whether it is connected.
func chipsAt(d api.Detector, time int) []api.Chip {
	var l []api.Chip
	for link := range 16 {
		for slot := range 32 {
			for _, i := range liveAt(d, time) {
				if d.Cables[i].Link == link && d.Cables[i].Slot == slot {
					l = append(l, api.Chip{Link: link, Slot: slot})
				}
			}
		}
	}
	return l
}

func resolved(d api.Detector, time int, c api.Chip, addr int) (api.Cell, api.Errno) {
	for _, i := range liveAt(d, time) {
		if cable := d.Cables[i]; cable.Link == c.Link && cable.Slot == c.Slot {
			cells := cellsOf(cable)
			if addr < 0 || addr >= len(cells) {
				return api.Cell{}, api.ErrRange
			}
			return cells[addr], api.OK
		}
	}
	return api.Cell{}, api.ErrNone
}

func placed(d api.Detector, time int, c api.Cell) (api.Chip, int, api.Errno) {
	for _, i := range liveAt(d, time) {
		if addr := slices.Index(cellsOf(d.Cables[i]), c); addr >= 0 {
			return api.Chip{Link: d.Cables[i].Link, Slot: d.Cables[i].Slot}, addr, api.OK
		}
	}
	return api.Chip{}, 0, api.ErrNone
}

// crossed returns the position of a line at a depth, with the bend there.
func crossed(l api.Line, depth, bend int) (x, y int) {
	floor := func(at int, products ...int) int {
		sum := new(big.Int)
		for i := 0; i < len(products); i += 2 {
			sum.Add(sum, new(big.Int).Mul(big.NewInt(int64(products[i])), big.NewInt(int64(products[i+1]))))
		}
		// Div of math/big rounds down if the divisor is positive.
		return at + int(sum.Div(sum, big.NewInt(1<<20)).Int64())
	}
	return floor(l.X0, l.X1, depth, l.K, bend), floor(l.Y0, l.Y1, depth)
}
