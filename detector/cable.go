package detector

import (
	"cmp"
	"iter"
	"slices"

	"hodoscope/api"
)

// Live returns the cables that are live at a time.
func Live(d api.Detector, time int) []int {
	if !isValid(d) {
		return nil
	}
	var l []int
	for i := range live(d.Cables, time) {
		l = append(l, i)
	}
	return l
}

// live yields the cables that are live at a time, each with its index.
func live(cables []api.Cable, time int) iter.Seq2[int, api.Cable] {
	return func(yield func(int, api.Cable) bool) {
		for i, c := range cables {
			if c.From <= time && time < c.To && !yield(i, c) {
				return
			}
		}
	}
}

// Times returns the times at which cables change.
func Times(d api.Detector) []int {
	if !isValid(d) {
		return nil
	}
	var l []int
	for _, c := range d.Cables {
		l = append(l, c.From, c.To)
	}
	slices.Sort(l)
	return slices.Compact(l)
}

// Chips returns the chips that are connected at a time.
func Chips(d api.Detector, time int) []api.Chip {
	if !isValid(d) {
		return nil
	}
	var l []api.Chip
	for _, c := range live(d.Cables, time) {
		l = append(l, chipOf(c))
	}
	slices.SortFunc(l, func(a, b api.Chip) int {
		return cmp.Or(cmp.Compare(a.Link, b.Link), cmp.Compare(a.Slot, b.Slot))
	})
	return l
}

func chipOf(c api.Cable) api.Chip {
	return api.Chip{Link: c.Link, Slot: c.Slot}
}

// Resolve returns the cell that an address of a chip has at a time.
func Resolve(d api.Detector, time int, c api.Chip, addr int) (api.Cell, api.Errno) {
	if !isValid(d) {
		return api.Cell{}, api.ErrArg
	}
	for _, cable := range live(d.Cables, time) {
		if chipOf(cable) != c {
			continue
		}
		if !isWithin(addr, 0, cable.Wide*cable.High-1) {
			return api.Cell{}, api.ErrRange
		}
		return cellAt(cable, addr), api.OK
	}
	return api.Cell{}, api.ErrNone
}

// cellAt returns the cell of a cable's block that has an address from 0 to below the number of its cells.
func cellAt(c api.Cable, addr int) api.Cell {
	return api.Cell{Plane: c.Plane, Col: c.Col + addr/c.High, Row: c.Row + addr%c.High}
}

// Where returns the chip and the address of a cell at a time.
func Where(d api.Detector, time int, c api.Cell) (api.Chip, int, api.Errno) {
	if !isValid(d) {
		return api.Chip{}, 0, api.ErrArg
	}
	for _, cable := range live(d.Cables, time) {
		if addr, ok := addressOf(cable, c); ok {
			return chipOf(cable), addr, api.OK
		}
	}
	return api.Chip{}, 0, api.ErrNone
}

// addressOf returns the address of a cell, if it is in a cable's block. For a cell outside of it, whatever the numbers are, what is computed is the address of another cell, or of none.
func addressOf(c api.Cable, cell api.Cell) (int, bool) {
	addr := (cell.Col-c.Col)*c.High + cell.Row - c.Row
	if !isWithin(addr, 0, c.Wide*c.High-1) || cellAt(c, addr) != cell {
		return 0, false
	}
	return addr, true
}
