package detector

import (
	"iter"

	"hodoscope/api"
)

// checkCables returns the index of the first cable that has a fault, and the fault. As most functions check their detector first, each cable is held only against those that it might collide with: those of its chip, and those of its plane.
func checkCables(l []api.Cable, planes []api.Plane) (int, api.Errno) {
	chips := newChains(api.MaxLinks*api.MaxSlots, len(l))
	blocks := newChains(len(planes), len(l))
	for i, c := range l {
		if e := checkCable(c, planes); e != api.OK {
			return i, e
		}
		chip := c.Link*api.MaxSlots + c.Slot
		for j := range chips.of(chip) {
			if areBothLive(&c, &l[j]) {
				return i, api.ErrThere
			}
		}
		for j := range blocks.of(c.Plane) {
			if areBothLive(&c, &l[j]) && haveCommonCell(&c, &l[j]) {
				return i, api.ErrThere
			}
		}
		chips.add(chip, i)
		blocks.add(c.Plane, i)
	}
	return 0, api.OK
}

func checkCable(c api.Cable, planes []api.Plane) api.Errno {
	if !isWithin(c.Link, 0, api.MaxLinks-1) || !isWithin(c.Slot, 0, api.MaxSlots-1) || !isSpan(c.From, c.To, api.MaxTime) {
		return api.ErrRange
	}
	if !isWithin(c.Plane, 0, len(planes)-1) {
		return api.ErrNone
	}
	if !isBlock(c, planes[c.Plane]) {
		return api.ErrRange
	}
	return api.OK
}

// isBlock reports whether a cable's block is inside its plane, and not too large.
func isBlock(c api.Cable, p api.Plane) bool {
	return isPart(c.Col, c.Wide, p.Cols) && isPart(c.Row, c.High, p.Rows) && c.Wide*c.High <= api.MaxChip
}

// isPart reports whether n numbers from first on, at least one, are all from 0 to below all. (The sum of first and n may leave an int.)
func isPart(first, n, all int) bool {
	return first >= 0 && n >= 1 && n <= all-first
}

// Cables that are held against each other are not copied: that would take most of the time of a check.

func areBothLive(a, b *api.Cable) bool {
	return haveCommon(a.From, a.To, b.From, b.To)
}

// haveCommonCell reports whether two blocks of the same plane have a common cell.
func haveCommonCell(a, b *api.Cable) bool {
	return haveCommon(a.Col, a.Col+a.Wide, b.Col, b.Col+b.Wide) && haveCommon(a.Row, a.Row+a.High, b.Row, b.Row+b.High)
}

// chains are lists of indices by keys, each from the latest one back. Numbers are one more than the index, 0 is none.
type chains struct {
	latest []int
	before []int
}

func newChains(keys, indices int) chains {
	return chains{latest: make([]int, keys), before: make([]int, indices)}
}

func (c chains) add(key, index int) {
	c.before[index] = c.latest[key]
	c.latest[key] = index + 1
}

// of yields the indices that were added for the key.
func (c chains) of(key int) iter.Seq[int] {
	return func(yield func(int) bool) {
		for n := c.latest[key]; n > 0; n = c.before[n-1] {
			if !yield(n - 1) {
				return
			}
		}
	}
}
