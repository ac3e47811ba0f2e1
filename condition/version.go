package condition

import (
	"cmp"
	"slices"

	"hodoscope/api"
)

// version has its spans by rising times.
type version struct {
	isClosed bool
	spans    []span
}

// span has the list from its time on, until that of the next span. Versions that were begun from each other have lists in common, so a list is replaced, but never changed.
type span struct {
	time int
	list []api.Entry
}

// place returns the index of the span at a time and true, or the index that it would have and false.
func (v *version) place(time int) (int, bool) {
	return slices.BinarySearchFunc(v.spans, time, func(s span, time int) int { return cmp.Compare(s.time, time) })
}

// at returns the list of the greatest span that is not above the time, and whether there is one.
func (v *version) at(time int) ([]api.Entry, bool) {
	after, isThere := v.place(time)
	if isThere {
		after++
	}
	if after == 0 {
		return nil, false
	}
	return v.spans[after-1].list, true
}

// put returns whether there was room for the list.
func (v *version) put(time int, l []api.Entry) bool {
	i, isThere := v.place(time)
	if isThere {
		v.spans[i].list = l
		return true
	}
	if len(v.spans) == api.MaxSpans {
		return false
	}
	v.spans = slices.Insert(v.spans, i, span{time, l})
	return true
}

// drop returns whether there was a span at the time.
func (v *version) drop(time int) bool {
	i, isThere := v.place(time)
	if isThere {
		v.spans = slices.Delete(v.spans, i, i+1)
	}
	return isThere
}

// copyOf returns a list in memory of its own.
func copyOf(l []api.Entry) []api.Entry {
	return append([]api.Entry(nil), l...)
}
