package pattern

import (
	"cmp"
	"iter"
	"slices"

	"hodoscope/api"
)

// maxSteps is the greatest number of steps of the automaton; no chain is so long that more of them would change a state.
const maxSteps = 64

// web is the segments of a face, with what is inside of what.
type web struct {
	*scene
	segments []api.Segment
	// before and after have, for each segment, those that are inside of it, and those that it is inside of: their indices, rising.
	before, after [][]int
}

func weave(d api.Detector, q api.Search, l []api.Point, face int) (*web, api.Errno) {
	s, e := look(d, q, l, face)
	if e != api.OK {
		return nil, e
	}
	segments, e := s.segments()
	if e != api.OK {
		return nil, e
	}
	w := &web{scene: s, segments: segments, before: make([][]int, len(segments)), after: make([][]int, len(segments))}
	begun := make([][]int, len(l))
	for i, g := range segments {
		begun[g.A] = append(begun[g.A], i)
	}
	for i, g := range segments {
		for _, j := range begun[g.B] {
			if s.isInside(g.A, g.B, segments[j].B) {
				w.after[i] = append(w.after[i], j)
				w.before[j] = append(w.before[j], i)
			}
		}
	}
	return w, api.OK
}

// Evolve returns the states of the segments after some steps of the automaton.
func Evolve(d api.Detector, q api.Search, l []api.Point, face, steps int) ([]int, api.Errno) {
	w, e := weave(d, q, l, face)
	if e != api.OK {
		return nil, e
	}
	states := make([]int, len(w.segments))
	for i := range states {
		states[i] = 1
	}
	for range min(max(steps, 0), maxSteps) {
		states = w.step(states)
	}
	return states, api.OK
}

// step returns the states of the segments after one step more.
func (w *web) step(states []int) []int {
	next := slices.Clone(states)
	for i, l := range w.before {
		if slices.ContainsFunc(l, func(j int) bool { return states[j] == states[i] }) {
			next[i]++
		}
	}
	return next
}

// Lengths returns the lengths of the longest chains that end with each segment.
func Lengths(d api.Detector, q api.Search, l []api.Point, face int) ([]int, api.Errno) {
	w, e := weave(d, q, l, face)
	if e != api.OK {
		return nil, e
	}
	return longest(w.before), api.OK
}

// longest returns, for each segment, how many segments the longest chain has that goes on from it by links.
func longest(links [][]int) []int {
	lengths := make([]int, len(links))
	var measure func(i int) int
	measure = func(i int) int {
		if lengths[i] == 0 {
			most := 0
			for _, j := range links[i] {
				most = max(most, measure(j))
			}
			lengths[i] = most + 1
		}
		return lengths[i]
	}
	for i := range links {
		measure(i)
	}
	return lengths
}

// Candidates returns the candidates of all maximal chains.
func Candidates(d api.Detector, q api.Search, l []api.Point, face int) ([]api.Candidate, api.Errno) {
	w, e := weave(d, q, l, face)
	if e != api.OK {
		return nil, e
	}
	reach := longest(w.after)
	var found []api.Candidate
	// Segments and links rise, so the candidates are found in the order of their points.
	for first := range w.firsts() {
		for chain := range w.chains([]int{first}, reach) {
			if len(found) == api.MaxCandidates {
				return nil, api.ErrLong
			}
			found = append(found, w.candidate(chain))
		}
	}
	return found, api.OK
}

// firsts yields the segments that no segment is inside of.
func (w *web) firsts() iter.Seq[int] {
	return func(yield func(int) bool) {
		for i, l := range w.before {
			if len(l) == 0 && !yield(i) {
				return
			}
		}
	}
}

// chains yields the chains with at least Least points that begin with these segments, at least one, and that end with a segment that is inside of none. A chain that it yields is memory of the next ones, too.
func (w *web) chains(begun []int, reach []int) iter.Seq[[]int] {
	return func(yield func([]int) bool) {
		last := begun[len(begun)-1]
		// Only beginnings that can become long enough are followed: of the short chains there may be far too many to go through.
		if len(begun)+reach[last] < w.search.Least {
			return
		}
		if len(w.after[last]) == 0 {
			yield(begun)
			return
		}
		for _, next := range w.after[last] {
			for chain := range w.chains(append(begun, next), reach) {
				if !yield(chain) {
					return
				}
			}
		}
	}
}

// candidate returns that of a chain.
func (w *web) candidate(chain []int) api.Candidate {
	points := []int{w.segments[chain[0]].A}
	weight := w.search.Reward
	for i, g := range chain {
		points = append(points, w.segments[g].B)
		weight += w.search.Reward
		if i > 0 {
			weight -= w.kink(chain[i-1], g)
		}
	}
	return api.Candidate{Face: w.face, Points: points, Weight: max(weight, 1)}
}

// kink returns the sum of both bends of the points of two segments that follow each other.
func (w *web) kink(s, t int) int {
	x, y := w.bends(w.segments[s].A, w.segments[s].B, w.segments[t].B)
	return x + y
}

// Follow returns the candidates that a filter finds.
func Follow(d api.Detector, q api.Search, l []api.Point, face int) ([]api.Candidate, api.Errno) {
	w, e := weave(d, q, l, face)
	if e != api.OK {
		return nil, e
	}
	var found []api.Candidate
	for first := range w.firsts() {
		chain := w.follow(first)
		if len(chain)+1 < q.Least {
			continue
		}
		if len(found) == api.MaxCandidates {
			return nil, api.ErrLong
		}
		found = append(found, w.candidate(chain))
	}
	return found, api.OK
}

// follow returns the chain that the filter makes from its first segment.
func (w *web) follow(first int) []int {
	chain := []int{first}
	last := first
	for len(w.after[last]) > 0 {
		// Of equal ones the first one is taken, which has the least index.
		last = slices.MinFunc(w.after[last], func(s, t int) int {
			return cmp.Or(cmp.Compare(w.endOf(s), w.endOf(t)), cmp.Compare(w.kink(last, s), w.kink(last, t)))
		})
		chain = append(chain, last)
	}
	return chain
}

// endOf returns the place in the Stack of the plane in which a segment ends.
func (w *web) endOf(s int) int {
	return w.places[w.points[w.segments[s].B].Plane]
}
