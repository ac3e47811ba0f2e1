package vertex

import (
	"iter"
	"slices"

	"hodoscope/api"
	"hodoscope/exact"
	"hodoscope/linear"
)

// pair is the indices of two rays, the lesser one first.
type pair [2]int

// pairs yields the pairs of a list that ascends, by their first index, then by their second one.
func pairs(l []int) iter.Seq[pair] {
	return func(yield func(pair) bool) {
		for k, i := range l {
			for _, j := range l[k+1:] {
				if !yield(pair{i, j}) {
					return
				}
			}
		}
	}
}

// leastOf returns, of those that have a number, the first one whose number is least, and that number.
func leastOf[T any](l iter.Seq[T], number func(x T) (api.Ratio, bool)) (best T, n api.Ratio, is bool) {
	for x := range l {
		m, has := number(x)
		if has && (!is || exact.Compare(m, n) < 0) {
			best, n, is = x, m, true
		}
	}
	return best, n, is
}

// set is some rays, with what they and the prior say, and the Chi of their fit.
type set struct {
	rays  []int
	known api.Info
	chi   api.Ratio
}

// search is what Find works on: what each ray says, which rays are free, the Chi of each pair that may begin a set, and the pairs that are rejected.
type search struct {
	prior    api.Info
	limit    api.Ratio
	said     []api.Info
	free     []int
	chis     map[pair]api.Ratio
	rejected map[pair]bool
}

func newSearch(prior api.Info, l []api.Ray, limit api.Ratio) *search {
	s := &search{prior: prior, limit: limit, free: indices(len(l)), chis: map[pair]api.Ratio{}, rejected: map[pair]bool{}}
	for _, r := range l {
		s.said = append(s.said, measured(blank(), r))
	}
	for p := range pairs(s.free) {
		chi, is := chiOf(s.known(p))
		if is && exact.Compare(chi, limit) <= 0 {
			s.chis[p] = chi
		}
	}
	return s
}

// chiOf returns the Chi of a fit, if it is determined: what is left of what is known if all parameters are free.
func chiOf(f api.Info) (api.Ratio, bool) {
	rest, e := linear.Marginal(f, nil)
	return rest.C, e == api.OK
}

func combined(f, g api.Info) api.Info {
	return sure(linear.Combine(f, g))
}

// known returns what a pair and the prior say.
func (s *search) known(p pair) api.Info {
	return combined(combined(s.prior, s.said[p[0]]), s.said[p[1]])
}

// beginnings yields, again and again, the pair with the least Chi that may begin a set.
func (s *search) beginnings() iter.Seq[pair] {
	may := func(p pair) (api.Ratio, bool) {
		chi, is := s.chis[p]
		return chi, is && !s.rejected[p]
	}
	return func(yield func(pair) bool) {
		for {
			p, _, is := leastOf(pairs(s.free), may)
			if !is || !yield(p) {
				return
			}
		}
	}
}

// grown returns the set that begins with a pair, and takes one free ray after the other.
func (s *search) grown(p pair) set {
	now := set{rays: p[:], known: s.known(p), chi: s.chis[p]}
	for {
		i, chi, is := leastOf(slices.Values(s.free), func(i int) (api.Ratio, bool) {
			if slices.Contains(now.rays, i) {
				return api.Ratio{}, false
			}
			return chiOf(combined(now.known, s.said[i]))
		})
		if !is || exact.Compare(chi, exact.Plus(now.chi, s.limit)) > 0 {
			return now
		}
		now = set{rays: append(now.rays, i), known: combined(now.known, s.said[i]), chi: chi}
	}
}

// take returns the vertex of a set, whose rays are not free any more.
func (s *search) take(end set) api.Vertex {
	v := sure(estimated(end.known))
	v.Rays = slices.Sorted(slices.Values(end.rays))
	s.free = slices.DeleteFunc(s.free, func(i int) bool { return slices.Contains(v.Rays, i) })
	return v
}

// vertices returns the vertices that have enough rays.
func (s *search) vertices(enough int) []api.Vertex {
	var found []api.Vertex
search:
	for p := range s.beginnings() {
		end := s.grown(p)
		switch {
		case len(end.rays) >= enough:
			found = append(found, s.take(end))
		case len(s.free) < enough:
			// No set could have enough: all pairs would be rejected.
			break search
		default:
			s.rejected[p] = true
		}
	}
	return found
}

// Find returns the vertices of rays, and the rays that are in none.
func Find(prior api.Info, l []api.Ray, limit api.Ratio, least int) (found []api.Vertex, loose []int, e api.Errno) {
	if e := checkRays(prior, l); e != api.OK {
		return nil, nil, e
	}
	if exact.Signum(limit) < 0 {
		return nil, nil, api.ErrArg
	}
	s := newSearch(prior, l, limit)
	found = s.vertices(least)
	return found, s.free, api.OK
}
