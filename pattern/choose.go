package pattern

import (
	"iter"
	"math/bits"
	"slices"

	"hodoscope/api"
)

// Collide reports whether two candidates collide.
func Collide(a, b api.Candidate, share int) bool {
	common := 0
	others := different(b.Points)
	for _, p := range different(a.Points) {
		if _, isThere := slices.BinarySearch(others, p); isThere {
			common++
		}
	}
	return common > max(share, 0)
}

// Knots returns the knots of candidates.
func Knots(l []api.Candidate, share int) [][]int {
	return groups(len(l), collisions(l, share))
}

// collisions yields the pairs of candidates that collide, each pair once. It goes by points, so that candidates without a common one cost nothing.
func collisions(l []api.Candidate, share int) iter.Seq2[int, int] {
	return func(yield func(int, int) bool) {
		holders := map[int][]int{}
		common := make([]int, len(l))
		for i, c := range l {
			points := different(c.Points)
			for _, p := range points {
				for _, j := range holders[p] {
					if common[j] == max(share, 0) && !yield(j, i) {
						return
					}
					common[j]++
				}
			}
			for _, p := range points {
				for _, j := range holders[p] {
					common[j] = 0
				}
				holders[p] = append(holders[p], i)
			}
		}
	}
}

// Choose returns the set of candidates of greatest weight.
func Choose(l []api.Candidate, share int) ([]int, api.Errno) {
	if len(l) > api.MaxCandidates {
		return nil, api.ErrLong
	}
	for _, c := range l {
		if !isWithin(c.Weight, 1, api.MaxWeight) {
			return nil, api.ErrArg
		}
	}
	var chosen []int
	for _, members := range Knots(l, share) {
		if len(members) > api.MaxKnot {
			return nil, api.ErrLong
		}
		best := tie(l, members, share).best()
		for i, member := range members {
			if best.has(i) {
				chosen = append(chosen, member)
			}
		}
	}
	slices.Sort(chosen)
	return chosen, api.OK
}

// set is a set of the candidates of a knot, a bit for each.
type set uint32

func (s set) has(i int) bool {
	return s>>i&1 == 1
}

// first returns the least number in a set that is not empty.
func (s set) first() int {
	return bits.TrailingZeros32(uint32(s))
}

// knot is candidates that are chosen from without regard to others: their weights, and for each the set of those after it with which it collides.
type knot struct {
	weights []int
	rivals  []set
}

func tie(l []api.Candidate, members []int, share int) knot {
	k := knot{rivals: make([]set, len(members))}
	for i, a := range members {
		k.weights = append(k.weights, l[a].Weight)
		for j, b := range members[:i] {
			if Collide(l[a], l[b], share) {
				k.rivals[j] |= 1 << i
			}
		}
	}
	return k
}

// best returns the set of greatest weight without rivals.
func (k knot) best() set {
	var best set
	greatest := 0
	// Of two sets the one that is preferred comes first, so one of the same weight never takes its place. rest is the weight of all that is open.
	var decide func(taken, open set, weight, rest int)
	decide = func(taken, open set, weight, rest int) {
		if weight+rest <= greatest {
			return
		}
		if open == 0 {
			best, greatest = taken, weight
			return
		}
		i := open.first()
		without := open &^ (1 << i)
		allowed := without &^ k.rivals[i]
		decide(taken|1<<i, allowed, weight+k.weights[i], k.sum(allowed))
		decide(taken, without, weight, rest-k.weights[i])
	}
	all := set(1)<<len(k.weights) - 1
	decide(0, all, 0, k.sum(all))
	return best
}

// sum returns the weight of a set.
func (k knot) sum(s set) int {
	sum := 0
	for s != 0 {
		i := s.first()
		sum += k.weights[i]
		s &^= 1 << i
	}
	return sum
}
