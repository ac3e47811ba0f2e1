package pattern_test

import (
	"math/big"
	"slices"

	"hodoscope/api"
	"hodoscope/detector"
)

// What the chapter says, word by word: slow, and for small numbers of things.

func keyOf(c api.Cell) int {
	return c.Plane*1048576 + c.Col*1024 + c.Row
}

func hasKey(c api.Cell) bool {
	return c.Plane >= 0 && c.Plane < 64 && c.Col >= 0 && c.Col < 1024 && c.Row >= 0 && c.Row < 1024
}

func isGood(d api.Detector) bool {
	_, _, e := detector.Check(d)
	return e == api.OK
}

// valueOf is layer 4's Value for a list.
func valueOf(l []api.Entry, key int) int {
	for _, x := range l {
		if x.Key == key {
			return x.Value
		}
	}
	return 0
}

func plainAlive(s api.Snapshot, l []api.Sample) []api.Sample {
	return slices.DeleteFunc(slices.Clone(l), func(m api.Sample) bool {
		return hasKey(m.Cell) && valueOf(s.Kinds[2], keyOf(m.Cell)) != 0
	})
}

func plainValid(d api.Detector, l []api.Sample) bool {
	if !isGood(d) {
		return false
	}
	for i, m := range l {
		c := m.Cell
		if !hasKey(c) || c.Plane >= len(d.Planes) || c.Col >= d.Planes[c.Plane].Cols || c.Row >= d.Planes[c.Plane].Rows {
			return false
		}
		if m.Adc < 1 || m.Adc > 4095 || i > 0 && keyOf(l[i-1].Cell) >= keyOf(c) {
			return false
		}
	}
	return true
}

func areNeighbours(a, b api.Cell) bool {
	col, row := a.Col-b.Col, a.Row-b.Row
	return a.Plane == b.Plane && (col == 0 && (row == 1 || row == -1) || row == 0 && (col == 1 || col == -1))
}

// plainGroups gives each of n things its own number, and then things that belong together the lesser of their numbers, until nothing changes.
func plainGroups(n int, together func(i, j int) bool) [][]int {
	number := make([]int, n)
	for i := range number {
		number[i] = i
	}
	for changed := true; changed; {
		changed = false
		for i := range n {
			for j := range n {
				if number[j] < number[i] && together(i, j) {
					number[i], changed = number[j], true
				}
			}
		}
	}
	var l [][]int
	for first := range n {
		var group []int
		for i := range n {
			if number[i] == first {
				group = append(group, i)
			}
		}
		if len(group) > 0 {
			l = append(l, group)
		}
	}
	return l
}

func plainClusters(d api.Detector, l []api.Sample) ([]api.Cluster, api.Errno) {
	if !plainValid(d, l) {
		return nil, api.ErrArg
	}
	var clusters []api.Cluster
	for _, group := range plainGroups(len(l), func(i, j int) bool { return areNeighbours(l[i].Cell, l[j].Cell) }) {
		c := api.Cluster{Plane: l[group[0]].Cell.Plane}
		for _, i := range group {
			c.Samples = append(c.Samples, l[i])
			c.Charge += l[i].Adc
		}
		clusters = append(clusters, c)
	}
	return clusters, api.OK
}

// mean returns the mean of the centres, rounded down: half of a cell is as wide as half, and there are n cells.
func mean(c api.Cluster, n, half int, number func(api.Cell) int) int {
	sum := new(big.Int)
	for _, m := range c.Samples {
		sum.Add(sum, big.NewInt(int64(m.Adc*(2*number(m.Cell)+1-n)*half)))
	}
	// Div of math/big rounds down if the divisor is positive.
	return int(sum.Div(sum, big.NewInt(int64(c.Charge))).Int64())
}

func plainVariance(c api.Cluster, half int, number func(api.Cell) int) int {
	seen := map[int]bool{}
	for _, m := range c.Samples {
		seen[number(m.Cell)] = true
	}
	if n := half * half / (3 * len(seen)); n > 1 {
		return n
	}
	return 1
}

func column(c api.Cell) int { return c.Col }
func row(c api.Cell) int    { return c.Row }

// plainPoints is for valid clusters, and shifts in their range.
func plainPoints(d api.Detector, s api.Snapshot, l []api.Cluster) []api.Point {
	var points []api.Point
	for _, c := range l {
		p := d.Planes[c.Plane]
		if p.Face == 6 {
			continue
		}
		points = append(points, api.Point{
			Plane: c.Plane,
			X:     mean(c, p.Cols, p.HalfX, column) + valueOf(s.Kinds[3], c.Plane),
			Y:     mean(c, p.Rows, p.HalfY, row) + valueOf(s.Kinds[4], c.Plane),
			VX:    plainVariance(c, p.HalfX, column),
			VY:    plainVariance(c, p.HalfY, row),
		})
	}
	return points
}

// scene is a detector, a search and points, all of which are valid.
type scene struct {
	d api.Detector
	q api.Search
	l []api.Point
}

func (s scene) plane(i int) api.Plane {
	return s.d.Planes[s.l[i].Plane]
}

// between counts the planes between those of two points.
func (s scene) between(a, b int) int {
	n := 0
	for _, p := range s.d.Planes {
		if p.Face == s.plane(a).Face && p.Depth > s.plane(a).Depth && p.Depth < s.plane(b).Depth {
			n++
		}
	}
	return n
}

func (s scene) isSegment(a, b int) bool {
	if s.plane(a).Face != s.plane(b).Face || s.plane(a).Depth >= s.plane(b).Depth || s.between(a, b) > s.q.Skip {
		return false
	}
	reach := s.q.Slope * (s.plane(b).Depth - s.plane(a).Depth)
	for _, n := range []int{s.l[b].X - s.l[a].X, s.l[b].Y - s.l[a].Y} {
		if n*1024 < -reach || n*1024 > reach {
			return false
		}
	}
	return true
}

func (s scene) segments(face int) []api.Segment {
	var l []api.Segment
	for a := range s.l {
		for b := range s.l {
			if s.plane(a).Face == face && s.isSegment(a, b) {
				l = append(l, api.Segment{A: a, B: b})
			}
		}
	}
	return l
}

// bend returns the bend of three numbers at distances u and v.
func bend(a, b, c, u, v int) int {
	whole := func(n int) *big.Int { return big.NewInt(int64(n)) }
	n := new(big.Int).Mul(whole(c-b), whole(u))
	n.Sub(n, new(big.Int).Mul(whole(b-a), whole(v)))
	n.Abs(n).Mul(n, whole(1024))
	return int(n.Div(n, whole(u*v)).Int64())
}

func (s scene) bends(a, b, c int) (x, y int) {
	u, v := s.plane(b).Depth-s.plane(a).Depth, s.plane(c).Depth-s.plane(b).Depth
	return bend(s.l[a].X, s.l[b].X, s.l[c].X, u, v), bend(s.l[a].Y, s.l[b].Y, s.l[c].Y, u, v)
}

func (s scene) isInside(f, g api.Segment) bool {
	if f.B != g.A {
		return false
	}
	x, y := s.bends(f.A, f.B, g.B)
	return x <= s.q.Kink && y <= s.q.Kink
}

func (s scene) states(face, steps int) []int {
	l := s.segments(face)
	states := slices.Repeat([]int{1}, len(l))
	for range steps {
		next := slices.Clone(states)
		for i, g := range l {
			for j, f := range l {
				if s.isInside(f, g) && states[i] == states[j] {
					next[i] = states[i] + 1
				}
			}
		}
		states = next
	}
	return states
}

// length returns that of the longest chain whose last segment it is.
func (s scene) length(l []api.Segment, g api.Segment) int {
	most := 0
	for _, f := range l {
		if s.isInside(f, g) {
			most = max(most, s.length(l, f))
		}
	}
	return most + 1
}

func (s scene) lengths(face int) []int {
	var lengths []int
	l := s.segments(face)
	for _, g := range l {
		lengths = append(lengths, s.length(l, g))
	}
	return lengths
}

// chains returns all chains of a face, those that are not maximal, too.
func (s scene) chains(face int) [][]api.Segment {
	l := s.segments(face)
	var all [][]api.Segment
	for _, g := range l {
		all = append(all, []api.Segment{g})
	}
	for i := 0; i < len(all); i++ {
		for _, g := range l {
			if s.isInside(all[i][len(all[i])-1], g) {
				all = append(all, append(slices.Clone(all[i]), g))
			}
		}
	}
	return all
}

func (s scene) isMaximal(l, chain []api.Segment) bool {
	return !slices.ContainsFunc(l, func(g api.Segment) bool {
		return s.isInside(g, chain[0]) || s.isInside(chain[len(chain)-1], g)
	})
}

func (s scene) candidate(face int, chain []api.Segment) api.Candidate {
	c := api.Candidate{Face: face, Points: []int{chain[0].A}}
	for _, g := range chain {
		c.Points = append(c.Points, g.B)
	}
	c.Weight = s.q.Reward * len(c.Points)
	for i := 0; i+2 < len(c.Points); i++ {
		x, y := s.bends(c.Points[i], c.Points[i+1], c.Points[i+2])
		c.Weight -= x + y
	}
	c.Weight = max(c.Weight, 1)
	return c
}

func (s scene) candidates(face int) ([]api.Candidate, api.Errno) {
	var l []api.Candidate
	all := s.segments(face)
	for _, chain := range s.chains(face) {
		if len(chain)+1 >= s.q.Least && s.isMaximal(all, chain) {
			l = append(l, s.candidate(face, chain))
		}
	}
	if len(l) > 256 {
		return nil, api.ErrLong
	}
	slices.SortFunc(l, func(a, b api.Candidate) int { return slices.Compare(a.Points, b.Points) })
	return l, api.OK
}

// next returns the segment with which the filter goes on.
func (s scene) next(l []api.Segment, last api.Segment) (api.Segment, bool) {
	for skipped := range s.q.Skip + 1 {
		var found []api.Segment
		for _, g := range l {
			if s.isInside(last, g) && s.between(g.A, g.B) == skipped {
				found = append(found, g)
			}
		}
		if len(found) > 0 {
			return slices.MinFunc(found, func(f, g api.Segment) int {
				fx, fy := s.bends(last.A, last.B, f.B)
				gx, gy := s.bends(last.A, last.B, g.B)
				if fx+fy != gx+gy {
					return fx + fy - gx - gy
				}
				return f.B - g.B
			}), true
		}
	}
	return api.Segment{}, false
}

func (s scene) follow(face int) []api.Candidate {
	var found []api.Candidate
	l := s.segments(face)
	for _, first := range l {
		if slices.ContainsFunc(l, func(f api.Segment) bool { return s.isInside(f, first) }) {
			continue
		}
		chain := []api.Segment{first}
		for {
			g, isThere := s.next(l, chain[len(chain)-1])
			if !isThere {
				break
			}
			chain = append(chain, g)
		}
		if len(chain)+1 >= s.q.Least {
			found = append(found, s.candidate(face, chain))
		}
	}
	return found
}

func plainCollide(a, b api.Candidate, share int) bool {
	common := map[int]bool{}
	for _, p := range a.Points {
		if slices.Contains(b.Points, p) {
			common[p] = true
		}
	}
	if share < 0 {
		share = 0
	}
	return len(common) > share
}

func plainKnots(l []api.Candidate, share int) [][]int {
	return plainGroups(len(l), func(i, j int) bool { return plainCollide(l[i], l[j], share) })
}

// isBetter reports whether a set (bits) is to be chosen rather than another one; weight has the weights of both.
func isBetter(a, b int, weightA, weightB int) bool {
	if weightA != weightB {
		return weightA > weightB
	}
	leastOf := (a ^ b) & -(a ^ b)
	return a&leastOf != 0
}

// plainChoose goes through all sets; the limits are not asked for.
func plainChoose(l []api.Candidate, share int) []int {
	best, greatest := 0, 0
	for s := range 1 << len(l) {
		sum, isFree := 0, true
		for i := range l {
			if s>>i&1 == 0 {
				continue
			}
			sum += l[i].Weight
			for j := range i {
				isFree = isFree && (s>>j&1 == 0 || !plainCollide(l[i], l[j], share))
			}
		}
		if isFree && isBetter(s, best, sum, greatest) {
			best, greatest = s, sum
		}
	}
	var chosen []int
	for i := range l {
		if best>>i&1 == 1 {
			chosen = append(chosen, i)
		}
	}
	return chosen
}

// plainFind is for few candidates of each face.
func plainFind(d api.Detector, s api.Snapshot, q api.Search, l []api.Sample) ([]api.Point, []api.Candidate) {
	clusters, _ := plainClusters(d, plainAlive(s, l))
	found := scene{d, q, plainPoints(d, s, clusters)}
	var all []api.Candidate
	for face := range 6 {
		candidates, _ := found.candidates(face)
		for _, i := range plainChoose(candidates, q.Share) {
			all = append(all, candidates[i])
		}
	}
	return found.l, all
}
