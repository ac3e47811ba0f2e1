package pattern_test

import (
	"slices"
	"testing"

	"hodoscope/api"
	"hodoscope/pattern"
)

func wantCollide(t *testing.T, a, b string, share int, want bool) {
	t.Helper()
	for _, pair := range [][2]string{{a, b}, {b, a}} {
		c := api.Candidate{Face: 3, Points: numbers(pair[0]), Weight: -7}
		if got := pattern.Collide(c, candidate(9, pair[1]), share); got != want {
			t.Errorf("%q %q %d: %v", pair[0], pair[1], share, got)
		}
		if got := pattern.Knots(sharing(pair[0]+","+pair[1]), share); (len(got) == 1) != want {
			t.Errorf("%q %q %d: %v", pair[0], pair[1], share, got)
		}
	}
}

// TestCollide is P6.9, of Collide: Face and Weight do not matter.
func TestCollide(t *testing.T) {
	for share, want := range []bool{true, true, true, false, false} {
		wantCollide(t, "1 2 3", "1 2 3", share, want)
		wantCollide(t, "1 2 3", "9 3 2 0 1", share, want)
	}
	for _, share := range []int{0, -1, -64, least} {
		wantCollide(t, "1 2 3", "3 4 5", share, true)
		wantCollide(t, "1 2 3", "4 5 6", share, false)
		wantCollide(t, "", "", share, false)
		wantCollide(t, "", "1", share, false)
		wantCollide(t, "1", "1", share, true)
	}
	wantCollide(t, "1 2 3", "3 4 5", 1, false)
	wantCollide(t, "1 2 3", "3 4 1", 1, true)
	wantCollide(t, "1 2 3", "1 2 3", greatest, false)
	// An index that is there twice counts once.
	wantCollide(t, "1 1 2", "1 3 1", 0, true)
	wantCollide(t, "1 1 2", "1 3 1", 1, false)
	wantCollide(t, "1 1 1 1", "1 1 1 1", 1, false)
	wantCollide(t, "2 1 2 1", "1 1 2 2", 1, true)
	wantCollide(t, "2 1 2 1", "1 1 2 2", 2, false)
	// They need not be indices of points.
	wantCollide(t, "-1 9223372036854775807 -9223372036854775808", "-9223372036854775808 5 9223372036854775807", 1, true)
	wantCollide(t, "-1 9223372036854775807 -9223372036854775808", "-9223372036854775808 5 9223372036854775807", 2, false)
}

func wantKnots(t *testing.T, l string, share int, want ...string) {
	t.Helper()
	var lists [][]int
	for _, x := range want {
		lists = append(lists, numbers(x))
	}
	wantSame(t, pattern.Knots(sharing(l), share), lists, l, share)
}

// TestKnots is P6.9, of Knots: a candidate that collides with none is a knot alone.
func TestKnots(t *testing.T) {
	wantSame(t, pattern.Knots(nil, 0), [][]int(nil))
	wantKnots(t, "1 2 3", 0, "0")
	wantKnots(t, "", 0, "0")
	wantKnots(t, ",,", 0, "0", "1", "2")
	wantKnots(t, "1, 2, 3", 0, "0", "1", "2")
	wantKnots(t, "1 2, 2 3, 3 4", 0, "0 1 2")
	wantKnots(t, "1 2, 2 3, 3 4", 1, "0", "1", "2")
	wantKnots(t, "1 2, 2 3, 3 4", -1, "0 1 2")
	// They are ordered by their first indices, and what connects may come last.
	wantKnots(t, "1, 2, 3, 4, 3 1, 4 2", 0, "0 2 4", "1 3 5")
	wantKnots(t, "9, 2, 3, 4, 9, 3 4 2", 0, "0 4", "1 2 3 5")
	wantKnots(t, "1 2, 3 4, 5 6, 7 8, 8 1, 6 7, 4 5", 0, "0 1 2 3 4 5 6")
	wantKnots(t, "1 2 3, 2 3 4, 3 4 5, 4 5 6, 7 1 4, 7 1 9", 1, "0 1 2 3", "4 5")
	wantKnots(t, "1 1 2, 1 1 3, 3 3 1", 1, "0", "1 2")
	// Candidates of other faces, too; and more than may be chosen from.
	l := sharing("1 2, 2 3")
	l[1].Face = 4
	wantSame(t, pattern.Knots(l, 0), [][]int{{0, 1}})
	var row []api.Candidate
	var all []int
	for i := range 5000 {
		row = append(row, api.Candidate{Points: []int{5000 - i, 4999 - i}})
		all = append(all, i)
	}
	wantSame(t, pattern.Knots(row, 0), [][]int{all})
	wantSame(t, len(pattern.Knots(row, 1)), 5000)
}

// weighed returns candidates with these weights, and the points of sharing.
func weighed(weights, l string) []api.Candidate {
	all := sharing(l)
	for i, n := range numbers(weights) {
		all[i].Weight = n
	}
	return all
}

func wantChoose(t *testing.T, weights, l string, share int, want string) {
	t.Helper()
	wanted(t, numbers(want))(pattern.Choose(weighed(weights, l), share))
}

// TestChoose is P6.10.
func TestChoose(t *testing.T) {
	wanted[int](t, nil)(pattern.Choose(nil, 0))
	wantChoose(t, "1", "1 2 3", 0, "0")
	wantChoose(t, "1", "", 0, "0")
	wantChoose(t, "1 1", "1 2, 3 4", 0, "0 1")
	wantChoose(t, "5 6 5", "1 2, 2 3, 3 4", 0, "0 2")
	wantChoose(t, "5 10 5", "1 2, 2 3, 3 4", 0, "0 2")
	wantChoose(t, "5 11 5", "1 2, 2 3, 3 4", 0, "1")
	wantChoose(t, "5 11 5", "1 2, 2 3, 3 4", 1, "0 1 2")
	wantChoose(t, "5 11 5", "1 2, 2 3, 3 4", -3, "1")
	wantChoose(t, "1 2 3", "1, 1, 1", 0, "2")
	wantChoose(t, "1099511627776 1 1099511627775", "1, 2, 1", 0, "0 1")
	// The heaviest one is not of the heaviest set.
	wantChoose(t, "4 4 9 4", "1, 2, 1 2 3, 3", 0, "0 1 3")
	wantChoose(t, "4 4 13 4", "1, 2, 1 2 3, 3", 0, "2")
	// Several knots, of which the second one begins within the first one.
	wantChoose(t, "3 7 8 2 6 1", "1, 2, 1 5, 5, 2 6, 6", 0, "1 2 5")
	// A candidate may share points with itself.
	wantChoose(t, "1 1", "1 1 1, 2 2 2", 0, "0 1")
	wantChoose(t, "1 2", "1 1 1, 1 2 2", 1, "0 1")
}

// TestChooseEqual is P6.10: of several sets with the same sum, the one with the least index that only one has.
func TestChooseEqual(t *testing.T) {
	wantChoose(t, "5 5", "1, 1", 0, "0")
	wantChoose(t, "1 1 2", "1, 2, 1 2", 0, "0 1")
	wantChoose(t, "2 1 1", "1 2, 1, 2", 0, "0")
	wantChoose(t, "1 2 1", "1, 1 2, 2", 0, "0 2")
	wantChoose(t, "1 1 1 1", "1, 1 2, 2 3, 3", 0, "0 2")
	wantChoose(t, "1 1 1 1 1", "1, 1 2, 2 3, 3 4, 4", 0, "0 2 4")
	// 0 and 3 against 1 and 2, and 0 and 2 against 0 and 3.
	wantChoose(t, "3 2 2 1", "1 2, 1 3, 2, 3", 0, "0 3")
	wantChoose(t, "3 2 2 2 1 1", "1 2 3, 1, 4 5, 2 4 6, 5 6, 3 6", 0, "0 2")
	// In each of several knots.
	wantChoose(t, "5 6 5 6 5 6", "1, 2, 1, 2, 1, 2", 0, "0 1")
}

// TestChooseLimits is P6.10: weights, the number of candidates, and of those in a knot.
func TestChooseLimits(t *testing.T) {
	for _, weight := range []int{0, -1, 1<<40 + 1, least, greatest} {
		for i := range 3 {
			l := sharing("1 2, 2 3, 3 4")
			l[i].Weight = weight
			wantRefused[int](t, api.ErrArg)(pattern.Choose(l, 0))
		}
		l := slices.Repeat(sharing("7"), 256)
		l[255].Weight = weight
		wantRefused[int](t, api.ErrArg)(pattern.Choose(l, 0))
		wantRefused[int](t, api.ErrLong)(pattern.Choose(append(l, l...), 0))
	}
	var all []int
	for i := range 256 {
		all = append(all, i)
	}
	lone := slices.Repeat([]api.Candidate{{Weight: 1 << 40}}, 257)
	wanted(t, all)(pattern.Choose(lone[:256], 0))
	wantRefused[int](t, api.ErrLong)(pattern.Choose(lone, 0))
	wanted(t, all)(pattern.Choose(slices.Repeat(sharing("7"), 256), 1))
	// A knot of 24, all of which collide, and a row of 24.
	knot := slices.Repeat(sharing("7"), 25)
	var row []api.Candidate
	var other []int
	for i := range 25 {
		row = append(row, api.Candidate{Points: []int{i + 100, i + 101}, Weight: 1 << 40})
		if i%2 == 0 && i < 24 {
			other = append(other, i)
		}
	}
	knot[23].Weight = 2
	wanted(t, numbers("23"))(pattern.Choose(knot[:24], 0))
	wantRefused[int](t, api.ErrLong)(pattern.Choose(knot, 0))
	wanted(t, other)(pattern.Choose(row[:24], 0))
	wantRefused[int](t, api.ErrLong)(pattern.Choose(row, 0))
	// What comes before a knot, or after it, does not matter.
	wantRefused[int](t, api.ErrLong)(pattern.Choose(append(sharing("1, 2"), knot...), 0))
	wantRefused[int](t, api.ErrLong)(pattern.Choose(append(slices.Clone(knot), sharing("1, 2")...), 0))
	wanted(t, append(other, 47))(pattern.Choose(append(slices.Clone(row[:24]), knot[:24]...), 0))
}

// TestChooseAny holds collisions, knots and choices against the chapter's words, and checks P6.15.
func TestChooseAny(t *testing.T) {
	s := newSource()
	for range 300 {
		l, share := s.candidates(s.from(0, 11)), s.one(-1, 0, 0, 0, 1, 2, 3)
		for _, a := range l {
			for _, b := range l {
				wantSame(t, pattern.Collide(a, b, share), plainCollide(a, b, share), a, b, share)
			}
		}
		wantSame(t, pattern.Knots(l, share), plainKnots(l, share), l, share)
		wanted(t, plainChoose(l, share))(pattern.Choose(l, share))
	}
}

// full returns ten knots of up to 24 candidates each.
func (s source) full() []api.Candidate {
	var l []api.Candidate
	for knot := range 10 {
		for i := range s.from(20, 24) {
			c := api.Candidate{Points: []int{1000*knot + i, 1000*knot + i + 1}, Weight: s.from(1, 9)}
			for range s.Intn(3) * s.Intn(2) {
				c.Points = append(c.Points, 1000*knot+s.Intn(30))
			}
			l = append(l, c)
		}
	}
	return l
}

// TestChooseFull is P6.15, of many candidates: what is chosen does not collide, and nothing that is not chosen would be better, or equal and preferred, instead of what it collides with.
func TestChooseFull(t *testing.T) {
	s := newSource()
	for range 100 {
		l := s.full()
		chosen, e := pattern.Choose(l, 0)
		wantErrno(t, e, api.OK)
		if len(chosen) < 60 || !slices.IsSorted(chosen) {
			t.Error(chosen)
		}
		for i, c := range l {
			var with []int
			lost := 0
			for _, j := range chosen {
				if j != i && pattern.Collide(c, l[j], 0) {
					with = append(with, j)
					lost += l[j].Weight
				}
			}
			if slices.Contains(chosen, i) {
				wantSame(t, with, []int(nil), i)
			} else if lost < c.Weight || lost == c.Weight && with[0] > i {
				t.Errorf("%d %v instead of %v", i, c, with)
			}
		}
	}
}
