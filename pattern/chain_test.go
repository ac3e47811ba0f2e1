package pattern_test

import (
	"slices"
	"strings"
	"testing"

	"hodoscope/api"
	"hodoscope/pattern"
)

// straight returns one point in each of so many planes, all on the axis.
func straight(planes int) []api.Point {
	var l []api.Point
	for plane := range planes {
		l = append(l, api.Point{Plane: plane, VX: 1, VY: 1})
	}
	return l
}

// TestLengths is P6.6, of Lengths.
func TestLengths(t *testing.T) {
	d, q := tower(6), search("0 1048576 0 2 1 0")
	lengths := func(l, want string) {
		t.Helper()
		wanted(t, numbers(want))(pattern.Lengths(d, q, points(l), 0))
	}
	lengths("", "")
	lengths("0 0 0", "")
	lengths("0 0 0  1 5 0", "1")
	// In order, and in another one: the segments are those by rising A.
	lengths("0 0 0  1 0 0  2 0 0  3 0 0", "1 2 3")
	lengths("3 0 0  2 0 0  1 0 0  0 0 0", "3 2 1")
	// A bend in the middle ends the chain, and begins another one: (0, 1), (1, 2) and (2, 3), (3, 4).
	lengths("0 0 0  1 0 0  2 0 0  3 1 0  4 2 0", "1 2 1 2")
	// Of two chains the longer one counts: (2, 3) ends those from 0 by 1, and from 4.
	lengths("0 0 0  1 0 0  2 0 0  3 0 0  1 0 0", "1 1 2 3 2")
	lengths("1 4 0  2 5 0  0 3 0  1 5 0  2 5 0  3 5 0", "2 2 2 1 1 1 1 2")
	// With skips, both ways from one point to another one count.
	q.Skip = 1
	lengths("0 0 0  1 0 0  2 0 0", "1 1 2")
	// Faces without planes, or without points.
	for face := range 6 {
		wanted(t, numbers(strings.Repeat("1 2", ones(face == 0))))(pattern.Lengths(plain(), steady(), straight(3), face))
	}
	wanted(t, slices.Repeat([]int{1}, 4))(pattern.Lengths(d, search("0 0 0 64 1 0"), grid(2, 2, 2), 0))
}

// TestEvolve is P6.6, of Evolve: a chain of 64 points has 63 segments, so that 62 steps are the last ones that change something.
func TestEvolve(t *testing.T) {
	d, q := tower(64), search("0 0 0 2 1 0")
	var whole []int
	for i := range 63 {
		whole = append(whole, i+1)
	}
	for _, steps := range []int{least, -64, -1, 0, 1, 2, 30, 61, 62, 63, 64, 65, 1000, greatest} {
		want := slices.Clone(whole)
		for i := range want {
			want[i] = min(want[i], max(steps, 0)+1)
			want[i] = max(want[i], 1)
		}
		if steps > 64 {
			want = whole
		}
		wanted(t, want)(pattern.Evolve(d, q, straight(64), 0, steps))
	}
	// All at once, whatever the order of the indices is.
	back := straight(5)
	slices.Reverse(back)
	for steps, want := range []string{"1 1 1 1", "2 2 2 1", "3 3 2 1", "4 3 2 1", "4 3 2 1"} {
		wanted(t, numbers(want))(pattern.Evolve(d, q, back, 0, steps))
	}
	// Two chains that join, and go on together.
	both := points("0 0 0  1 0 0  2 0 0  3 0 0  1 0 0  4 0 0")
	for steps, want := range []string{"1 1 1 1 1 1", "1 1 2 2 2 2", "1 1 2 3 3 2", "1 1 2 3 4 2", "1 1 2 3 4 2"} {
		wanted(t, numbers(want))(pattern.Evolve(d, q, both, 0, steps))
	}
	for face := 1; face < 6; face++ {
		wanted[int](t, nil)(pattern.Evolve(d, q, both, face, 3))
	}
}

func wantCandidates(t *testing.T, d api.Detector, q api.Search, l string, want ...api.Candidate) {
	t.Helper()
	wanted(t, want)(pattern.Candidates(d, q, points(l), 0))
}

func wantFollow(t *testing.T, d api.Detector, q api.Search, l string, want ...api.Candidate) {
	t.Helper()
	wanted(t, want)(pattern.Follow(d, q, points(l), 0))
}

// TestCandidates is P6.7.
func TestCandidates(t *testing.T) {
	d, q := tower(6), search("0 2048 1024 3 1000 0")
	wantCandidates(t, d, q, "")
	wantCandidates(t, d, q, "0 0 0  1 0 0")
	wantCandidates(t, d, q, "0 0 0  1 0 0  2 0 0", candidate(3000, "0 1 2"))
	wantCandidates(t, d, q, "2 0 0  1 0 0  0 0 0", candidate(3000, "2 1 0"))
	// Chains that begin, or end, with the same segments, in the order of their points.
	wantCandidates(t, d, q, "3 1 0  0 0 0  1 0 0  2 0 0  3 0 0", candidate(3898, "1 2 3 0"), candidate(4000, "1 2 3 4"))
	wantCandidates(t, d, q, "0 0 0  1 0 0  2 0 0  3 0 0  0 1 0", candidate(4000, "0 1 2 3"), candidate(3898, "4 1 2 3"))
	wantCandidates(t, d, q, "0 0 0  1 0 0  2 0 0  1 0 2  3 0 0", candidate(4000, "0 1 2 4"), candidate(4000-409-204, "0 3 2 4"))
	// A chain that is a part of a longer one is not maximal; one that ends where another one goes on is.
	wantCandidates(t, d, q, "0 0 0  1 0 0  2 0 0  3 0 0  4 0 0  5 0 0", candidate(6000, "0 1 2 3 4 5"))
	wantCandidates(t, d, q, "0 0 0  1 0 0  2 0 0  3 11 0", candidate(3000, "0 1 2"))
	wantCandidates(t, d, q, "0 0 0  1 0 0  2 0 0  3 11 0  4 22 0", candidate(3000, "0 1 2"), candidate(3000, "2 3 4"))
	// Just Least points, and one fewer.
	lone := "0 0 0  1 0 0  2 0 0  3 0 0  0 99 0  1 99 0"
	all := []api.Candidate{candidate(4000, "0 1 2 3"), candidate(2000, "4 5")}
	for _, x := range []struct{ least, found int }{{2, 2}, {3, 1}, {4, 1}, {5, 0}, {64, 0}} {
		q.Least = x.least
		wantCandidates(t, d, q, lone, all[:x.found]...)
		wantFollow(t, d, q, lone, all[:x.found]...)
	}
	// Points without segments are no chains.
	q.Least = 2
	wantCandidates(t, d, q, "0 0 0  2 0 0  4 0 0")
	// Skipped planes: each way is a chain of its own, which does not become another one by more points.
	q.Skip = 1
	wantCandidates(t, d, q, "0 0 0  1 0 0  2 0 0", candidate(3000, "0 1 2"), candidate(2000, "0 2"))
	wantCandidates(t, d, q, "0 0 0  2 0 0  4 0 0", candidate(3000, "0 1 2"))
}

// TestWeights is P6.7: Reward for each point, less the bends, but at least 1.
func TestWeights(t *testing.T) {
	d, bent := tower(6), "0 0 0  1 0 0  2 1 0  3 2 1  4 3 1"
	for _, x := range []struct{ reward, weight int }{{1000, 5000 - 306}, {62, 4}, {61, 1}, {1, 1}, {1 << 20, 5<<20 - 306}} {
		q := search("0 2048 1024 3 1 0")
		q.Reward = x.reward
		wantCandidates(t, d, q, bent, candidate(x.weight, "0 1 2 3 4"))
		wantFollow(t, d, q, bent, candidate(x.weight, "0 1 2 3 4"))
	}
	// Two points have no bends.
	wantCandidates(t, d, search("0 2048 1024 2 1 0"), "0 0 0  1 9 9", candidate(2, "0 1"))
	// Both bends count, of each three points, with their depths: 1024 (20 a + 10 b) / 200 and so on.
	wantCandidates(t, d, search("1 2048 1024 4 1000 0"), "0 0 0  1 0 0  3 2 -4  4 3 -6", candidate(4000-102-204, "0 1 2 3"))
}

// TestFaces is P6.7 and P6.8: each face has its own candidates.
func TestFaces(t *testing.T) {
	d, q := rich(), search("0 1048576 1048576 2 100 0")
	l := points("4 0 0  5 0 0  2 0 0  7 0 0  0 0 0  3 0 0")
	want := map[int][]api.Candidate{0: {{Face: 0, Points: numbers("0 2 4"), Weight: 300}}, 5: {{Face: 5, Points: numbers("3 1"), Weight: 200}}}
	for face := range 6 {
		wanted(t, want[face])(pattern.Candidates(d, q, l, face))
		wanted(t, want[face])(pattern.Follow(d, q, l, face))
	}
}

// pairsOf returns one point in the first plane of a tower, and two in each of so many next ones.
func pairsOf(planes int) []api.Point {
	l := straight(planes + 1)
	for _, p := range l[1:] {
		p.Y = 1
		l = append(l, p)
	}
	return l
}

// TestCandidatesLong is P6.7 and P6.8: 256 chains that are long enough, and one more.
func TestCandidatesLong(t *testing.T) {
	d := tower(10)
	q := search("0 1024 1024 2 1 0")
	for _, find := range []func(api.Detector, api.Search, []api.Point, int) ([]api.Candidate, api.Errno){pattern.Candidates, pattern.Follow} {
		for _, l := range [][]api.Point{grid(0, 16, 16), grid(0, 1, 256), grid(0, 256, 1)} {
			found, e := find(d, q, l, 0)
			if e != api.OK || len(found) != 256 {
				t.Error(len(found), e)
			}
		}
		short := q
		short.Least = 3
		for _, l := range [][]api.Point{grid(0, 1, 257), grid(0, 257, 1), grid(0, 64, 64)} {
			wantRefused[api.Candidate](t, api.ErrLong)(find(d, q, l, 0))
			wanted[api.Candidate](t, nil)(find(d, short, l, 0))
		}
	}
	found, e := pattern.Candidates(d, q, pairsOf(8), 0)
	if e != api.OK || len(found) != 256 || !slices.IsSortedFunc(found, func(a, b api.Candidate) int { return slices.Compare(a.Points, b.Points) }) {
		t.Error(len(found), e)
	}
	more := append(pairsOf(8), points("8 0 1")...)
	wantRefused[api.Candidate](t, api.ErrLong)(pattern.Candidates(d, q, more, 0))
	// The filter finds fewer.
	found, e = pattern.Follow(d, q, more, 0)
	if e != api.OK || len(found) != 2 {
		t.Error(found, e)
	}
}

// TestCandidatesMany is P0.1: of chains that are too short there may be more than anyone can go through.
func TestCandidatesMany(t *testing.T) {
	d, q := tower(64), search("0 102400 300 64 1000 0")
	wanted[api.Candidate](t, nil)(pattern.Candidates(d, q, pairsOf(62), 0))
	wantRefused[api.Candidate](t, api.ErrLong)(pattern.Candidates(d, q, pairsOf(63), 0))
	// One long chain, from which many others go off that are too short by one point.
	l := straight(64)
	for plane := 1; plane < 63; plane++ {
		l = append(l, api.Point{Plane: plane, X: 1000 * plane, VX: 1, VY: 1}, api.Point{Plane: plane, X: 1000 * plane, Y: 1, VX: 1, VY: 1})
	}
	var whole []int
	for i := range 64 {
		whole = append(whole, i)
	}
	want := []api.Candidate{{Points: whole, Weight: 64000}}
	wanted(t, want)(pattern.Candidates(d, q, l, 0))
	wanted(t, want)(pattern.Follow(d, q, straight(64), 0))
}

// TestFollow is P6.8: the nearest plane, the least sum of bends, the least index.
func TestFollow(t *testing.T) {
	d, q := tower(6), search("1 2048 600 3 10000 0")
	wantFollow(t, d, q, "")
	wantFollow(t, d, q, "0 0 0  1 0 0")
	begin := "0 0 0  1 0 0  "
	// A nearer plane before a lesser bend, and the first one of a point within Kink.
	wantFollow(t, d, q, begin+"2 5 0  3 0 0", candidate(30000-512, "0 1 2"))
	wantFollow(t, d, q, begin+"2 0 11  3 0 0", candidate(30000, "0 1 3"))
	wantFollow(t, d, q, begin+"2 0 25  3 0 0", candidate(30000, "0 1 3"))
	wantFollow(t, d, q, begin+"4 0 0")
	wantFollow(t, d, q, "0 99 0  "+begin+"4 0 0  3 0 0", candidate(40000, "1 2 4 3"))
	// The sum of both bends, not the greater one, nor one of them.
	wantFollow(t, d, q, begin+"2 2 2  2 3 0", candidate(30000-307, "0 1 3"))
	wantFollow(t, d, q, begin+"2 -2 2  2 0 -3", candidate(30000-307, "0 1 3"))
	wantFollow(t, d, q, begin+"2 1 4  2 2 2", candidate(30000-408, "0 1 3"))
	wantFollow(t, d, q, begin+"2 4 1  2 2 2", candidate(30000-408, "0 1 3"))
	// The same sums: the least index.
	for _, l := range []string{"2 0 3  2 3 0", "2 3 0  2 0 3", "2 -3 0  2 0 3  2 3 0", "2 0 -3  2 0 3", "2 3 0  2 3 0"} {
		wantFollow(t, d, q, begin+l, candidate(30000-307, "0 1 2"))
	}
	wantFollow(t, d, q, "2 0 3  0 0 0  2 3 0  1 0 0", candidate(30000-307, "1 3 0"))
	// The filter does not look ahead: the longest chain goes by 3.
	q.Skip = 0
	ahead := begin + "2 1 0  2 -2 0  3 -4 0  4 -6 0"
	wantFollow(t, d, q, ahead, candidate(30000-102, "0 1 2"), candidate(30000-307, "2 4 5"))
	wantCandidates(t, d, q, ahead, candidate(30000-102, "0 1 2"), candidate(50000-204, "0 1 3 4 5"), candidate(30000-307, "2 4 5"))
}

// TestFollowFirsts is P6.8: the chains begin with the segments that no segment is inside of, in their order, if they become long enough.
func TestFollowFirsts(t *testing.T) {
	d, q := tower(6), search("0 2048 1024 3 1000 0")
	two := "0 9 0  0 0 0  1 0 0  2 0 0  3 0 0  1 9 0  2 18 0"
	wantFollow(t, d, q, two, candidate(3079, "0 2 3 4"), candidate(2158, "0 5 3 4"), candidate(4000, "1 2 3 4"), candidate(3000, "1 5 6"))
	q.Least = 4
	wantFollow(t, d, q, two, candidate(3079, "0 2 3 4"), candidate(2158, "0 5 3 4"), candidate(4000, "1 2 3 4"))
	q.Least = 5
	wantFollow(t, d, q, two)
}

// TestChainsAny holds lengths, states and candidates against the chapter's words, and checks P6.13 and P6.14.
func TestChainsAny(t *testing.T) {
	s := newSource()
	var candidates, followed, long int
	for range 1500 {
		d := s.detector()
		v := scene{d, s.search(), s.points(d, 14)}
		for face := range 6 {
			lengths := v.lengths(face)
			wanted(t, lengths)(pattern.Lengths(d, v.q, v.l, face))
			steps := s.one(-1, 0, 1, 2, 3, 63, 64, 65, greatest)
			states, e := pattern.Evolve(d, v.q, v.l, face, steps)
			wantErrno(t, e, api.OK)
			wantSame(t, states, v.states(face, min(max(steps, 0), 9)), v, steps)
			for i, n := range lengths {
				wantSame(t, states[i], min(min(max(steps, 0), 64)+1, n))
				long = max(long, n)
			}
			all, e := v.candidates(face)
			found, foundE := pattern.Candidates(d, v.q, v.l, face)
			wantErrno(t, foundE, e, v)
			wantSame(t, found, all, v)
			some := v.follow(face)
			wanted(t, some)(pattern.Follow(d, v.q, v.l, face))
			for _, c := range some {
				if e == api.OK && !slices.ContainsFunc(found, func(b api.Candidate) bool { return same(b, c) }) {
					t.Error(c, found)
				}
			}
			candidates += len(all)
			followed += len(some)
		}
	}
	if candidates < 1000 || followed < 500 || long < 4 {
		t.Error("few", candidates, followed, long)
	}
}
