package pattern_test

import (
	"slices"
	"testing"

	"hodoscope/api"
	"hodoscope/pattern"
)

// spoil changes a list, with the room behind it.
func spoil[T any](l []T, x T) {
	for i := range l[:cap(l)] {
		l[:cap(l)][i] = x
	}
}

// roomy returns a list with room behind it, in which there is x.
func roomy[T any](l []T, x T) []T {
	l = append(slices.Grow(slices.Clone(l), 9), x, x)
	return l[:len(l)-2]
}

// wantKept checks that a list, and the x that roomy put behind it, are as they were.
func wantKept[T any](t *testing.T, l, want []T, x T) {
	t.Helper()
	wantSame(t, l[:len(l)+2], append(slices.Clone(want), x, x))
}

var (
	oddSample    = api.Sample{Cell: api.Cell{Plane: -9}, Adc: -9}
	oddPoint     = api.Point{Plane: -9}
	oddCluster   = api.Cluster{Plane: -9}
	oddCandidate = api.Candidate{Face: -9}
	oddEntry     = api.Entry{Key: -9}
	oddPlane     = api.Plane{Face: -9}
)

// kept is a detector and a snapshot with room behind their lists.
type kept struct {
	d api.Detector
	s api.Snapshot
}

func keptOf(d api.Detector, s api.Snapshot) kept {
	d.Planes = roomy(d.Planes, oddPlane)
	for kind := range s.Kinds {
		s.Kinds[kind] = roomy(s.Kinds[kind], oddEntry)
	}
	return kept{d, s}
}

func (k kept) check(t *testing.T, d api.Detector, s api.Snapshot) {
	t.Helper()
	wantKept(t, k.d.Planes, d.Planes, oddPlane)
	for kind := range s.Kinds {
		wantKept(t, k.s.Kinds[kind], s.Kinds[kind], oddEntry)
	}
}

// spoil changes them.
func (k kept) spoil() {
	spoil(k.d.Planes, oddPlane)
	for kind := range k.s.Kinds {
		spoil(k.s.Kinds[kind], oddEntry)
	}
}

// dented is a snapshot of the detector plain.
func dented() api.Snapshot {
	return also(also(conditions(api.CoDead, "4100 1"), api.CoShiftX, "1 20"), api.CoShiftY, "2 -3")
}

// TestAliveMemory is R4: also where all samples stay, and where none does.
func TestAliveMemory(t *testing.T) {
	for _, s := range []api.Snapshot{{}, dented(), conditions(api.CoDead, "4 1 4100 1 1050628 1 2097156 1 2101252 1")} {
		k := keptOf(plain(), s)
		l := roomy(samples(crossing), oddSample)
		got, again := pattern.Alive(k.s, l), pattern.Alive(k.s, l)
		want := plainAlive(s, samples(crossing))
		wantSame(t, got, want)
		spoil(again, api.Sample{Adc: 7})
		wantSame(t, got, want)
		wantKept(t, l, samples(crossing), oddSample)
		k.check(t, plain(), s)
		spoil(l, oddSample)
		k.spoil()
		wantSame(t, got, want)
	}
}

// TestClusterMemory is R4: no cluster has memory in common with the samples, or with another one.
func TestClusterMemory(t *testing.T) {
	k := keptOf(plain(), dented())
	text := "0 1 1 4  0 1 2 4  0 2 1 8  0 3 2 1  0 4 4 3  0 4 5 2  1 0 0 1  1 0 1 1"
	want, _ := plainClusters(plain(), samples(text))
	for i := range want {
		l := roomy(samples(text), oddSample)
		got, e := pattern.Clusters(k.d, l)
		wanted(t, want)(got, e)
		spoil(got[i].Samples, oddSample)
		for j := range want {
			if j != i {
				wantSame(t, got[j], want[j])
			}
		}
		wantKept(t, l, samples(text), oddSample)
		again, _ := pattern.Clusters(k.d, l)
		spoil(got, oddCluster)
		spoil(l, oddSample)
		wantSame(t, again, want)
	}
	for i := range want {
		want[i].Samples = roomy(want[i].Samples, oddSample)
	}
	all := roomy(want, oddCluster)
	got, e := pattern.Points(k.d, k.s, all)
	wanted(t, plainPoints(plain(), dented(), want))(got, e)
	again, _ := pattern.Points(k.d, k.s, all)
	spoil(again, oddPoint)
	plainly, _ := plainClusters(plain(), samples(text))
	wantKept(t, all, plainly, oddCluster)
	for i := range all {
		wantKept(t, all[i].Samples, plainly[i].Samples, oddSample)
	}
	k.check(t, plain(), dented())
	k.spoil()
	spoil(all, oddCluster)
	wantSame(t, got, plainPoints(plain(), dented(), plainly))
}

// TestChainMemory is R4: of segments, lengths, states and candidates.
func TestChainMemory(t *testing.T) {
	text := "0 0 0  1 5 0  2 10 0  1 30 0  2 5 0  0 1 1"
	q := search("1 2048 1024 2 1000 0")
	v := scene{plain(), q, points(text)}
	k := keptOf(plain(), dented())
	l := roomy(points(text), oddPoint)
	pattern.CheckPoints(k.d, l)
	pattern.Bends(k.d, l[0], l[1], l[2])
	pattern.Inside(k.d, q, l, api.Segment{A: 0, B: 1}, api.Segment{A: 1, B: 2})
	twice(t, v.segments(0), api.Segment{A: -9})(func() ([]api.Segment, api.Errno) { return pattern.Segments(k.d, q, l, 0) })
	twice(t, v.lengths(0), -9)(func() ([]int, api.Errno) { return pattern.Lengths(k.d, q, l, 0) })
	for steps := range 3 {
		twice(t, v.states(0, steps), -9)(func() ([]int, api.Errno) { return pattern.Evolve(k.d, q, l, 0, steps) })
	}
	all, _ := v.candidates(0)
	if len(all) < 3 || len(v.follow(0)) < 3 {
		t.Error("few")
	}
	apart(t, all)(func() ([]api.Candidate, api.Errno) { return pattern.Candidates(k.d, q, l, 0) })
	apart(t, v.follow(0))(func() ([]api.Candidate, api.Errno) { return pattern.Follow(k.d, q, l, 0) })
	wantKept(t, l, points(text), oddPoint)
	k.check(t, plain(), dented())
	got, _ := pattern.Candidates(k.d, q, l, 0)
	spoil(l, oddPoint)
	k.spoil()
	wantSame(t, got, all)
}

// twice checks that a list is what is wanted, also when that of an earlier call was changed, and the other way round.
func twice[T any](t *testing.T, want []T, x T) func(call func() ([]T, api.Errno)) {
	return func(call func() ([]T, api.Errno)) {
		t.Helper()
		first, _ := call()
		wantSame(t, first, want)
		second, _ := call()
		spoil(first, x)
		wantSame(t, second, want)
	}
}

// apart checks that of candidates none has memory in common with another one.
func apart(t *testing.T, want []api.Candidate) func(call func() ([]api.Candidate, api.Errno)) {
	return func(call func() ([]api.Candidate, api.Errno)) {
		t.Helper()
		twice(t, want, oddCandidate)(call)
		for i := range want {
			l, _ := call()
			spoil(l[i].Points, -9)
			for j := range want {
				if j != i {
					wantSame(t, l[j], want[j])
				}
			}
		}
	}
}

// TestChooseMemory is R4: of knots and choices; indices stay in their order.
func TestChooseMemory(t *testing.T) {
	text := "9 5 9 1, 5, 7 6, 6 7, 8, 5"
	l := roomy(sharing(text), oddCandidate)
	for i := range l {
		l[i].Points = roomy(l[i].Points, -7)
	}
	knots := [][]int{{0, 1, 5}, {2, 3}, {4}}
	for i := range knots {
		got := pattern.Knots(l, 0)
		spoil(got[i], -9)
		for j := range knots {
			if j != i {
				wantSame(t, got[j], knots[j])
			}
		}
		wantSame(t, pattern.Knots(l, 0), knots)
	}
	twice(t, numbers("0 2 4"), -9)(func() ([]int, api.Errno) { return pattern.Choose(l, 0) })
	pattern.Collide(l[0], l[1], 0)
	for i, c := range sharing(text) {
		wantKept(t, l[i].Points, c.Points, -7)
	}
	wantKept(t, l, sharing(text), oddCandidate)
}

// TestFindMemory is R4.
func TestFindMemory(t *testing.T) {
	q := search("0 2048 4096 2 1000 2")
	for _, s := range []api.Snapshot{{}, dented()} {
		k := keptOf(plain(), s)
		l := roomy(samples(crossing), oddSample)
		p, all := plainFind(plain(), s, q, samples(crossing))
		apart(t, all)(func() ([]api.Candidate, api.Errno) {
			points, found, e := pattern.Find(k.d, k.s, q, l)
			spoil(points, oddPoint)
			return found, e
		})
		points, found, _ := pattern.Find(k.d, k.s, q, l)
		wantKept(t, l, samples(crossing), oddSample)
		k.check(t, plain(), s)
		spoil(l, oddSample)
		k.spoil()
		wantSame(t, points, p)
		wantSame(t, found, all)
	}
}

// TestEmptyLists is R3: nil lists and empty ones are the same.
func TestEmptyLists(t *testing.T) {
	d, q := plain(), steady()
	d.Field, d.Cables = []api.Slab{}, []api.Cable{}
	none := api.Snapshot{}
	for kind := range none.Kinds {
		none.Kinds[kind] = []api.Entry{}
	}
	wantSame(t, pattern.Alive(none, []api.Sample{}), []api.Sample(nil))
	wanted[api.Cluster](t, nil)(pattern.Clusters(d, []api.Sample{}))
	wanted[api.Point](t, nil)(pattern.Points(d, none, []api.Cluster{}))
	wantRefused[api.Point](t, api.ErrArg)(pattern.Points(d, none, []api.Cluster{{Samples: []api.Sample{}}}))
	wantSame(t, pattern.CheckPoints(d, []api.Point{}), true)
	wanted[api.Segment](t, nil)(pattern.Segments(d, q, []api.Point{}, 0))
	wanted[int](t, nil)(pattern.Lengths(d, q, []api.Point{}, 0))
	wanted[api.Candidate](t, nil)(pattern.Candidates(d, q, []api.Point{}, 0))
	wantSame(t, pattern.Collide(api.Candidate{Points: []int{}}, api.Candidate{}, 0), false)
	wantSame(t, pattern.Knots([]api.Candidate{}, 0), [][]int(nil))
	wanted[int](t, nil)(pattern.Choose([]api.Candidate{}, 0))
	wanted(t, numbers("0"))(pattern.Choose([]api.Candidate{{Points: []int{}, Weight: 1}}, 0))
	wantFind(t, d, none, q, []api.Sample{}, nil)
}

// TestExtremes is P0.1: every function returns, whatever its numbers are.
func TestExtremes(t *testing.T) {
	l := extremes()
	for i, a := range l {
		for j, b := range l {
			c := l[(i+j+5)%len(l)]
			q := api.Search{Skip: c, Slope: a, Kink: b, Least: c, Reward: a, Share: b}
			for _, d := range []api.Detector{plain(), {Name: "a", Planes: []api.Plane{{Face: a, Depth: b, Cols: c, Rows: a, HalfX: b, HalfY: c}}}} {
				isPlain := len(d.Planes) > 1
				m := []api.Sample{{Cell: api.Cell{Plane: a, Col: b, Row: c}, Adc: a}}
				_, e := pattern.Clusters(d, m)
				wantSame(t, e == api.OK, plainValid(d, m), d, m)
				pattern.Points(d, api.Snapshot{}, []api.Cluster{{Plane: a, Charge: b, Samples: m}})
				p := []api.Point{{Plane: a, X: b, Y: c, VX: a, VY: b}, {Plane: 1, X: a, Y: b, VX: 1, VY: 1}, {Plane: 2, X: b, Y: c, VX: 1, VY: 1}}
				pattern.Bends(d, p[0], p[1], p[2])
				for _, search := range []api.Search{q, steady()} {
					pattern.Inside(d, search, p[1:], api.Segment{A: a, B: b}, api.Segment{A: b, B: c})
					for _, n := range []int{0, 1} {
						pattern.Segments(d, search, p[n:], a)
						pattern.Evolve(d, search, p[n:], a, b)
						pattern.Follow(d, search, p[n:], a)
						pattern.Candidates(d, search, p[n:], a)
					}
					noFind(t, api.ErrArg, d, api.Snapshot{}, search, []api.Sample{{Cell: api.Cell{Plane: a, Col: b, Row: c}, Adc: -1}})
				}
				if isPlain && a >= 0 && a < 3 {
					pattern.Points(d, also(conditions(api.CoShiftX, "0 9223372036854775807"), api.CoShiftY, "1 -9223372036854775808"), []api.Cluster{cluster(a, 1, "0 0 0 1")})
				}
			}
			pair := []api.Candidate{{Face: a, Points: []int{a, b, c}, Weight: b}, {Face: b, Points: []int{c, a}, Weight: c}}
			wantSame(t, pattern.Collide(pair[0], pair[1], c), plainCollide(pair[0], pair[1], c), a, b, c)
			wantSame(t, pattern.Knots(pair, b), plainKnots(pair, b), a, b, c)
			pattern.Choose(pair, a)
		}
	}
}
