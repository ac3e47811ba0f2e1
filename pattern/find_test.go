package pattern_test

import (
	"slices"
	"testing"

	"hodoscope/api"
	"hodoscope/pattern"
)

func wantFind(t *testing.T, d api.Detector, s api.Snapshot, q api.Search, l []api.Sample, p []api.Point, found ...api.Candidate) {
	t.Helper()
	points, candidates, e := pattern.Find(d, s, q, l)
	wantErrno(t, e, api.OK)
	wantSame(t, points, p)
	wantSame(t, candidates, found)
}

func noFind(t *testing.T, want api.Errno, d api.Detector, s api.Snapshot, q api.Search, l []api.Sample) {
	t.Helper()
	points, candidates, e := pattern.Find(d, s, q, l)
	if e != want || len(points) > 0 || len(candidates) > 0 {
		t.Errorf("%d %d points %d candidates, want error %d", e, len(points), len(candidates), want)
	}
}

// crossing is two tracks of plain that cross in the middle plane, with one sample in each plane for each of them.
const crossing = "0 0 4 10  0 4 4 10  1 2 4 10  2 0 4 10  2 4 4 10"

// at returns a point of plain's cells.
func at(plane, x, y int) api.Point {
	return api.Point{Plane: plane, X: x, Y: y, VX: 8, VY: 8}
}

// TestFind is P6.11: the points of all planes, and what is chosen of the candidates.
func TestFind(t *testing.T) {
	d, q, none := plain(), steady(), api.Snapshot{}
	wantFind(t, d, none, q, nil, nil)
	wantFind(t, d, none, q, samples("0 4 4 1"), []api.Point{at(0, 5, 5)})
	p := []api.Point{at(0, -35, 5), at(0, 5, 5), at(1, -15, 5), at(2, -35, 5), at(2, 5, 5)}
	wantFind(t, d, none, q, samples(crossing), p, candidate(3000, "0 2 4"))
	// Both share one point; with Kink 4096 there are two others, each of which has two points of both.
	q.Share = 1
	wantFind(t, d, none, q, samples(crossing), p, candidate(3000, "0 2 4"), candidate(3000, "1 2 3"))
	q.Kink = 4096
	wantFind(t, d, none, q, samples(crossing), p, candidate(3000, "0 2 4"), candidate(3000, "1 2 3"))
	q.Share = 2
	wantFind(t, d, none, q, samples(crossing), p, candidate(1, "0 2 3"), candidate(3000, "0 2 4"), candidate(3000, "1 2 3"), candidate(1, "1 2 4"))
	q.Share = 0
	wantFind(t, d, none, q, samples(crossing), p, candidate(3000, "0 2 4"))
	// A dead cell, and shifts, that change the points of which there are tracks.
	q.Kink = 1024
	wantFind(t, d, conditions(api.CoDead, "4100 1"), q, samples(crossing), []api.Point{p[0], p[2], p[3], p[4]}, candidate(3000, "0 1 3"))
	shifted := also(conditions(api.CoShiftX, "1 20"), api.CoShiftY, "2 -3 0 3")
	wantFind(t, d, shifted, q, samples(crossing), []api.Point{at(0, -35, 8), at(0, 5, 8), at(1, 5, 5), at(2, -35, 2), at(2, 5, 2)}, candidate(3000, "1 2 4"))
}

// TestFindClusters is P6.11: a dead cell divides a cluster, the calorimeter has no points, and the faces come in order, with the indices of all points.
func TestFindClusters(t *testing.T) {
	d := laid("plane 5 10 8 8 5 5 0, plane 6 0 8 8 5 5 0, plane 2 20 8 8 5 5 0, plane 5 20 8 8 5 5 0, plane 0 30 8 8 5 5 0, plane 0 20 8 8 5 5 0, plane 2 10 8 8 5 5 0")
	q := search("0 2048 1024 2 100 0")
	l := samples("0 3 3 1  0 3 4 1  0 3 5 1  1 0 0 7  2 4 4 3  3 3 3 2  4 4 4 1  5 4 4 1  6 4 4 1")
	third := api.Point{Plane: 0, X: -5, Y: 5, VX: 8, VY: 2}
	rest := []api.Point{at(2, 5, 5), at(3, -5, -5), at(4, 5, 5), at(5, 5, 5), at(6, 5, 5)}
	of := func(face int, s string) api.Candidate {
		return api.Candidate{Face: face, Points: numbers(s), Weight: 200}
	}
	wantFind(t, d, api.Snapshot{}, q, l, append([]api.Point{third}, rest...), of(0, "4 3"), of(2, "5 1"), of(5, "0 2"))
	dead := conditions(api.CoDead, "3076 1")
	wantFind(t, d, dead, q, l, append([]api.Point{at(0, -5, -5), at(0, -5, 15)}, rest...), of(0, "5 4"), of(2, "6 2"), of(5, "0 3"))
	// The samples of different faces share no points, so all are chosen, whatever their weights are.
	wantFind(t, d, conditions(api.CoDead, "3076 1 4198404 1"), q, l, []api.Point{at(0, -5, -5), at(0, -5, 15), rest[0], rest[1], rest[3], rest[4]}, of(2, "5 2"), of(5, "0 3"))
}

// TestFindErrors is P6.11: what is not valid.
func TestFindErrors(t *testing.T) {
	d, q, l := plain(), steady(), samples(crossing)
	for _, bad := range poor() {
		noFind(t, api.ErrArg, bad, api.Snapshot{}, q, l)
		noFind(t, api.ErrArg, bad, api.Snapshot{}, q, nil)
	}
	for _, bad := range badSearches() {
		noFind(t, api.ErrArg, d, api.Snapshot{}, bad, l)
		noFind(t, api.ErrArg, d, api.Snapshot{}, bad, nil)
	}
	for _, bad := range []string{"0 0 0 0", "0 0 0 4096", "0 8 0 1", "3 0 0 1", "0 0 1 1  0 0 0 1", "0 0 0 1  0 0 0 1", "-1 0 0 1"} {
		noFind(t, api.ErrArg, d, api.Snapshot{}, q, samples(bad))
		// Also if those cells are dead.
		noFind(t, api.ErrArg, d, conditions(api.CoDead, "0 1 1 1 8192 1 3145728 1"), q, samples(bad))
	}
	// The snapshot need not be valid, but for the shifts that are used.
	wantFind(t, d, api.Snapshot{Tag: "", Time: -1}, q, nil, nil)
	for _, kind := range []int{api.CoShiftX, api.CoShiftY} {
		noFind(t, api.ErrArg, d, conditions(kind, "1 1073741825"), q, l)
		wantFind(t, d, conditions(kind, "1 1073741825"), q, l[:1], []api.Point{at(0, -35, 5)})
		wantFind(t, d, conditions(kind, "3 1073741825"), q, l[:1], []api.Point{at(0, -35, 5)})
	}
}

// lattice returns so many samples of a plane, of cells that do not touch each other.
func lattice(plane, n int) []api.Sample {
	var l []api.Sample
	for i := range n {
		l = append(l, api.Sample{Cell: api.Cell{Plane: plane, Col: i / 32 * 2, Row: i % 32 * 2}, Adc: 1})
	}
	return l
}

// wide returns a detector with planes of 64 by 64 cells: two of the face 0, two of the face 5, the calorimeter.
func wide() api.Detector {
	return laid("plane 0 10 64 64 5 5 0, plane 0 20 64 64 5 5 0, plane 5 10 64 64 5 5 0, plane 5 20 64 64 5 5 0, plane 6 0 64 64 5 5 0")
}

// TestFindLong is P6.11: too many points, samples of a cluster, segments, candidates, and candidates in a knot.
func TestFindLong(t *testing.T) {
	d, none, q := wide(), api.Snapshot{}, search("0 1048576 0 2 1000 0")
	counts := func(want, found int, q api.Search, l ...[]api.Sample) {
		t.Helper()
		points, candidates, e := pattern.Find(d, none, q, slices.Concat(l...))
		if e != api.OK || len(points) != want || len(candidates) != found {
			t.Error(e, len(points), len(candidates))
		}
	}
	counts(512, 0, q, lattice(0, 512))
	counts(512, 0, q, lattice(0, 512), lattice(4, 99))
	counts(512, 256, search("0 0 0 2 1 0"), lattice(2, 256), lattice(3, 256))
	noFind(t, api.ErrArg, d, none, q, lattice(0, 513))
	noFind(t, api.ErrArg, d, none, q, slices.Concat(lattice(0, 256), lattice(1, 257)))
	for _, face := range []int{0, 2} {
		fan := func(a, b int) []api.Sample { return slices.Concat(lattice(face, a), lattice(face+1, b)) }
		counts(25, 1, q, fan(1, 24))
		noFind(t, api.ErrLong, d, none, q, fan(1, 25))
		q.Share = 1
		counts(257, 256, q, fan(1, 256))
		noFind(t, api.ErrLong, d, none, q, fan(1, 257))
		q.Least = 3
		counts(128, 0, q, fan(64, 64))
		noFind(t, api.ErrLong, d, none, q, fan(17, 241))
		// An error of Points comes before that.
		noFind(t, api.ErrArg, d, conditions(api.CoShiftX, "0 1073741825 3 1073741825"), q, fan(17, 241))
		q.Least, q.Share = 2, 0
	}
}

// TestFindGreat is P6.11: Points refuses a cluster of more than 65536 samples, also of the calorimeter, but those of dead cells do not count.
func TestFindGreat(t *testing.T) {
	d := laid("plane 0 10 1024 1024 1 1 0, plane 6 0 1024 1024 1 1 0")
	for plane := range 2 {
		var l []api.Sample
		for i := range 65537 {
			l = append(l, api.Sample{Cell: api.Cell{Plane: plane, Col: i / 1024, Row: i % 1024}, Adc: 1})
		}
		noFind(t, api.ErrArg, d, api.Snapshot{}, steady(), l)
		dead := api.Snapshot{}
		dead.Kinds[api.CoDead] = []api.Entry{{Key: plane << 20, Value: 1}}
		for _, x := range []struct {
			s api.Snapshot
			l []api.Sample
		}{{api.Snapshot{}, l[:65536]}, {dead, l}} {
			points, _, e := pattern.Find(d, x.s, steady(), x.l)
			if e != api.OK || len(points) != 1-plane {
				t.Error(e, len(points))
			}
		}
	}
}

// TestFindAny holds Find against the chapter's words.
func TestFindAny(t *testing.T) {
	s := newSource()
	found := 0
	for range 1200 {
		d := s.detector()
		l, v, q := s.samples(d), s.snapshot(d), s.search()
		l = slices.DeleteFunc(l, func(api.Sample) bool { return s.Intn(3) > 0 })
		points, candidates, e := pattern.Find(d, v, q, l)
		few := true
		for face := range 6 {
			clusters, _ := plainClusters(d, plainAlive(v, l))
			all, _ := scene{d, q, plainPoints(d, v, clusters)}.candidates(face)
			few = few && len(all) < 13
		}
		if !few {
			continue
		}
		wantP, wantC := plainFind(d, v, q, l)
		wantErrno(t, e, api.OK)
		wantSame(t, points, wantP, d, v, q, l)
		wantSame(t, candidates, wantC, d, v, q, l)
		found += len(candidates)
	}
	if found < 200 {
		t.Error("few", found)
	}
}

// tracks returns points of tracks as P6.16 says it, in any order, and the candidates that they make, without their weights. The tracks are far from each other.
func (s source) tracks(d api.Detector, q api.Search, stacks map[int][]int) ([]api.Point, [][]int) {
	var l []api.Point
	var of []int
	far := -1 << 31
	n := s.from(1, 9)
	for track := range n {
		stack := stacks[s.one(0, 5)]
		length := s.from(q.Least, len(stack))
		first := s.from(0, len(stack)-length)
		x, slope := far, s.from(-1, 1)
		far += 1 << 28
		depth := d.Planes[stack[first]].Depth
		for _, plane := range stack[first : first+length] {
			at := x + slope*(d.Planes[plane].Depth-depth)/2 + s.from(0, 1)
			l = append(l, api.Point{Plane: plane, X: at, Y: s.from(0, 1), VX: 1, VY: 1})
			of = append(of, track)
		}
	}
	places := s.Perm(len(l))
	mixed, tracks := make([]api.Point, len(l)), make([][]int, n)
	for i, place := range places {
		mixed[place] = l[i]
		tracks[of[i]] = append(tracks[of[i]], place)
	}
	return mixed, tracks
}

// TestAllTracks is P6.16.
func TestAllTracks(t *testing.T) {
	s := newSource()
	d := laid(`plane 5 10 8 8 5 5 0, plane 0 70 8 8 5 5 0, plane 0 10 8 8 5 5 0, plane 0 30 8 8 5 5 0, plane 5 40 8 8 5 5 0, plane 5 25 8 8 5 5 0,
		plane 0 52 8 8 5 5 0, plane 0 100 8 8 5 5 0, plane 5 70 8 8 5 5 0`)
	stacks := map[int][]int{0: numbers("2 3 6 1 7"), 5: numbers("0 5 4 8")}
	for range 300 {
		q := search("0 1024 1024 2 1000 0")
		q.Least = s.from(2, 4)
		l, tracks := s.tracks(d, q, stacks)
		wantAllTracks(t, scene{d, q, l}, tracks)
		for face := range 6 {
			want := [][]int{}
			for _, track := range tracks {
				if d.Planes[l[track[0]].Plane].Face == face {
					want = append(want, track)
				}
			}
			slices.SortFunc(want, func(a, b []int) int { return slices.Compare(a, b) })
			found, e := pattern.Candidates(d, q, l, face)
			wantErrno(t, e, api.OK)
			var got [][]int
			var all []int
			for i, c := range found {
				wantSame(t, c.Face, face)
				got = append(got, c.Points)
				all = append(all, i)
			}
			wantSame(t, got, want)
			wanted(t, found)(pattern.Follow(d, q, l, face))
			wanted(t, all)(pattern.Choose(found, 0))
		}
	}
}

// wantAllTracks checks that points are as P6.16 says it.
func wantAllTracks(t *testing.T, v scene, tracks [][]int) {
	t.Helper()
	of := map[int]int{}
	for i, track := range tracks {
		for j, p := range track {
			of[p] = i
			if j > 0 && (!v.isSegment(track[j-1], p) || v.between(track[j-1], p) > 0) {
				t.Error("no segment", v.l[track[j-1]], v.l[p])
			}
			if j > 1 && !v.isInside(api.Segment{A: track[j-2], B: track[j-1]}, api.Segment{A: track[j-1], B: p}) {
				t.Error("not inside")
			}
		}
	}
	for a := range v.l {
		for b := range v.l {
			if of[a] != of[b] && v.isSegment(a, b) {
				t.Error("a segment of two tracks", v.l[a], v.l[b])
			}
		}
	}
}
