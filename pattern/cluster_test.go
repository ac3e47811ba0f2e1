package pattern_test

import (
	"slices"
	"testing"

	"hodoscope/api"
	"hodoscope/pattern"
)

// TestAlive is P6.1.
func TestAlive(t *testing.T) {
	l := samples("0 1 1 4  0 1 2 5  1 0 0 6  6 7 8 9  63 1023 1023 3")
	// The keys of these cells, in their order.
	keys := "1025 1026 1048576 6298632 67108863"
	for i, key := range numbers(keys) {
		rest := slices.Delete(slices.Clone(l), i, i+1)
		for _, value := range []int{1, -1, greatest, least} {
			s := api.Snapshot{}
			s.Kinds[api.CoDead] = []api.Entry{{Key: key, Value: value}}
			wantSame(t, pattern.Alive(s, l), rest, key, value)
		}
		s := api.Snapshot{}
		s.Kinds[api.CoDead] = []api.Entry{{Key: key, Value: 0}}
		wantSame(t, pattern.Alive(s, l), l, key)
		for kind := range api.Kinds {
			if kind != api.CoDead {
				s = api.Snapshot{}
				s.Kinds[kind] = []api.Entry{{Key: key, Value: 1}}
				wantSame(t, pattern.Alive(s, l), l, key, kind)
			}
		}
	}
	wantSame(t, pattern.Alive(api.Snapshot{}, l), l)
	wantSame(t, pattern.Alive(conditions(api.CoDead, "1025 1 1026 0 1048576 1 6298632 0 67108863 7"), l), samples("0 1 2 5  6 7 8 9"))
	// Of two entries with one key the first one has the Value, also where the keys fall.
	wantSame(t, pattern.Alive(conditions(api.CoDead, "1048576 0 1048576 1 1025 1 1025 0"), l), slices.Delete(slices.Clone(l), 0, 1))
}

// TestAliveAny is P6.1 of samples that are not valid: they stay, unless their cell's key is that of a dead one; the order does not matter, nor how often they are there.
func TestAliveAny(t *testing.T) {
	dead := conditions(api.CoDead, "0 1 1025 1 1048576 1")
	wantSame(t, pattern.Alive(dead, samples("9 9 9 -1  0 1 1 -5  0 0 0 0  0 1 1 9999  9 9 9 -1  0 0 1 0")), samples("9 9 9 -1  9 9 9 -1  0 0 1 0"))
	// Cells without a key, some of which would have one of these if all numbers were allowed.
	odd := samples("-1 1024 0 1  0 -1 1024 1  0 0 1025 1  0 2 -1023 1  1 -1024 0 1  64 0 0 1  0 1024 0 1")
	wantSame(t, pattern.Alive(dead, odd), odd)
	every := api.Snapshot{}
	for _, key := range []int{-1, 0, 1, -1024, 1 << 20, 64 << 20, 1<<26 - 1, least, greatest} {
		every.Kinds[api.CoDead] = append(every.Kinds[api.CoDead], api.Entry{Key: key, Value: 1})
	}
	wantSame(t, pattern.Alive(every, odd), odd)
	for _, n := range extremes() {
		for _, m := range extremes() {
			l := []api.Sample{{Cell: api.Cell{Plane: n, Col: m}}, {Cell: api.Cell{Col: n, Row: m}}, {Cell: api.Cell{Plane: m, Row: n}, Adc: n}}
			for _, s := range []api.Snapshot{dead, every} {
				wantSame(t, pattern.Alive(s, l), plainAlive(s, l), n, m)
			}
		}
	}
	wantSame(t, pattern.Alive(dead, nil), []api.Sample(nil))
}

func wantClusters(t *testing.T, d api.Detector, l string, want ...api.Cluster) {
	t.Helper()
	wanted(t, want)(pattern.Clusters(d, samples(l)))
}

// TestClusters is P6.2.
func TestClusters(t *testing.T) {
	d := rich()
	wantClusters(t, d, "")
	wantClusters(t, d, "0 3 3 4095", cluster(0, 4095, "0 3 3 4095"))
	wantClusters(t, d, "0 3 3 1  0 3 4 2", cluster(0, 3, "0 3 3 1  0 3 4 2"))
	wantClusters(t, d, "0 3 3 1  0 4 3 2", cluster(0, 3, "0 3 3 1  0 4 3 2"))
	// Corners do not connect, in neither direction.
	wantClusters(t, d, "0 3 3 1  0 4 4 2", cluster(0, 1, "0 3 3 1"), cluster(0, 2, "0 4 4 2"))
	wantClusters(t, d, "0 3 4 1  0 4 3 2", cluster(0, 1, "0 3 4 1"), cluster(0, 2, "0 4 3 2"))
	// Distances of 2 do not.
	wantClusters(t, d, "0 3 3 1  0 3 5 2", cluster(0, 1, "0 3 3 1"), cluster(0, 2, "0 3 5 2"))
	wantClusters(t, d, "0 3 3 1  0 5 3 2", cluster(0, 1, "0 3 3 1"), cluster(0, 2, "0 5 3 2"))
	// A ring around a hole, with something in it.
	ring := "0 1 1 1  0 1 2 1  0 1 3 1  0 1 4 1  0 2 1 1  0 2 4 1  0 3 1 1  0 3 4 1  0 4 1 1  0 4 2 1  0 4 3 1  0 4 4 1"
	wantClusters(t, d, ring, cluster(0, 12, ring))
	around := "0 0 0 1  0 0 1 1  0 0 2 1  0 0 3 1  0 0 4 1  0 1 0 1  0 1 4 1  0 2 0 1  0 2 2 9  0 2 4 1  0 3 0 1  0 3 4 1  0 4 0 1  0 4 1 1  0 4 2 1  0 4 3 1  0 4 4 1"
	all := samples(around)
	hole := slices.Concat(all[:8], all[9:])
	wantClusters(t, d, around, api.Cluster{Plane: 0, Charge: 16, Samples: hole}, cluster(0, 9, "0 2 2 9"))
	// Two arms that only meet at their ends: the order is that of the first samples.
	wantClusters(t, d, "0 0 0 1  0 0 2 2  0 0 4 9  0 1 0 3  0 1 2 4  0 2 0 5  0 2 1 6  0 2 2 7", cluster(0, 28, "0 0 0 1  0 0 2 2  0 1 0 3  0 1 2 4  0 2 0 5  0 2 1 6  0 2 2 7"), cluster(0, 9, "0 0 4 9"))
	// An arm that begins later than what is between it and the first one.
	wantClusters(t, d, "0 0 2 1  0 1 0 2  0 1 2 3  0 1 4 4  0 2 2 5  0 2 3 6  0 2 4 7", cluster(0, 26, "0 0 2 1  0 1 2 3  0 1 4 4  0 2 2 5  0 2 3 6  0 2 4 7"), cluster(0, 2, "0 1 0 2"))
}

// TestClustersOfPlanes is P6.2: planes are apart, also at their edges, and where the keys of cells are next to each other; the calorimeter has clusters as well.
func TestClustersOfPlanes(t *testing.T) {
	wantClusters(t, rich(), "0 7 7 1  1 0 0 2  1 7 7 3  2 0 0 4  2 0 1 5  2 1 0 6  3 5 5 7", cluster(0, 1, "0 7 7 1"), cluster(1, 2, "1 0 0 2"), cluster(1, 3, "1 7 7 3"), cluster(2, 15, "2 0 0 4  2 0 1 5  2 1 0 6"), cluster(3, 7, "3 5 5 7"))
	// The same cells of two planes.
	wantClusters(t, rich(), "0 3 3 1  0 3 4 2  2 3 1 3  3 3 3 4  3 3 4 5", cluster(0, 3, "0 3 3 1  0 3 4 2"), cluster(2, 3, "2 3 1 3"), cluster(3, 9, "3 3 3 4  3 3 4 5"))
	// The last row of a column, and the first one of the next column.
	wantClusters(t, rich(), "0 3 7 1  0 4 0 2", cluster(0, 1, "0 3 7 1"), cluster(0, 2, "0 4 0 2"))
	// So with keys that follow each other.
	wide := laid("plane 0 10 1024 1024 1 1 0, plane 6 0 1024 1024 1 1 0, plane 0 20 1024 1024 1 1 0")
	wantClusters(t, wide, "0 0 1023 1  0 1 0 2  0 1023 1023 3  1 0 0 4  1 0 1 5  1 1023 1023 6  2 0 0 7", cluster(0, 1, "0 0 1023 1"), cluster(0, 2, "0 1 0 2"), cluster(0, 3, "0 1023 1023 3"), cluster(1, 9, "1 0 0 4  1 0 1 5"), cluster(1, 6, "1 1023 1023 6"), cluster(2, 7, "2 0 0 7"))
}

// TestClustersErrors is P6.2: samples that are not valid.
func TestClustersErrors(t *testing.T) {
	for _, d := range poor() {
		wantRefused[api.Cluster](t, api.ErrArg)(pattern.Clusters(d, nil))
		wantRefused[api.Cluster](t, api.ErrArg)(pattern.Clusters(d, samples("0 0 0 1")))
	}
	d := rich()
	for _, s := range []string{
		"0 3 3 0", "0 3 3 4096", "0 3 3 -1", "0 3 3 9223372036854775807",
		"0 3 3 1  0 3 3 1", "0 3 4 1  0 3 3 1", "0 4 3 1  0 3 3 1", "2 0 0 1  0 3 3 1", "0 1 1 1  0 1 3 1  0 1 2 1",
		"-1 0 0 1", "8 0 0 1", "64 0 0 1", "0 -1 3 1", "0 8 3 1", "0 3 -1 1", "0 3 8 1", "2 4 0 1", "2 0 2 1", "1 8 0 1",
		"0 0 0 1  0 0 1 1  8 0 0 1", "0 -9223372036854775808 0 1", "9223372036854775807 0 0 1", "0 1024 0 1", "0 0 1024 1",
	} {
		wantRefused[api.Cluster](t, api.ErrArg)(pattern.Clusters(d, samples(s)))
	}
	wantClusters(t, d, "0 0 0 1  7 2 2 4095", cluster(0, 1, "0 0 0 1"), cluster(7, 4095, "7 2 2 4095"))
}

// TestClustersAny holds clusters against the chapter's words, and checks P6.12.
func TestClustersAny(t *testing.T) {
	s := newSource()
	for range 400 {
		d := s.detector()
		l := s.samples(d)
		if s.Intn(9) == 0 && len(l) > 1 {
			i := s.Intn(len(l))
			l[i] = api.Sample{Cell: api.Cell{Plane: s.from(-1, len(d.Planes)), Col: s.from(-1, 6), Row: s.from(-1, 6)}, Adc: s.from(-1, 4096)}
		}
		got, e := pattern.Clusters(d, l)
		want, wantE := plainClusters(d, l)
		wantErrno(t, e, wantE, d, l)
		wantSame(t, got, want, d, l)
		if e == api.OK {
			wantApart(t, l, got)
			wantWithin(t, d, got)
		}
	}
}

// wantApart checks that each sample is in exactly one cluster, and that no two clusters have cells that are neighbours.
func wantApart(t *testing.T, l []api.Sample, clusters []api.Cluster) {
	t.Helper()
	of := map[api.Cell]int{}
	n := 0
	for i, c := range clusters {
		for _, m := range c.Samples {
			of[m.Cell] = i
			n++
		}
	}
	if n != len(l) || len(of) != len(l) {
		t.Error(l, clusters)
	}
	for _, a := range l {
		if _, isThere := of[a.Cell]; !isThere {
			t.Error("lost", a)
		}
		for _, b := range l {
			if areNeighbours(a.Cell, b.Cell) && of[a.Cell] != of[b.Cell] {
				t.Error("apart", a, b)
			}
		}
	}
}

// wantWithin checks that points, without shifts, are not outside of the least rectangles of the centres.
func wantWithin(t *testing.T, d api.Detector, clusters []api.Cluster) {
	t.Helper()
	for _, c := range clusters {
		l, e := pattern.Points(d, api.Snapshot{}, []api.Cluster{c})
		p := d.Planes[c.Plane]
		if p.Face == 6 {
			wanted[api.Point](t, nil)(l, e)
			continue
		}
		var x, y []int
		for _, m := range c.Samples {
			x = append(x, (2*m.Cell.Col+1-p.Cols)*p.HalfX)
			y = append(y, (2*m.Cell.Row+1-p.Rows)*p.HalfY)
		}
		if e != api.OK || len(l) != 1 || l[0].X < slices.Min(x) || l[0].X > slices.Max(x) || l[0].Y < slices.Min(y) || l[0].Y > slices.Max(y) {
			t.Error(c, l, e)
		}
	}
}

// snake returns a row of cells that goes through a plane with so many columns and rows, one step at a time; its columns are joined at their ends by one cell each.
func snake(side int) []api.Sample {
	var l []api.Sample
	for col := range side {
		for row := range side {
			if col%2 == 0 || col%4 == 1 && row == side-1 || col%4 == 3 && row == 0 {
				l = append(l, api.Sample{Cell: api.Cell{Col: col, Row: row}, Adc: 1})
			}
		}
	}
	return l
}

// TestClustersLong is P0.1: the row of cells that connects two of them may have half a million.
func TestClustersLong(t *testing.T) {
	d := laid("plane 0 10 1024 1024 1 1 0")
	l := snake(1024)
	clusters, e := pattern.Clusters(d, l)
	if e != api.OK || len(clusters) != 1 || clusters[0].Charge != len(l) || !slices.Equal(clusters[0].Samples, l) {
		t.Error(e, len(clusters))
	}
	// Without one joint there are two.
	cut := slices.Delete(slices.Clone(l), 1024, 1025)
	clusters, e = pattern.Clusters(d, cut)
	if e != api.OK || len(clusters) != 2 || clusters[0].Charge != 1024 || !slices.Equal(clusters[1].Samples, cut[1024:]) {
		t.Error(e, len(clusters))
	}
}
