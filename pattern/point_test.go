package pattern_test

import (
	"slices"
	"testing"

	"hodoscope/api"
	"hodoscope/pattern"
)

func wantPoint(t *testing.T, d api.Detector, s api.Snapshot, c api.Cluster, x, y, vx, vy int) {
	t.Helper()
	wanted(t, []api.Point{{Plane: c.Plane, X: x, Y: y, VX: vx, VY: vy}})(pattern.Points(d, s, []api.Cluster{c}))
}

// TestPoints is P6.3.
func TestPoints(t *testing.T) {
	d, none := rich(), api.Snapshot{}
	// Centres of plane 0: from -35 in steps of 10, from -49 in steps of 14.
	wantPoint(t, d, none, cluster(0, 9, "0 0 0 9"), -35, -49, 8, 16)
	wantPoint(t, d, none, cluster(0, 4095, "0 7 0 4095"), 35, -49, 8, 16)
	wantPoint(t, d, none, cluster(0, 2, "0 3 3 1  0 3 4 1"), -5, 0, 8, 8)
	wantPoint(t, d, none, cluster(0, 2, "0 3 3 1  0 4 3 1"), 0, -7, 4, 16)
	// Sums that are no multiples of the Charge, rounded down: 5/3, -5/3, 7/3, -7/3.
	wantPoint(t, d, none, cluster(0, 3, "0 3 3 1  0 4 3 2"), 1, -7, 4, 16)
	wantPoint(t, d, none, cluster(0, 3, "0 3 3 2  0 4 3 1"), -2, -7, 4, 16)
	wantPoint(t, d, none, cluster(0, 3, "0 4 3 1  0 4 4 2"), 5, 2, 8, 8)
	wantPoint(t, d, none, cluster(0, 3, "0 4 3 2  0 4 4 1"), 5, -3, 8, 8)
	// Columns and rows are counted once: 25 / 9, 49 / 6.
	wantPoint(t, d, none, cluster(0, 6, "0 2 3 1  0 2 4 1  0 3 3 1  0 3 4 1  0 4 3 1  0 4 4 1"), -5, 0, 2, 8)
	// Variances that would be 0: of plane 7 1 / 3; of plane 4 9 / 12, 16 / 15, 16 / 18.
	wantPoint(t, d, none, cluster(7, 1, "7 0 1 1"), -2, 0, 1, 1)
	wantPoint(t, d, none, cluster(4, 4, "4 0 0 1  4 1 0 1  4 2 0 1  4 3 0 1"), -3, -16, 1, 5)
	wantPoint(t, d, none, cluster(4, 3, "4 0 0 1  4 1 0 1  4 2 0 1"), -6, -16, 1, 5)
	wantPoint(t, d, none, cluster(4, 5, "4 0 0 1  4 0 1 1  4 0 2 1  4 0 3 1  4 0 4 1"), -12, 0, 3, 1)
	// The widest cells.
	wantPoint(t, d, none, cluster(6, 4095, "6 8 0 4095"), 32768, -32768, 5592405, 5592405)
}

// TestPointsOfAny is P6.3: cells need not be connected, nor be there only once, nor rise.
func TestPointsOfAny(t *testing.T) {
	d, none := rich(), api.Snapshot{}
	wantPoint(t, d, none, cluster(0, 4, "0 0 0 1  0 7 7 3"), 17, 24, 4, 8)
	wantPoint(t, d, none, cluster(0, 8, "0 7 7 3  0 0 0 1  0 7 7 4"), 26, 36, 4, 8)
	wantPoint(t, d, none, cluster(0, 4095*3, "0 2 2 4095  0 2 2 4095  0 2 2 4095"), -15, -21, 8, 16)
	l := []api.Cluster{cluster(6, 1, "6 4 4 1"), cluster(0, 1, "0 3 3 1"), cluster(1, 2, "1 0 0 2"), cluster(0, 1, "0 3 3 1"), cluster(5, 1, "5 0 0 1")}
	wanted(t, []api.Point{{Plane: 6, VX: 5592405, VY: 5592405}, {Plane: 0, X: -5, Y: -7, VX: 8, VY: 16}, {Plane: 0, X: -5, Y: -7, VX: 8, VY: 16}, {Plane: 5, X: -10, Y: -5, VX: 1, VY: 1}})(pattern.Points(d, none, l))
	wanted[api.Point](t, nil)(pattern.Points(d, none, nil))
	wanted[api.Point](t, nil)(pattern.Points(d, none, l[2:3]))
	// There may be more points than a search may have.
	many := slices.Repeat(l[1:2], 600)
	wanted(t, slices.Repeat([]api.Point{{Plane: 0, X: -5, Y: -7, VX: 8, VY: 16}}, 600))(pattern.Points(d, none, many))
}

// TestShifts is P6.3: the Values of the plane's index, also of a snapshot that is not valid.
func TestShifts(t *testing.T) {
	d, c := rich(), cluster(0, 3, "0 3 3 2  0 4 3 1")
	wantPoint(t, d, conditions(api.CoShiftX, "0 7"), c, 5, -7, 4, 16)
	wantPoint(t, d, conditions(api.CoShiftY, "0 -7"), c, -2, -14, 4, 16)
	wantPoint(t, d, also(conditions(api.CoShiftX, "0 7 2 9"), api.CoShiftY, "0 1"), c, 5, -6, 4, 16)
	// Other planes and other kinds do not matter.
	other := also(conditions(api.CoShiftX, "1 7 2 1073741825"), api.CoShiftY, "4 1 5 -1073741825")
	for _, kind := range []int{api.CoPedestal, api.CoNoise, api.CoDead, api.CoField, api.CoGain} {
		other = also(other, kind, "0 9223372036854775807")
	}
	wantPoint(t, d, other, c, -2, -7, 4, 16)
	wantPoint(t, d, conditions(api.CoShiftX, "0 3 0 4"), c, 1, -7, 4, 16)
	for _, kind := range []int{api.CoShiftX, api.CoShiftY} {
		for _, n := range []string{"1073741824", "-1073741824"} {
			_, e := pattern.Points(d, conditions(kind, "0 "+n), []api.Cluster{c})
			wantErrno(t, e, api.OK, kind, n)
		}
		for _, n := range []string{"1073741825", "-1073741825", "9223372036854775807", "-9223372036854775808"} {
			wantRefused[api.Point](t, api.ErrArg)(pattern.Points(d, conditions(kind, "0 "+n), []api.Cluster{c}))
			// The Values of the calorimeter are used as no shifts.
			wanted[api.Point](t, nil)(pattern.Points(d, conditions(kind, "1 "+n), []api.Cluster{cluster(1, 2, "1 0 0 2")}))
			wanted[api.Point](t, nil)(pattern.Points(d, conditions(kind, "0 "+n), nil))
		}
	}
	wantPoint(t, d, also(conditions(api.CoShiftX, "0 1073741824"), api.CoShiftY, "0 -1073741824"), c, 1073741822, -1073741831, 4, 16)
}

// TestPointsErrors is P6.3: each fault alone, of the first cluster and of the last one.
func TestPointsErrors(t *testing.T) {
	good := cluster(0, 3, "0 3 3 2  0 4 3 1")
	for _, d := range poor() {
		wantRefused[api.Point](t, api.ErrArg)(pattern.Points(d, api.Snapshot{}, nil))
		wantRefused[api.Point](t, api.ErrArg)(pattern.Points(d, api.Snapshot{}, []api.Cluster{good}))
	}
	for _, bad := range []api.Cluster{
		{}, {Plane: 0, Charge: 1}, cluster(-1, 1, "-1 0 0 1"), cluster(8, 1, "8 0 0 1"), cluster(0, 1, "8 0 0 1"), cluster(least, 1, "0 0 0 1"),
		cluster(0, 3, "0 3 3 2  2 3 1 1"), cluster(2, 3, "0 3 3 2  0 4 3 1"), cluster(0, 3, "1 3 3 2  1 4 3 1"),
		cluster(0, 1, "0 8 0 1"), cluster(0, 1, "0 0 8 1"), cluster(0, 1, "0 -1 0 1"), cluster(0, 1, "0 0 -1 1"), cluster(2, 1, "2 4 0 1"), cluster(2, 1, "2 0 2 1"),
		cluster(0, 0, "0 3 3 0"), cluster(0, 4096, "0 3 3 4096"), cluster(0, 1, "0 3 3 2  0 4 3 -1"), cluster(0, 2, "0 3 3 2  0 4 3 0"),
		cluster(0, 2, "0 3 3 2  0 4 3 1"), cluster(0, 4, "0 3 3 2  0 4 3 1"), cluster(0, 0, "0 3 3 2  0 4 3 1"), cluster(0, -3, "0 3 3 2  0 4 3 1"), cluster(0, 1<<40, "0 3 3 2"),
		// Clusters of the calorimeter are held to the same.
		{Plane: 1}, cluster(1, 1, "1 8 0 1"), cluster(1, 2, "1 0 0 1"), cluster(1, 0, "1 0 0 0"), cluster(1, 4096, "1 0 0 4096"), cluster(1, 1, "0 0 0 1"),
	} {
		for _, l := range [][]api.Cluster{{bad}, {bad, good}, {good, bad}} {
			wantRefused[api.Point](t, api.ErrArg)(pattern.Points(rich(), api.Snapshot{}, l))
		}
	}
}

// TestPointsLong is P6.3: a cluster of 65536 samples, and of one more.
func TestPointsLong(t *testing.T) {
	d := laid("plane 0 10 1024 1024 4096 4096 0, plane 6 0 1024 1024 1 1 0")
	for plane := range 2 {
		m := api.Sample{Cell: api.Cell{Plane: plane, Col: 1023}, Adc: 4095}
		c := api.Cluster{Plane: plane, Charge: 65536 * 4095, Samples: slices.Repeat([]api.Sample{m}, 65536)}
		var want []api.Point
		if plane == 0 {
			want = []api.Point{{X: 1023 * 4096, Y: -1023 * 4096, VX: 5592405, VY: 5592405}}
		}
		wanted(t, want)(pattern.Points(d, api.Snapshot{}, []api.Cluster{c}))
		c.Samples = append(c.Samples, m)
		c.Charge += 4095
		wantRefused[api.Point](t, api.ErrArg)(pattern.Points(d, api.Snapshot{}, []api.Cluster{c}))
	}
}

// TestPointsAny holds points against the chapter's words.
func TestPointsAny(t *testing.T) {
	s := newSource()
	for range 400 {
		d := s.detector()
		v := s.snapshot(d)
		l, _ := plainClusters(d, s.samples(d))
		// Some clusters are put together of others, and of cells that are there twice.
		for i := range l {
			if j := s.Intn(len(l)); l[i].Plane == l[j].Plane && s.Intn(3) == 0 {
				l[i] = api.Cluster{Plane: l[i].Plane, Charge: l[i].Charge + l[j].Charge, Samples: slices.Concat(l[j].Samples, l[i].Samples)}
			}
		}
		wanted(t, plainPoints(d, v, l))(pattern.Points(d, v, l))
	}
}

// TestCheckPoints is P6.4.
func TestCheckPoints(t *testing.T) {
	d := rich()
	good := api.Point{Plane: 0, X: 1, Y: 2, VX: 3, VY: 4}
	check := func(want bool, change func(p *api.Point)) {
		t.Helper()
		p := good
		change(&p)
		for _, l := range [][]api.Point{{p}, {p, good}, {good, p}} {
			if got := pattern.CheckPoints(d, l); got != want {
				t.Errorf("%+v: %v", p, got)
			}
		}
	}
	for _, n := range []int{0, 2, 3, 7} {
		check(true, func(p *api.Point) { p.Plane = n })
	}
	for _, n := range []int{-1, 1, 8, 63, least, greatest} {
		check(false, func(p *api.Point) { p.Plane = n })
	}
	for _, field := range []func(p *api.Point) *int{func(p *api.Point) *int { return &p.X }, func(p *api.Point) *int { return &p.Y }} {
		for _, n := range []int{1 << 32, 0, -1 << 32} {
			check(true, func(p *api.Point) { *field(p) = n })
		}
		for _, n := range []int{1<<32 + 1, -1<<32 - 1, least, greatest} {
			check(false, func(p *api.Point) { *field(p) = n })
		}
	}
	for _, field := range []func(p *api.Point) *int{func(p *api.Point) *int { return &p.VX }, func(p *api.Point) *int { return &p.VY }} {
		for _, n := range []int{1, 1 << 30} {
			check(true, func(p *api.Point) { *field(p) = n })
		}
		for _, n := range []int{0, -1, 1<<30 + 1, least, greatest} {
			check(false, func(p *api.Point) { *field(p) = n })
		}
	}
}

// TestCheckPointsOf is P6.4: how many points there may be, and the detector.
func TestCheckPointsOf(t *testing.T) {
	l := slices.Repeat(points("0 1 2"), 513)
	for _, d := range poor() {
		wantSame(t, pattern.CheckPoints(d, nil), false, d)
		wantSame(t, pattern.CheckPoints(d, l[:1]), false, d)
	}
	wantSame(t, pattern.CheckPoints(rich(), nil), true)
	wantSame(t, pattern.CheckPoints(rich(), l[:512]), true)
	wantSame(t, pattern.CheckPoints(rich(), l), false)
}
