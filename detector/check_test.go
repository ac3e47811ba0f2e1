package detector_test

import (
	"slices"
	"strings"
	"testing"

	"hodoscope/api"
	"hodoscope/detector"
)

func wantCheck(t *testing.T, d api.Detector, part, index int, e api.Errno, of ...any) {
	t.Helper()
	if p, i, f := detector.Check(d); p != part || i != index || f != e {
		t.Errorf("%v: Check %d %d %v, want %d %d %v", of, p, i, f, part, index, e)
	}
}

func TestCheckWhole(t *testing.T) {
	for _, name := range []string{"a", "z", "a0", "a9", "a-", "az-09", strings.Repeat("a", 32), "a--", "detector"} {
		d := plain()
		d.Name = name
		wantCheck(t, d, 0, 0, api.OK, name)
	}
	for _, name := range []string{"", "0", "-", "9a", "-a", "A", "aA", "a b", " a", "a ", "a\n", "a_", "a.", "a`", "a{", "`a", "{", "a/", "a:", "a\x00", "é", "aé", "a\xff", "a,", strings.Repeat("a", 33)} {
		d := plain()
		d.Name = name
		wantCheck(t, d, 0, 0, api.ErrArg, name)
	}
	wantCheck(t, api.Detector{}, 0, 0, api.ErrArg)
	wantCheck(t, api.Detector{Name: "a"}, 0, 0, api.ErrArg)
	wantCheck(t, laid("slab "+plainSlab), 0, 0, api.ErrArg)
	wantCheck(t, laid("plane "+plainPlane), 0, 0, api.OK)
	wantCheck(t, plain(), 0, 0, api.OK)
	wantCheck(t, rich(), 0, 0, api.OK)
}

func TestCheckLimits(t *testing.T) {
	wantCheck(t, filled(64, 64, 512), 0, 0, api.OK)
	wantCheck(t, filled(65, 64, 512), 0, 0, api.ErrLong)
	wantCheck(t, filled(64, 65, 512), 0, 0, api.ErrLong)
	wantCheck(t, filled(64, 64, 513), 0, 0, api.ErrLong)
	wantCheck(t, filled(1, 0, 0), 0, 0, api.OK)
	for _, d := range []api.Detector{filled(65, 0, 0), filled(1, 65, 0), filled(1, 0, 513)} {
		// A limit comes before the faults of planes, slabs and cables, and after those of the name.
		d.Planes[0].Cols = 0
		wantCheck(t, d, 0, 0, api.ErrLong)
		d.Name = "A"
		wantCheck(t, d, 0, 0, api.ErrArg)
	}
	d := filled(1, 65, 0)
	d.Planes = nil
	wantCheck(t, d, 0, 0, api.ErrArg)
}

// ranges are the numbers of a line that are valid at both ends, and those beside them.
type ranges struct {
	index      int
	good, poor []int
}

func TestCheckPlane(t *testing.T) {
	for _, x := range []ranges{
		{0, []int{0, 1, 2, 3, 4, 5}, []int{-1, 6, 7}},
		{1, []int{1, 65536}, []int{-1, 0, 65537}},
		{2, []int{1, 1024}, []int{-1, 0, 1025}},
		{3, []int{1, 1024}, []int{-1, 0, 1025}},
		{4, []int{1, 4096}, []int{-1, 0, 4097}},
		{5, []int{1, 4096}, []int{-1, 0, 4097}},
		{6, []int{0, 1000}, []int{-1, 1001}},
	} {
		for _, n := range x.good {
			wantCheck(t, laid("plane "+with(plainPlane, x.index, n)), 0, 0, api.OK, x.index, n)
		}
		for _, n := range append(x.poor, least, greatest) {
			wantCheck(t, laid("plane "+with(plainPlane, x.index, n)), 1, 0, api.ErrRange, x.index, n)
			wantCheck(t, laid("plane 1 1 1 1 1 1 1, plane "+with(plainPlane, x.index, n)), 1, 1, api.ErrRange, x.index, n)
		}
	}
}

func TestCheckCalorimeter(t *testing.T) {
	const calorimeter = "6 0 4 2 5 7 0"
	wantCheck(t, laid("plane "+calorimeter), 0, 0, api.OK)
	for _, x := range []ranges{
		{1, nil, []int{-1, 1, 65536}},
		{2, []int{1, 1024}, []int{-1, 0, 1025}},
		{3, []int{1, 1024}, []int{-1, 0, 1025}},
		{4, []int{1, 4096}, []int{-1, 0, 4097}},
		{5, []int{1, 4096}, []int{-1, 0, 4097}},
		{6, nil, []int{-1, 1, 1000}},
	} {
		for _, n := range x.good {
			wantCheck(t, laid("plane "+with(calorimeter, x.index, n)), 0, 0, api.OK, x.index, n)
		}
		for _, n := range append(x.poor, least, greatest) {
			wantCheck(t, laid("plane "+with(calorimeter, x.index, n)), 1, 0, api.ErrRange, x.index, n)
		}
	}
	wantCheck(t, laid("plane "+calorimeter+", plane "+plainPlane+", plane 6 0 1 1 1 1 0"), 1, 2, api.ErrThere)
	wantCheck(t, laid("plane "+calorimeter+", plane 6 1 1 1 1 1 0"), 1, 1, api.ErrRange)
}

func TestCheckPlanes(t *testing.T) {
	for s, want := range map[string]struct {
		index int
		e     api.Errno
	}{
		"plane 0 1 1 1 1 1 0, plane 0 2 1 1 1 1 0, plane 1 1 1 1 1 1 0, plane 1 2 1 1 1 1 0": {0, api.OK},
		"plane 0 1 1 1 1 1 0, plane 0 1 2 3 4 5 6":                                           {1, api.ErrThere},
		"plane 0 1 1 1 1 1 0, plane 0 2 1 1 1 1 0, plane 0 1 1 1 1 1 0":                      {2, api.ErrThere},
		"plane 0 1 1 1 1 1 0, plane 0 2 1 1 1 1 0, plane 0 2 1 1 1 1 0":                      {2, api.ErrThere},
		// The first plane with a fault decides, and of its faults the one named first.
		"plane 0 1 1 1 1 1 0, plane 0 1 1 1 1 1 0, plane 0 2 0 1 1 1 0": {1, api.ErrThere},
		"plane 0 1 1 1 1 1 0, plane 0 2 0 1 1 1 0, plane 0 1 1 1 1 1 0": {1, api.ErrRange},
		"plane 0 1 1 1 1 1 0, plane 0 1 0 1 1 1 0":                      {1, api.ErrRange},
	} {
		part := 1
		if want.e == api.OK {
			part = 0
		}
		wantCheck(t, laid(s), part, want.index, want.e, s)
	}
}

func TestCheckSlab(t *testing.T) {
	const base = "plane " + plainPlane + ", slab "
	for _, x := range []ranges{
		{0, []int{0, 1, 2, 3, 4, 5}, []int{-1, 6, 7}},
		{1, []int{0, 19}, []int{-1, 20, 21}},
		{2, []int{11, 65536}, []int{-1, 9, 10, 65537}},
		{3, []int{-1024, 0, 1024}, []int{-1025, 1025}},
	} {
		for _, n := range x.good {
			wantCheck(t, laid(base+with(plainSlab, x.index, n)), 0, 0, api.OK, x.index, n)
		}
		for _, n := range append(x.poor, least, greatest) {
			wantCheck(t, laid(base+with(plainSlab, x.index, n)), 2, 0, api.ErrRange, x.index, n)
			wantCheck(t, laid(base+"0 65535 65536 0, slab "+with(plainSlab, x.index, n)), 2, 1, api.ErrRange, x.index, n)
		}
	}
}

func TestCheckSlabs(t *testing.T) {
	for s, want := range map[string]struct {
		index int
		e     api.Errno
	}{
		"slab 0 10 20 3, slab 0 20 30 3":                  {0, api.OK},
		"slab 0 10 20 3, slab 0 0 10 3":                   {0, api.OK},
		"slab 0 10 20 3, slab 1 10 20 3, slab 5 10 20 3":  {0, api.OK},
		"slab 0 10 20 3, slab 0 19 30 3":                  {1, api.ErrThere},
		"slab 0 10 20 3, slab 0 0 11 3":                   {1, api.ErrThere},
		"slab 0 10 20 3, slab 0 10 20 4":                  {1, api.ErrThere},
		"slab 0 10 20 3, slab 0 12 13 3":                  {1, api.ErrThere},
		"slab 0 10 20 3, slab 0 0 65536 3":                {1, api.ErrThere},
		"slab 0 10 20 3, slab 0 20 30 3, slab 0 5 11 3":   {2, api.ErrThere},
		"slab 0 10 20 3, slab 0 20 30 3, slab 0 29 31 3":  {2, api.ErrThere},
		"slab 0 10 20 0, slab 0 10 20 0, slab 6 0 1 0":    {1, api.ErrThere},
		"slab 0 10 20 0, slab 6 10 20 0, slab 0 10 20 0":  {1, api.ErrRange},
		"slab 0 10 20 0, slab 0 10 20 1025, slab 1 0 1 0": {1, api.ErrRange},
	} {
		part := 2
		if want.e == api.OK {
			part = 0
		}
		wantCheck(t, laid("plane "+plainPlane+", "+s), part, want.index, want.e, s)
	}
}

func TestCheckCable(t *testing.T) {
	const base = "plane " + plainPlane + ", cable "
	for _, x := range []struct {
		ranges
		e api.Errno
	}{
		{ranges{0, []int{0, 15}, []int{-1, 16, least, greatest}}, api.ErrRange},
		{ranges{1, []int{0, 31}, []int{-1, 32, least, greatest}}, api.ErrRange},
		{ranges{2, []int{0}, []int{-1, 1, 63, 64, least, greatest}}, api.ErrNone},
		{ranges{3, []int{0, 1}, []int{-1, 2, 3, 4, least, greatest}}, api.ErrRange},
		{ranges{4, []int{0}, []int{-1, 1, 2, least, greatest}}, api.ErrRange},
		{ranges{5, []int{1, 2, 3}, []int{-1, 0, 4, 5, least, greatest, greatest - 1}}, api.ErrRange},
		{ranges{6, []int{1, 2}, []int{-1, 0, 3, 4, least, greatest}}, api.ErrRange},
		{ranges{7, []int{0, 199}, []int{-1, 200, 201, least, greatest}}, api.ErrRange},
		{ranges{8, []int{101, 1 << 40}, []int{-1, 99, 100, 1<<40 + 1, least, greatest}}, api.ErrRange},
	} {
		for _, n := range x.good {
			wantCheck(t, laid(base+with(plainCable, x.index, n)), 0, 0, api.OK, x.index, n)
		}
		for _, n := range x.poor {
			wantCheck(t, laid(base+with(plainCable, x.index, n)), 3, 0, x.e, x.index, n)
			wantCheck(t, laid(base+"0 0 0 0 0 1 1 0 100, cable "+with(plainCable, x.index, n)), 3, 1, x.e, x.index, n)
		}
	}
}

func TestCheckBlock(t *testing.T) {
	for s, e := range map[string]api.Errno{
		"0 0 1024 1": api.OK, "0 0 1 1024": api.OK, "0 0 64 64": api.OK, "0 0 4 1024": api.OK, "0 0 1024 4": api.OK, "960 960 64 64": api.OK, "1023 1023 1 1": api.OK,
		"0 0 17 241": api.ErrRange, "0 0 241 17": api.ErrRange, "0 0 1024 1024": api.ErrRange, "0 0 64 65": api.ErrRange,
		"961 960 64 64": api.ErrRange, "960 961 64 64": api.ErrRange, "1024 0 1 1": api.ErrRange, "0 1024 1 1": api.ErrRange,
		// Sums and products that would leave an int.
		"1 0 9223372036854775807 1": api.ErrRange, "0 1 1 9223372036854775807": api.ErrRange, "0 0 4294967296 4294967296": api.ErrRange,
		"9223372036854775807 0 1 1": api.ErrRange, "0 9223372036854775807 1 1": api.ErrRange, "-9223372036854775808 0 1 1": api.ErrRange,
	} {
		part := 3
		if e == api.OK {
			part = 0
		}
		wantCheck(t, laid("plane 0 1 1024 1024 1 1 0, cable 0 0 0 "+s+" 0 1"), part, 0, e, s)
	}
}

// TestCheckOrderInCable has cables with several faults.
func TestCheckOrderInCable(t *testing.T) {
	base := "plane " + plainPlane + ", cable " + plainCable + ", cable "
	for s, e := range map[string]api.Errno{
		"16 5 9 1 0 3 2 100 200": api.ErrRange,
		"2 32 9 1 0 3 2 100 200": api.ErrRange,
		"2 5 9 1 0 3 2 200 200":  api.ErrRange,
		"2 5 9 1 0 0 2 100 200":  api.ErrNone,
		"2 5 -1 9 0 3 2 100 200": api.ErrNone,
		"2 5 0 1 0 9 2 100 200":  api.ErrRange,
		"2 5 0 1 0 3 2 199 300":  api.ErrThere,
	} {
		wantCheck(t, laid(base+s), 3, 1, e, s)
		wantCheck(t, laid(base+s+", cable -1 0 0 0 0 0 0 0 0"), 3, 1, e, s)
	}
}

func TestCheckCollisions(t *testing.T) {
	const planes = "plane 0 1 4 4 1 1 0, plane 0 2 4 4 1 1 0, "
	const first = "cable 1 0 0 1 1 2 2 100 200, "
	for s, index := range map[string]int{
		// The same chip, of other cells.
		"cable 1 0 1 0 0 1 1 200 300": -1, "cable 1 0 1 0 0 1 1 0 100": -1,
		"cable 1 0 1 0 0 1 1 199 300": 1, "cable 1 0 1 0 0 1 1 0 101": 1, "cable 1 0 1 0 0 1 1 100 200": 1, "cable 1 0 1 0 0 1 1 150 151": 1, "cable 1 0 1 0 0 1 1 0 999": 1,
		"cable 1 0 0 0 0 1 1 150 160": 1,
		// Other chips, of other cells.
		"cable 0 0 1 1 1 2 2 100 200": -1, "cable 1 1 1 1 1 2 2 100 200": -1, "cable 0 31 1 1 1 2 2 100 200": -1, "cable 0 1 1 1 1 2 2 100 200": -1, "cable 2 0 1 1 1 2 2 100 200": -1,
		// Other chips, of the same plane: around the block, and in its corners.
		"cable 0 0 0 0 0 1 4 100 200": -1, "cable 0 0 0 3 0 1 4 100 200": -1, "cable 0 0 0 0 0 4 1 100 200": -1, "cable 0 0 0 0 3 4 1 100 200": -1,
		"cable 0 0 0 0 0 2 2 100 200": 1, "cable 0 0 0 2 0 2 2 100 200": 1, "cable 0 0 0 0 2 2 2 100 200": 1, "cable 0 0 0 2 2 2 2 100 200": 1,
		"cable 0 0 0 0 0 4 4 100 200": 1, "cable 0 0 0 1 1 1 1 100 200": 1, "cable 0 0 0 2 2 1 1 100 200": 1, "cable 0 0 0 0 1 4 1 100 200": 1, "cable 0 0 0 2 0 1 4 100 200": 1,
		// The same cells, at times that touch.
		"cable 0 0 0 1 1 2 2 200 300": -1, "cable 0 0 0 1 1 2 2 0 100": -1, "cable 0 0 0 1 1 2 2 199 200": 1, "cable 0 0 0 1 1 2 2 0 101": 1,
		// A third one that collides with the first, or with the second.
		"cable 1 0 1 0 0 1 1 200 300, cable 1 0 1 0 0 1 1 199 200":                             2,
		"cable 1 0 1 0 0 1 1 200 300, cable 1 0 1 0 0 1 1 299 301":                             2,
		"cable 0 0 0 0 0 1 4 100 200, cable 0 1 0 1 1 1 1 150 160":                             2,
		"cable 0 0 0 0 0 1 4 100 200, cable 0 1 0 0 3 1 1 150 160":                             2,
		"cable 0 0 0 0 0 1 4 100 200, cable 0 1 0 3 3 1 1 150 160":                             -1,
		"cable 0 0 1 0 0 1 1 0 9, cable 0 1 1 1 0 1 1 0 9, cable 0 2 1 1 0 1 1 8 9":            3,
		"cable 0 0 1 0 0 1 1 0 9, cable 0 1 1 1 0 1 1 0 9, cable 0 0 1 2 0 1 1 8 9":            3,
		"cable 0 0 1 0 0 1 1 0 9, cable 0 1 1 1 0 1 1 0 9, cable 0 2 1 2 0 1 1 8 9":            -1,
		"cable 0 0 1 0 0 1 1 0 9, cable 0 0 1 0 0 1 1 0 9, cable 99 0 1 2 0 1 1 8 9":           2,
		"cable 0 0 1 0 0 1 1 0 9, cable 0 0 1 0 0 1 1 9 18, cable 0 0 1 0 0 1 1 18 27":         -1,
		"cable 0 0 1 0 0 1 1 0 1099511627776, cable 0 0 1 1 0 1 1 1099511627775 1099511627776": 2,
		"cable 0 0 1 0 0 1 1 0 1099511627775, cable 0 0 1 1 0 1 1 1099511627775 1099511627776": -1,
		"cable 15 31 1 0 0 1 1 0 9, cable 15 30 1 1 0 1 1 0 9, cable 15 31 1 2 0 1 1 0 9":      3,
		"cable 15 31 1 0 0 1 1 0 9, cable 14 31 1 1 0 1 1 0 9, cable 15 30 1 2 0 1 1 0 9":      -1,
		"cable 0 0 1 0 0 1 1 0 9, cable 3 0 1 0 1 1 1 0 9, cable 0 3 1 0 2 1 1 0 9":            -1,
		"cable 1 1 1 0 0 1 1 0 9, cable 0 31 1 0 1 1 1 0 9, cable 1 2 1 3 3 1 1 0 9":           -1,
		"cable 0 5 1 0 0 1 1 0 9, cable 5 0 1 0 1 1 1 0 9, cable 5 5 1 0 2 1 1 0 9":            -1,
	} {
		if index < 0 {
			wantCheck(t, laid(planes+first+s), 0, 0, api.OK, s)
		} else {
			wantCheck(t, laid(planes+first+s), 3, index, api.ErrThere, s)
		}
	}
}

// TestCheckOrderOfParts has a fault in each part: what comes first decides.
func TestCheckOrderOfParts(t *testing.T) {
	d := laid("plane " + plainPlane + ", plane " + with(plainPlane, 1, 0) + ", slab 0 5 5 0, cable 16 0 0 0 0 0 0 0 0")
	d.Name = "A"
	wantCheck(t, d, 0, 0, api.ErrArg)
	d.Name = "a"
	wantCheck(t, d, 1, 1, api.ErrRange)
	d.Planes[1].Depth = 100
	wantCheck(t, d, 1, 1, api.ErrThere)
	d.Planes[1].Depth = 101
	wantCheck(t, d, 2, 0, api.ErrRange)
	d.Field[0].To = 6
	wantCheck(t, d, 3, 0, api.ErrRange)
	d.Cables[0] = cable(plainCable)
	wantCheck(t, d, 0, 0, api.OK)
}

// TestCheckAny holds Check against the definitions, with detectors of which about a half is valid.
func TestCheckAny(t *testing.T) {
	s := newSource()
	seen := map[api.Errno]int{}
	for range 3000 {
		d := s.valid()
		switch s.Intn(8) {
		case 0:
			d.Planes = append(slices.Clone(d.Planes), s.plane(), s.plane())
		case 1:
			d.Field = append(slices.Clone(d.Field), s.slab(), s.slab())
		case 2, 3, 4:
			d.Cables = append(slices.Clone(d.Cables), s.cable(len(d.Planes)), s.cable(len(d.Planes)))
		}
		part, index, e := fault(d)
		wantCheck(t, d, part, index, e, d)
		seen[e]++
	}
	for _, e := range []api.Errno{api.OK, api.ErrRange, api.ErrThere, api.ErrNone} {
		if seen[e] < 20 {
			t.Error("few cases", seen)
		}
	}
}
