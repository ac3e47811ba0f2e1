package detector_test

import (
	"slices"
	"testing"

	"hodoscope/api"
	"hodoscope/detector"
)

func wantChips(t *testing.T, d api.Detector, time int, want []api.Chip) {
	t.Helper()
	if got := detector.Chips(d, time); !slices.Equal(got, want) {
		t.Errorf("Chips at %d: %v, want %v", time, got, want)
	}
}

func wantLive(t *testing.T, d api.Detector, time int, want []int) {
	t.Helper()
	if got := detector.Live(d, time); !slices.Equal(got, want) {
		t.Errorf("Live at %d: %v, want %v", time, got, want)
	}
}

func wantCell(t *testing.T, d api.Detector, time int, c api.Chip, addr int, want api.Cell, e api.Errno) {
	t.Helper()
	if got, f := detector.Resolve(d, time, c, addr); got != want || f != e {
		t.Errorf("Resolve of %d, %v, %d: %v %v, want %v %v", time, c, addr, got, f, want, e)
	}
}

func wantPlace(t *testing.T, d api.Detector, time int, c api.Cell, want api.Chip, addr int, e api.Errno) {
	t.Helper()
	if got, a, f := detector.Where(d, time, c); got != want || a != addr || f != e {
		t.Errorf("Where of %d, %v: %v %d %v, want %v %d %v", time, c, got, a, f, want, addr, e)
	}
}

func TestLive(t *testing.T) {
	d := rich()
	for _, x := range []struct {
		time int
		live []int
	}{
		{least, nil}, {-1, nil}, {0, []int{2}}, {49, []int{2}}, {50, []int{2, 5}}, {99, []int{2, 5}}, {100, []int{0, 1, 2, 5}}, {149, []int{0, 1, 2, 5}}, {150, []int{0, 1, 2, 3, 5}}, {159, []int{0, 1, 2, 3, 5}}, {160, []int{0, 1, 2, 5, 7}},
		{199, []int{0, 1, 2, 5}}, {200, []int{1, 2, 4, 5}}, {299, []int{1, 2, 4}}, {300, []int{2, 6}}, {301, []int{2}}, {1<<40 - 1, []int{2}}, {1 << 40, nil}, {greatest, nil},
	} {
		wantLive(t, d, x.time, x.live)
	}
	wantChips(t, d, 150, []api.Chip{{Link: 0, Slot: 2}, {Link: 0, Slot: 31}, {Link: 1, Slot: 0}, {Link: 3, Slot: 1}, {Link: 15, Slot: 0}})
	wantChips(t, d, 300, []api.Chip{{Link: 1, Slot: 0}, {Link: 3, Slot: 1}})
	wantChips(t, d, -1, nil)
	wantChips(t, d, 1<<40, nil)
	if got, want := detector.Times(d), []int{0, 50, 100, 150, 160, 170, 200, 250, 300, 301, 1 << 40}; !slices.Equal(got, want) {
		t.Error(got, want)
	}
	for _, d := range append(invalid(), laid("plane "+plainPlane)) {
		wantLive(t, d, 150, nil)
		wantChips(t, d, 150, nil)
		if got := detector.Times(d); len(got) > 0 {
			t.Error(d, got)
		}
	}
}

func TestResolve(t *testing.T) {
	d := laid("plane 0 1 9 9 1 1 0, plane 0 2 9 9 1 1 0, cable 3 1 1 2 4 3 2 100 200, cable 3 1 0 0 0 1 5 200 300, cable 1 3 0 8 8 1 1 0 400")
	chip := api.Chip{Link: 3, Slot: 1}
	for addr, want := range []api.Cell{{Plane: 1, Col: 2, Row: 4}, {Plane: 1, Col: 2, Row: 5}, {Plane: 1, Col: 3, Row: 4}, {Plane: 1, Col: 3, Row: 5}, {Plane: 1, Col: 4, Row: 4}, {Plane: 1, Col: 4, Row: 5}} {
		for _, time := range []int{100, 150, 199} {
			wantCell(t, d, time, chip, addr, want, api.OK)
			wantPlace(t, d, time, want, chip, addr, api.OK)
		}
		for _, time := range []int{99, 300, -1, 400, 1 << 40, least, greatest} {
			wantCell(t, d, time, chip, addr, api.Cell{}, api.ErrNone)
			wantPlace(t, d, time, want, api.Chip{}, 0, api.ErrNone)
		}
		wantPlace(t, d, 200, want, api.Chip{}, 0, api.ErrNone)
	}
	for addr := range 5 {
		wantCell(t, d, 200, chip, addr, api.Cell{Row: addr}, api.OK)
		wantPlace(t, d, 299, api.Cell{Row: addr}, chip, addr, api.OK)
	}
	wantCell(t, d, 200, chip, 5, api.Cell{}, api.ErrRange)
	for _, addr := range []int{-1, 6, 7, least, greatest, 1 << 32} {
		wantCell(t, d, 150, chip, addr, api.Cell{}, api.ErrRange)
		wantCell(t, d, 99, chip, addr, api.Cell{}, api.ErrNone)
	}
	for _, other := range []api.Chip{{}, {Link: 3}, {Link: 3, Slot: 2}, {Link: 2, Slot: 1}, {Link: 1, Slot: 1}, {Link: -1, Slot: 1}, {Link: 16, Slot: 32}, {Link: least, Slot: least}, {Link: greatest, Slot: greatest}, {Link: 2, Slot: 33}, {Link: 4, Slot: -31}} {
		wantCell(t, d, 150, other, 0, api.Cell{}, api.ErrNone)
		wantCell(t, d, 150, other, -1, api.Cell{}, api.ErrNone)
	}
	wantCell(t, d, 150, api.Chip{Link: 1, Slot: 3}, 0, api.Cell{Col: 8, Row: 8}, api.OK)
	for _, d := range invalid() {
		wantCell(t, d, 150, api.Chip{Link: 2, Slot: 5}, 0, api.Cell{}, api.ErrArg)
		wantCell(t, d, 150, api.Chip{Link: -1}, -1, api.Cell{}, api.ErrArg)
		wantPlace(t, d, 150, api.Cell{Col: 1}, api.Chip{}, 0, api.ErrArg)
	}
}

// TestWhereOutside asks for cells around a block, and for numbers of which differences and products wrap around to addresses.
func TestWhereOutside(t *testing.T) {
	d := laid("plane 0 1 9 9 1 1 0, plane 0 2 9 9 1 1 0, cable 3 1 1 2 4 3 2 0 9, cable 3 2 0 5 1 2 4 0 9")
	numbers := append(extremes(), 3, 4, 5, 6, 7, 8, 9, 1<<62+2, 1<<61+5, 1<<63-1<<62, -1<<62+2, -1<<61+2, -1<<62+5, 1<<62+5, least+2, least+5, least+4)
	for _, plane := range append(extremes(), 3, 64) {
		for _, col := range numbers {
			for _, row := range numbers {
				c := api.Cell{Plane: plane, Col: col, Row: row}
				chip, addr, e := placed(d, 5, c)
				wantPlace(t, d, 5, c, chip, addr, e)
			}
		}
	}
}

// TestCablesAny holds everything about cables against the definitions.
func TestCablesAny(t *testing.T) {
	s := newSource()
	found := 0
	for range 150 {
		d := s.valid()
		for time := -1; time < 16; time++ {
			wantLive(t, d, time, liveAt(d, time))
			wantChips(t, d, time, chipsAt(d, time))
			for link := range 4 {
				for slot := range 4 {
					for addr := -1; addr < 10; addr++ {
						chip := api.Chip{Link: link, Slot: slot}
						cell, e := resolved(d, time, chip, addr)
						wantCell(t, d, time, chip, addr, cell, e)
						if e == api.OK {
							found++
						}
					}
				}
			}
		}
		time := s.Intn(15)
		for plane := range d.Planes {
			for col := range 4 {
				for row := range 4 {
					c := api.Cell{Plane: plane, Col: col, Row: row}
					chip, addr, e := placed(d, time, c)
					wantPlace(t, d, time, c, chip, addr, e)
				}
			}
		}
	}
	if found < 1000 {
		t.Error("few cells", found)
	}
}

// TestTimesAny is P3.14's first part: Live does not change but at the Times, which are those of the cables.
func TestTimesAny(t *testing.T) {
	s := newSource()
	for range 200 {
		d := s.valid()
		var want []int
		for time := range 20 {
			if slices.ContainsFunc(d.Cables, func(c api.Cable) bool { return c.From == time || c.To == time }) {
				want = append(want, time)
			}
		}
		times := detector.Times(d)
		if !slices.Equal(times, want) {
			t.Error(d.Cables, times, want)
		}
		for time := range 20 {
			if !slices.Contains(times, time) && !slices.Equal(detector.Live(d, time), detector.Live(d, time-1)) {
				t.Error(d.Cables, time)
			}
		}
	}
}

// TestResolveAndWhere is P3.14's second part.
func TestResolveAndWhere(t *testing.T) {
	for _, d := range []api.Detector{rich(), filled(8, 0, 512), plain()} {
		for _, time := range detector.Times(d) {
			connected := map[api.Cell]bool{}
			for _, chip := range detector.Chips(d, time) {
				for addr := 0; ; addr++ {
					cell, e := detector.Resolve(d, time, chip, addr)
					if e == api.ErrRange {
						break
					}
					wantOK(t, e, time, chip, addr)
					if connected[cell] {
						t.Error("two addresses", time, cell)
					}
					connected[cell] = true
					wantPlace(t, d, time, cell, chip, addr, api.OK)
				}
			}
			cells := 0
			for _, i := range detector.Live(d, time) {
				cells += d.Cables[i].Wide * d.Cables[i].High
			}
			if len(connected) != cells {
				t.Error(time, len(connected), cells)
			}
		}
	}
}
