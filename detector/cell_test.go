package detector_test

import (
	"testing"

	"hodoscope/api"
	"hodoscope/detector"
)

func wantAt(t *testing.T, p api.Plane, x, y, col, row int, ok bool) {
	t.Helper()
	if c, r, is := detector.At(p, x, y); c != col || r != row || is != ok {
		t.Errorf("At of %v, %d, %d: %d %d %v, want %d %d %v", p, x, y, c, r, is, col, row, ok)
	}
}

func wantCentre(t *testing.T, p api.Plane, col, row, x, y int, e api.Errno) {
	t.Helper()
	if cx, cy, f := detector.Centre(p, col, row); cx != x || cy != y || f != e {
		t.Errorf("Centre of %v, %d, %d: %d %d %v, want %d %d %v", p, col, row, cx, cy, f, x, y, e)
	}
}

// smallPlanes have even and odd numbers of cells.
func smallPlanes() []api.Plane {
	return []api.Plane{plane(plainPlane), plane("6 0 3 5 2 3 0"), plane("5 1 1 1 1 1 0"), plane("1 65536 2 7 3 1 1000"), plane("4 9 5 4 1 2 0")}
}

func TestCentre(t *testing.T) {
	for _, p := range append(smallPlanes(), plane("0 1 1024 1023 4096 4095 0")) {
		for col := 0; col < p.Cols; col += 1 + p.Cols/9 {
			for row := 0; row < p.Rows; row += 1 + p.Rows/9 {
				// The centre is in the middle of the edges.
				x := ((2*col-p.Cols)*p.HalfX + (2*col+2-p.Cols)*p.HalfX) / 2
				y := ((2*row-p.Rows)*p.HalfY + (2*row+2-p.Rows)*p.HalfY) / 2
				wantCentre(t, p, col, row, x, y, api.OK)
			}
		}
		for _, n := range []int{-1, least, greatest, 1024} {
			wantCentre(t, p, n, 0, 0, 0, api.ErrRange)
			wantCentre(t, p, 0, n, 0, 0, api.ErrRange)
		}
		wantCentre(t, p, p.Cols, 0, 0, 0, api.ErrRange)
		wantCentre(t, p, 0, p.Rows, 0, 0, api.ErrRange)
	}
	wantCentre(t, plane("0 1 1024 1024 4096 4096 0"), 0, 1023, -4190208, 4190208, api.OK)
}

// poorPlanes are not valid.
func poorPlanes() []api.Plane {
	l := []api.Plane{{}}
	for index, values := range [][]int{{-1, 6, 7}, {0, -1, 65537}, {0, -1, 1025}, {0, -1, 1025}, {0, -1, 4097}, {0, -1, 4097}, {-1, 1001}} {
		for _, n := range append(values, least, greatest) {
			l = append(l, plane(with(plainPlane, index, n)))
		}
	}
	return append(l, plane("6 1 4 2 5 7 0"), plane("6 0 4 2 5 7 1"))
}

func TestCellsOfPoorPlanes(t *testing.T) {
	for _, p := range poorPlanes() {
		wantCentre(t, p, 0, 0, 0, 0, api.ErrArg)
		wantCentre(t, p, -1, 5, 0, 0, api.ErrArg)
		wantAt(t, p, 0, 0, 0, 0, false)
	}
}

// TestAt holds At against the definition, in and around small planes.
func TestAt(t *testing.T) {
	for _, p := range smallPlanes() {
		for x := -p.Cols*p.HalfX - 3; x <= p.Cols*p.HalfX+3; x++ {
			for y := -p.Rows*p.HalfY - 3; y <= p.Rows*p.HalfY+3; y++ {
				cells := containing(p, x, y)
				if len(cells) > 1 {
					t.Fatal(p, x, y, cells)
				}
				if len(cells) == 0 {
					wantAt(t, p, x, y, 0, 0, false)
				} else {
					wantAt(t, p, x, y, cells[0][0], cells[0][1], true)
				}
			}
		}
		for _, n := range []int{least, least + 1, -1 << 62, -1 << 40, 1 << 40, 1 << 62, greatest - 1, greatest} {
			wantAt(t, p, n, 0, 0, 0, false)
			wantAt(t, p, 0, n, 0, 0, false)
			wantAt(t, p, n, n, 0, 0, false)
		}
	}
}

func TestAtEdges(t *testing.T) {
	const edge = 1024 * 4096
	p := plane("0 1 1024 1024 4096 4096 0")
	wantAt(t, p, -edge, -edge, 0, 0, true)
	wantAt(t, p, -edge-1, 0, 0, 0, false)
	wantAt(t, p, 0, -edge-1, 0, 0, false)
	wantAt(t, p, edge-1, edge-1, 1023, 1023, true)
	wantAt(t, p, edge, 0, 0, 0, false)
	wantAt(t, p, 0, edge, 0, 0, false)
	wantAt(t, p, 0, 0, 512, 512, true)
	wantAt(t, p, -1, -1, 511, 511, true)
	wantAt(t, p, -1, 0, 511, 512, true)
}

// TestAtOfCentre is P3.13: that no two cells contain the same place is checked by TestAt, with all places of small planes.
func TestAtOfCentre(t *testing.T) {
	for _, p := range append(smallPlanes(), plane("6 0 1024 1024 4096 1 0"), plane("2 1 1023 1 1 4096 0")) {
		for col := 0; col < p.Cols; col += 1 + p.Cols/50 {
			for row := 0; row < p.Rows; row += 1 + p.Rows/50 {
				x, y, e := detector.Centre(p, col, row)
				wantOK(t, e, p, col, row)
				wantAt(t, p, x, y, col, row, true)
				wantAt(t, p, x-p.HalfX, y-p.HalfY, col, row, true)
				wantAt(t, p, x+p.HalfX-1, y+p.HalfY-1, col, row, true)
			}
		}
	}
}

func TestKey(t *testing.T) {
	for _, c := range []api.Cell{{}, {Plane: 1}, {Col: 1}, {Row: 1}, {Plane: 1, Col: 2, Row: 3}, {Plane: 63}, {Col: 1023}, {Row: 1023}, {Plane: 63, Col: 1023, Row: 1023}, {Plane: 63, Row: 1023}, {Plane: 17, Col: 512, Row: 511}} {
		want := 1048576*c.Plane + 1024*c.Col + c.Row
		if key, ok := detector.Key(c); key != want || !ok {
			t.Error(c, key, ok, want)
		}
		if cell, ok := detector.Keyed(want); cell != c || !ok {
			t.Error(want, cell, ok)
		}
	}
	for _, c := range []api.Cell{{Plane: -1}, {Plane: 64}, {Col: -1}, {Col: 1024}, {Row: -1}, {Row: 1024}, {Plane: 1, Col: -1}, {Plane: 1, Row: -1}, {Plane: least}, {Plane: greatest}, {Col: least}, {Col: greatest}, {Row: least}, {Row: greatest}} {
		if key, ok := detector.Key(c); key != 0 || ok {
			t.Error(c, key, ok)
		}
	}
	for _, key := range []int{-1, 1 << 26, 1<<26 + 1, least, greatest, -1 << 26} {
		if c, ok := detector.Keyed(key); c != (api.Cell{}) || ok {
			t.Error(key, c, ok)
		}
	}
	for key := 0; key < 1<<26; key += 9973 {
		c, ok := detector.Keyed(key)
		if back, is := detector.Key(c); back != key || !ok || !is {
			t.Error(key, c, back)
		}
	}
}
