package detector_test

import (
	"testing"

	"hodoscope/api"
	"hodoscope/detector"
)

// TestExamples has the examples of the chapter.
func TestExamples(t *testing.T) {
	if g, e := detector.Global(1, [3]int{10, 2, 3}); g != [3]int{-2, 10, 3} || e != api.OK {
		t.Error(g, e)
	}
	if p, e := detector.Local(5, [3]int{1, 2, -9}); p != [3]int{9, 2, 1} || e != api.OK {
		t.Error(p, e)
	}
	p := plane(plainPlane)
	wantCentre(t, p, 0, 0, -15, -7, api.OK)
	wantCentre(t, p, 3, 1, 15, 7, api.OK)
	wantAt(t, p, -20, 0, 0, 1, true)
	wantAt(t, p, 20, 0, 0, 0, false)
	d := plain()
	wantField(t, d, 0, 9, 0, 0, 0)
	wantField(t, d, 0, 10, 3, 0, 0)
	wantField(t, d, 0, 11, 3, 3, 3)
	wantField(t, d, 0, 15, 3, 15, 75)
	wantField(t, d, 0, 20, 0, 30, 300)
	wantField(t, d, 0, 30, 0, 30, 900)
	if key, ok := detector.Key(api.Cell{Plane: 1, Col: 2, Row: 3}); key != 1050627 || !ok {
		t.Error(key, ok)
	}
	if c, ok := detector.Keyed(1050627); c != (api.Cell{Plane: 1, Col: 2, Row: 3}) || !ok {
		t.Error(c, ok)
	}
	chip := api.Chip{Link: 2, Slot: 5}
	wantCell(t, d, 150, chip, 3, api.Cell{Col: 2, Row: 1}, api.OK)
	wantCell(t, d, 200, chip, 3, api.Cell{}, api.ErrNone)
	wantCell(t, d, 150, chip, 6, api.Cell{}, api.ErrRange)
	wantPlace(t, d, 150, api.Cell{Col: 3}, chip, 4, api.OK)
	bare := laid("plane " + plainPlane)
	l := api.Line{X0: 1, X1: -1 << 18}
	wantCross(t, bare, 0, l, 0, 1, 0, api.OK)
	wantCross(t, bare, 0, l, 6, -1, 0, api.OK)
	wantCross(t, bare, 0, l, 100, -24, 0, api.OK)
	if cells, e := detector.Swim(bare, 0, l); len(cells) > 0 || e != api.OK {
		t.Error(cells, e)
	}
	wantParseError(t, "detector a\nplane 0 1 1 1 1 1 0", 2, api.ErrForm)
}
