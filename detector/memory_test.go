package detector_test

import (
	"reflect"
	"slices"
	"testing"
	"unsafe"

	"hodoscope/api"
	"hodoscope/detector"
)

// calls returns every call that takes a detector, and what it returns.
func calls() map[string]func(d api.Detector) []any {
	line := api.Line{X0: 1, X1: 1 << 10, K: 1, Y0: 1}
	return map[string]func(d api.Detector) []any{
		"Check":     func(d api.Detector) []any { p, i, e := detector.Check(d); return []any{p, i, e} },
		"Print":     func(d api.Detector) []any { return []any{detector.Print(d)} },
		"Stack":     func(d api.Detector) []any { return []any{detector.Stack(d, 0)} },
		"Field":     func(d api.Detector) []any { return []any{detector.Field(d, 0, 200)} },
		"Integral":  func(d api.Detector) []any { return []any{detector.Integral(d, 0, 200)} },
		"Bend":      func(d api.Detector) []any { return []any{detector.Bend(d, 0, 200)} },
		"Thickness": func(d api.Detector) []any { return []any{detector.Thickness(d, 0, 0, 1000)} },
		"Live":      func(d api.Detector) []any { return []any{detector.Live(d, 150)} },
		"Times":     func(d api.Detector) []any { return []any{detector.Times(d)} },
		"Chips":     func(d api.Detector) []any { return []any{detector.Chips(d, 150)} },
		"Resolve": func(d api.Detector) []any {
			c, e := detector.Resolve(d, 150, api.Chip{Link: 3, Slot: 1}, 1)
			return []any{c, e}
		},
		"Where": func(d api.Detector) []any {
			c, a, e := detector.Where(d, 150, api.Cell{Plane: 2})
			return []any{c, a, e}
		},
		"Cross": func(d api.Detector) []any { x, y, e := detector.Cross(d, 0, line, 200); return []any{x, y, e} },
		"Swim":  func(d api.Detector) []any { l, e := detector.Swim(d, 0, line); return []any{l, e} },
	}
}

// overwrite changes a list, with the room behind it.
func overwrite(v any) {
	switch l := v.(type) {
	case []int:
		for i := range l[:cap(l)] {
			l[:cap(l)][i] = -9
		}
	case []api.Chip:
		for i := range l[:cap(l)] {
			l[:cap(l)][i] = api.Chip{Link: -9}
		}
	case []api.Cell:
		for i := range l[:cap(l)] {
			l[:cap(l)][i] = api.Cell{Plane: -9}
		}
	}
}

// roomy returns d with room behind its lists, which belongs to the caller.
func roomy(d api.Detector) api.Detector {
	d.Planes = append(slices.Grow(slices.Clone(d.Planes), 9), api.Plane{Face: -9})[:len(d.Planes)]
	d.Field = append(slices.Grow(slices.Clone(d.Field), 9), api.Slab{Face: -9})[:len(d.Field)]
	d.Cables = append(slices.Grow(slices.Clone(d.Cables), 9), api.Cable{Link: -9})[:len(d.Cables)]
	return d
}

// whole returns the lists of d with the room that roomy put behind them.
func whole(d api.Detector) api.Detector {
	return api.Detector{Name: d.Name, Planes: d.Planes[:len(d.Planes)+1], Field: d.Field[:len(d.Field)+1], Cables: d.Cables[:len(d.Cables)+1]}
}

// TestMemory is R4: arguments stay as they were, results are new memory.
func TestMemory(t *testing.T) {
	for name, call := range calls() {
		d := roomy(rich())
		got, want := call(d), call(rich())
		if !reflect.DeepEqual(got, want) {
			t.Error(name, got, want)
		}
		for _, v := range got {
			overwrite(v)
		}
		if !reflect.DeepEqual(whole(d), whole(roomy(rich()))) {
			t.Error(name, "changed its argument, or returned its memory")
		}
		if again := call(d); !reflect.DeepEqual(again, want) {
			t.Error(name, "keeps memory of its result", again, want)
		}
		got = call(d)
		for i := range d.Planes {
			d.Planes[i] = api.Plane{}
		}
		for i := range d.Field {
			d.Field[i] = api.Slab{}
		}
		for i := range d.Cables {
			d.Cables[i] = api.Cable{}
		}
		if !reflect.DeepEqual(got, want) {
			t.Error(name, "changed with its argument")
		}
	}
}

func TestParseMemory(t *testing.T) {
	s := written(rich())
	d, _, _ := detector.Parse(s)
	for i := range d.Planes[:cap(d.Planes)] {
		d.Planes[:cap(d.Planes)][i] = api.Plane{Face: -9}
	}
	for i := range d.Field[:cap(d.Field)] {
		d.Field[:cap(d.Field)][i] = api.Slab{Face: -9}
	}
	for i := range d.Cables[:cap(d.Cables)] {
		d.Cables[:cap(d.Cables)][i] = api.Cable{Link: -9}
	}
	if again, _, e := detector.Parse(s); e != api.OK || !equal(again, rich()) {
		t.Error(again, e)
	}
	text, name := uintptr(unsafe.Pointer(unsafe.StringData(s))), uintptr(unsafe.Pointer(unsafe.StringData(d.Name)))
	if name >= text && name < text+uintptr(len(s)) {
		t.Error("the name is a part of the text")
	}
}

// TestEmptyLists is R3: nil lists and empty ones are the same.
func TestEmptyLists(t *testing.T) {
	bare := laid("plane " + plainPlane)
	empty := bare
	empty.Field, empty.Cables = []api.Slab{}, []api.Cable{}
	for name, call := range calls() {
		if got, want := call(empty), call(bare); !reflect.DeepEqual(got, want) {
			t.Error(name, got, want)
		}
	}
	wantCheck(t, api.Detector{Name: "a", Planes: []api.Plane{}}, 0, 0, api.ErrArg)
}

// TestExtremes is P0.1: every function returns, whatever its numbers are.
func TestExtremes(t *testing.T) {
	l := extremes()
	detectors := append(invalid(), rich(), filled(64, 64, 512))
	for i, a := range l {
		b, c := l[(i+5)%len(l)], l[(i+8)%len(l)]
		p := api.Plane{Face: a, Depth: b, Cols: c, Rows: a, HalfX: b, HalfY: c, Thick: a}
		d := api.Detector{Name: "a", Planes: []api.Plane{p}, Field: []api.Slab{{Face: a, From: b, To: c, B: a}}, Cables: []api.Cable{{Link: a, Slot: b, Plane: c, Col: a, Row: b, Wide: c, High: a, From: b, To: c}}}
		detectors = append(detectors, d)
		d.Planes = []api.Plane{plane(plainPlane)}
		detectors = append(detectors, d)
		d.Field = nil
		detectors = append(detectors, d)
		detector.Axes(a)
		detector.Global(a, [3]int{b, c, a})
		detector.Local(a, [3]int{b, c, a})
		for _, q := range []api.Plane{p, plane(plainPlane), plane("0 1 1024 1024 4096 4096 0")} {
			detector.Centre(q, a, b)
			detector.At(q, a, b)
		}
		detector.Key(api.Cell{Plane: a, Col: b, Row: c})
		detector.Keyed(a)
	}
	for _, d := range detectors {
		for i, a := range l {
			b, c := l[(i+5)%len(l)], l[(i+8)%len(l)]
			for _, face := range []int{a, 0, 4} {
				detector.Stack(d, face)
				detector.Field(d, face, b)
				detector.Integral(d, face, b)
				detector.Bend(d, face, b)
				detector.Thickness(d, face, b, c)
				detector.Cross(d, face, api.Line{X0: a, X1: b, K: c, Y0: a, Y1: b}, c)
				detector.Swim(d, face, api.Line{X0: a, X1: b, K: c, Y0: a, Y1: b})
			}
			detector.Live(d, a)
			detector.Times(d)
			detector.Chips(d, a)
			detector.Resolve(d, a, api.Chip{Link: b, Slot: c}, a)
			detector.Where(d, a, api.Cell{Plane: b, Col: c, Row: a})
		}
	}
}
