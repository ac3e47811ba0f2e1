package detector_test

import (
	"reflect"
	"strings"
	"testing"

	"hodoscope/api"
	"hodoscope/detector"
)

// wantParsed checks that Parse of s returns d, and Print of d returns s.
func wantParsed(t *testing.T, s string, d api.Detector) {
	t.Helper()
	got, line, e := detector.Parse(s)
	if e != api.OK || line != 0 || !equal(got, d) {
		t.Errorf("Parse of %q: %v %d %v, want %v", s, got, line, e, d)
	}
	if text := detector.Print(d); text != s {
		t.Errorf("Print of %v: %q, want %q", d, text, s)
	}
}

func wantParseError(t *testing.T, s string, line int, e api.Errno) {
	t.Helper()
	d, l, f := detector.Parse(s)
	if l != line || f != e || !isZero(d) {
		t.Errorf("Parse of %q: %v %d %v, want the error %v in line %d", s, d, l, f, e, line)
	}
}

// equal reports whether two detectors are equal; nil and empty lists are.
func equal(a, b api.Detector) bool {
	return written(a) == written(b)
}

func isZero(d api.Detector) bool {
	return d.Name == "" && len(d.Planes)+len(d.Field)+len(d.Cables) == 0
}

func TestParse(t *testing.T) {
	wantParsed(t, "detector a\nplane 0 1 1 1 1 1 0\n", laid("plane 0 1 1 1 1 1 0"))
	wantParsed(t, "detector a\nplane 0 100 4 2 5 7 1\nslab 0 10 20 3\ncable 2 5 0 1 0 3 2 100 200\n", plain())
	wantParsed(t, "detector a\nplane 6 0 4 2 5 7 0\ncable 2 5 0 1 0 3 2 100 1099511627776\n", laid("plane 6 0 4 2 5 7 0, cable 2 5 0 1 0 3 2 100 1099511627776"))
	wantParsed(t, "detector a\nplane 5 65536 4 2 5 7 0\nslab 1 0 65536 -1024\nslab 0 10 20 -1\n", laid("plane 5 65536 4 2 5 7 0, slab 1 0 65536 -1024, slab 0 10 20 -1"))
	wantParsed(t, written(rich()), rich())
	full := filled(64, 64, 512)
	wantParsed(t, written(full), full)
	full.Name = strings.Repeat("z", 32)
	wantParsed(t, written(full), full)
}

func TestPrintOfOthers(t *testing.T) {
	for _, d := range append(invalid(), filled(65, 0, 0), filled(1, 65, 0), filled(1, 0, 513)) {
		if s := detector.Print(d); s != "" {
			t.Errorf("%v: %q", d, s)
		}
	}
}

const start = "detector a\nplane 0 100 4 2 5 7 1\n"

// TestParseForm has texts with a line that does not have the form.
func TestParseForm(t *testing.T) {
	for s, line := range map[string]int{
		// Texts without a line feed at their ends, and without lines.
		"": 1, "detector a": 1, "\n": 1, "\n\n": 1, " ": 1,
		"detector a\nplane 0 1 1 1 1 1 0":   2,
		start + "slab 0 10 20 3":            3,
		start + "slab 0 10 20 3\n" + "\n":   4,
		start + " ":                         3,
		start + "\n":                        3,
		start + "\nslab 0 10 20 3\n":        3,
		"\n" + start:                        1,
		"detector a\n\n":                    2,
		"detector a\n\nplane 0 1 1 1 1 1 0": 2,
		// Words.
		"detector\n": 1, "detector \n": 1, "detector  \n": 1, "detector  a\n": 1, "detector a \n": 1, "detector a b\n": 1, " detector a\n": 1, "detectora\n": 1, "detector\ta\n": 1, "Detector a\n": 1, "a\n": 1, "detecto a\n": 1, "detectors a\n": 1,
		"detector a\nplane  0 1 1 1 1 1 0\n": 2, "detector a\nplane 0 1 1 1 1 1 0 \n": 2, "detector a\n plane 0 1 1 1 1 1 0\n": 2, "detector a\nplane 0 1 1  1 1 1 0\n": 2,
		"detector a\nplane 0 1 1 1 1 1\n": 2, "detector a\nplane 0 1 1 1 1 1 0 0\n": 2, "detector a\nplane\n": 2, "detector a\nplane \n": 2, "detector a\nplane 0 1 1 1 1 1 \n": 2,
		"detector a\nplane\t0 1 1 1 1 1 0\n": 2, "detector a\nplane 0 1 1 1 1 1 0\r\n": 2, "detector a\nplane 0 1 1 1 1 1 0\x00\n": 2, "detector a\nPlane 0 1 1 1 1 1 0\n": 2, "detector a\nplanes 0 1 1 1 1 1 0\n": 2, "detector a\nx 0 1 1 1 1 1 0\n": 2, "detector a\n0 1 1 1 1 1 0\n": 2,
		start + "slab 0 10 20\n": 3, start + "slab 0 10 20 3 4\n": 3, start + "slab 0 10 20 3 \n": 3, start + "slab\n": 3, start + "slab 0 10  20\n": 3,
		start + "cable 2 5 0 1 0 3 2 100\n": 3, start + "cable 2 5 0 1 0 3 2 100 200 300\n": 3, start + "cable 2 5 0 1 0 3 2 100 200 \n": 3, start + "cable\n": 3,
		// Lines in the wrong order.
		"plane 0 1 1 1 1 1 0\n": 1, "slab 0 10 20 3\n": 1, "cable 2 5 0 1 0 3 2 100 200\n": 1, "plane 0 1 1 1 1 1 0\ndetector a\n": 1,
		"detector a\ndetector a\n": 2, start + "detector a\n": 3, start + "slab 0 10 20 3\ndetector b\n": 4, start + plainLines + "detector b\n": 5,
		start + "slab 0 10 20 3\nplane 0 1 1 1 1 1 0\n":                                       4,
		start + "cable 2 5 0 1 0 3 2 100 200\nplane 0 1 1 1 1 1 0\n":                          4,
		start + "cable 2 5 0 1 0 3 2 100 200\nslab 0 10 20 3\n":                               4,
		start + plainLines + "slab 0 20 30 3\n":                                               5,
		start + plainLines + "plane 0 101 4 2 5 7 1\n":                                        5,
		start + plainLines + "cable 2 5 0 1 0 3 2 200 300\nslab 0 20 30 3\nplane 0 1 1 1 1\n": 6,
		// The form comes before what is valid, and the first line that does not have it decides.
		"detector A\nplane 9 1 1 1 1 1 0\nplane 0 1 1\n": 3, "detector A\nplane 9 1\nplane 9 1 1 1 1 1 0\nplane 0 1 1": 2,
	} {
		wantParseError(t, s, line, api.ErrForm)
	}
	lines := strings.Repeat("plane 0 1 1 1 1 1 0\n", 70)
	wantParseError(t, "detector a\n"+lines+"x", 72, api.ErrForm)
	// A line that does not have the form, before lines that have it.
	for _, first := range []string{"", " ", "detector", "detector ", "detector  ", "detector  a", "detector a ", "detector a b", " detector a", "Detector a", "plane 0 1 1 1 1 1 0"} {
		wantParseError(t, first+"\nplane 0 1 1 1 1 1 0\n"+plainLines, 1, api.ErrForm)
	}
	for _, line := range []string{"", " ", "plane", "plane 0 1 1 1 1 1", "plane 0 1 1 1 1 1 ", "plane 0 1 1 1 1 1 0 ", "plane 0 1 1 1 1 1 0 0", "plane x 1 1 1 1 1 0", "plane 0 1 1 1 1 1 x", "slabs 0 1 2 3", "detector a"} {
		wantParseError(t, start+line+"\n"+plainLines, 3, api.ErrForm)
	}
}

const plainLines = "slab 0 10 20 3\ncable 2 5 0 1 0 3 2 100 200\n"

// TestParseNumbers puts words in the place of each number of each kind of line.
func TestParseNumbers(t *testing.T) {
	for _, line := range []string{"plane 0 100 4 2 5 7 1", "slab 0 10 20 3", "cable 2 5 0 1 0 3 2 100 200"} {
		words := strings.Fields(line)
		for i := 1; i < len(words); i++ {
			put := func(word string) string {
				changed := strings.Fields(line)
				changed[i] = word
				return start + strings.Join(changed, " ") + "\n"
			}
			for _, word := range []string{"", "00", "01", "-0", "-00", "-01", "-", "--1", "+1", "+0", "1-", "1_0", "1.0", "0x1", "1e1", "a", "０", "١", "1\r", "1\t", "\t1", "10000000000000", "-10000000000000", "00000000000001", "99999999999999999999", "9223372036854775808", "9223372036854775807", "-9223372036854775808", strings.Repeat("9", 1000), "000", "1a", "1/1", "1:", "O", "\x00", "\xb2"} {
				wantParseError(t, put(word), 3, api.ErrForm)
			}
			for _, word := range []string{"9999999999999", "-9999999999999", "1099511627777", "-1099511627777"} {
				if d, l, e := detector.Parse(put(word)); e != api.ErrRange && e != api.ErrNone || l != 3 || !isZero(d) {
					t.Errorf("%q: %v %d %v", put(word), d, l, e)
				}
			}
		}
	}
}

// TestParseFaults has texts that have the form, of detectors that are not valid.
func TestParseFaults(t *testing.T) {
	for s, want := range map[string]struct {
		line int
		e    api.Errno
	}{
		"detector a\n":                                                                     {1, api.ErrArg},
		"detector A\nplane 0 100 4 2 5 7 1\n":                                              {1, api.ErrArg},
		"detector a\r\nplane 0 100 4 2 5 7 1\n":                                            {1, api.ErrArg},
		"detector a\x00\nplane 0 100 4 2 5 7 1\n":                                          {1, api.ErrArg},
		"detector \xff\nplane 0 100 4 2 5 7 1\n":                                           {1, api.ErrArg},
		"detector \t\nplane 9 100 4 2 5 7 1\n":                                             {1, api.ErrArg},
		"detector é\nplane 0 100 4 2 5 7 1\n":                                              {1, api.ErrArg},
		"detector 1\nplane 0 100 4 2 5 7 1\n":                                              {1, api.ErrArg},
		"detector " + strings.Repeat("a", 33) + "\nplane 0 1 1 1 1 1 0\n":                  {1, api.ErrArg},
		"detector a\nslab 0 10 20 3\n":                                                     {1, api.ErrArg},
		"detector a\ncable 2 5 0 1 0 3 2 100 200\n":                                        {1, api.ErrArg},
		"detector a\nplane 0 0 4 2 5 7 1\n":                                                {2, api.ErrRange},
		start + "plane 0 0 4 2 5 7 1\n":                                                    {3, api.ErrRange},
		start + "plane 0 100 4 2 5 7 1\n":                                                  {3, api.ErrThere},
		start + "plane 6 0 4 2 5 7 0\nplane 6 0 1 1 1 1 0\n":                               {4, api.ErrThere},
		start + "slab 0 20 20 3\n":                                                         {3, api.ErrRange},
		start + "slab 0 10 20 3\nslab 0 19 21 3\n":                                         {4, api.ErrThere},
		start + "plane 0 1 1 1 1 1 0\nslab 0 10 20 3\nslab 0 19 21 3\n":                    {5, api.ErrThere},
		start + "cable 2 5 1 1 0 3 2 100 200\n":                                            {3, api.ErrNone},
		start + "slab 0 10 20 3\ncable 2 5 1 1 0 3 2 100 200\n":                            {4, api.ErrNone},
		start + "cable 2 5 0 1 0 0 2 100 200\n":                                            {3, api.ErrRange},
		start + plainLines + "cable 2 5 0 1 0 3 2 199 300\n":                               {5, api.ErrThere},
		start + plainLines + "cable 2 5 0 1 0 3 2 200 300\ncable 16 5 0 1 0 3 2 100 200\n": {6, api.ErrRange},
		start + "plane 0 1 1 1 1 1 0\n" + plainLines + "cable 2 5 0 1 0 3 2 199 300\n":     {6, api.ErrThere},
		written(filled(65, 64, 512)):                                                       {1, api.ErrLong},
		written(filled(64, 65, 512)):                                                       {1, api.ErrLong},
		written(filled(64, 64, 513)):                                                       {1, api.ErrLong},
	} {
		wantParseError(t, s, want.line, want.e)
	}
}

// TestParseFaultsAny holds Parse against the definitions' faults and the lines of what has them.
func TestParseFaultsAny(t *testing.T) {
	s := newSource()
	for range 1000 {
		d := s.valid()
		d.Planes = append(d.Planes[:len(d.Planes):len(d.Planes)], s.plane())
		d.Field = append(d.Field[:len(d.Field):len(d.Field)], s.slab())
		d.Cables = append(d.Cables[:len(d.Cables):len(d.Cables)], s.cable(len(d.Planes)))
		part, index, e := fault(d)
		if e == api.OK {
			wantParsed(t, written(d), d)
			continue
		}
		before := map[int]int{1: 1, 2: 1 + len(d.Planes), 3: 1 + len(d.Planes) + len(d.Field)}
		wantParseError(t, written(d), before[part]+index+1, e)
	}
}

// TestParseOfPrint is P3.11, for valid detectors and for texts of which some bytes were changed.
func TestParseOfPrint(t *testing.T) {
	s := newSource()
	bytes := []byte(" \n-0129acdelpst\r")
	accepted := 0
	for range 400 {
		d := s.valid()
		text := detector.Print(d)
		wantParsed(t, text, d)
		for range 30 {
			changed := []byte(text)
			for range 1 + s.Intn(2) {
				at := s.Intn(len(changed))
				switch s.Intn(3) {
				case 0:
					changed[at] = bytes[s.Intn(len(bytes))]
				case 1:
					changed = append(changed[:at], changed[at+1:]...)
				default:
					changed = append(changed[:at], append([]byte{bytes[s.Intn(len(bytes))]}, changed[at:]...)...)
				}
			}
			got, line, e := detector.Parse(string(changed))
			if e != api.OK {
				if line < 1 || line > 1+strings.Count(string(changed), "\n") || !isZero(got) {
					t.Errorf("%q: %v %d %v", changed, got, line, e)
				}
				continue
			}
			accepted++
			if line != 0 || detector.Print(got) != string(changed) {
				t.Errorf("%q is printed as %q", changed, detector.Print(got))
			}
		}
	}
	if accepted < 100 {
		t.Error("few texts", accepted)
	}
}

// TestParseIsExact reads a valid detector's fields, each in its place.
func TestParseIsExact(t *testing.T) {
	d, _, e := detector.Parse("detector some-name0\nplane 1 2 3 4 5 6 7\nplane 0 200 1024 1000 4095 4096 999\nslab 2 3 5 -7\ncable 11 13 1 17 19 23 29 31 37\n")
	want := api.Detector{
		Name:   "some-name0",
		Planes: []api.Plane{{Face: 1, Depth: 2, Cols: 3, Rows: 4, HalfX: 5, HalfY: 6, Thick: 7}, {Depth: 200, Cols: 1024, Rows: 1000, HalfX: 4095, HalfY: 4096, Thick: 999}},
		Field:  []api.Slab{{Face: 2, From: 3, To: 5, B: -7}},
		Cables: []api.Cable{{Link: 11, Slot: 13, Plane: 1, Col: 17, Row: 19, Wide: 23, High: 29, From: 31, To: 37}},
	}
	if e != api.OK || !reflect.DeepEqual(d, want) {
		t.Error(d, e)
	}
}
