package readout_test

import (
	"slices"
	"strings"
	"testing"

	"hodoscope/api"
	"hodoscope/readout"
)

// TestCrc is P5.2.
func TestCrc(t *testing.T) {
	s := newSource()
	for c := range 256 {
		text := string([]byte{byte(c)})
		wantSame(t, readout.Crc(text), plainCrc(text), text)
		wantSame(t, readout.Crc("ab"+text), plainCrc("ab"+text), text)
	}
	for i := range 500 {
		b := make([]byte, i)
		s.Read(b)
		wantSame(t, readout.Crc(string(b)), plainCrc(string(b)), i)
	}
	long := strings.Repeat("\xff\x00é\n", 1<<14)
	wantSame(t, readout.Crc(long), plainCrc(long))
}

// goodFrames are valid frames whose numbers are at either end of their ranges.
func goodFrames() []api.Frame {
	return []api.Frame{
		{}, frame("15 0 0 0", ""), frame("0 31 0 0", ""), frame("0 0 4294967295 0", ""), frame("0 0 0 1099511627776", ""),
		frame("15 31 4294967295 1099511627776", "0 1 4095 4095"), frame("0 0 0 0", "0 1"), frame("0 0 0 0", "0 4095"), frame("0 0 0 0", "4095 1"), frame("0 0 0 0", "4095 4095"),
		frame("2 5 7 150", "0 5 1 5 2 5"), frame("2 5 7 150", "7 1 300 4095 301 2"), frame("1 2 305419896 1025923398656", "291 1110"),
		{Link: 3, L: filled(4096)}, {Slot: 3, L: filled(4095)}, {L: []api.Raw{}},
	}
}

// poorFrames are frames with one fault each; but for some, their bytes can be written.
func poorFrames() []api.Frame {
	l := []api.Frame{
		frame("16 5 7 150", ""), frame("255 5 7 150", ""), frame("2 32 7 150", ""), frame("2 255 7 150", ""), frame("2 5 7 1099511627777", ""), frame("2 5 7 281474976710655", ""),
		frame("2 5 7 150", "4096 5"), frame("2 5 7 150", "65535 5"), frame("2 5 7 150", "3 0"), frame("2 5 7 150", "3 4096"), frame("2 5 7 150", "3 65535"),
		frame("2 5 7 150", "3 5 3 5"), frame("2 5 7 150", "3 5 2 5"), frame("2 5 7 150", "3 5 3 6"), frame("2 5 7 150", "0 1 5 1 4 1 6 1"), frame("2 5 7 150", "0 0"), frame("2 5 7 150", "0 1 4095 4096"), frame("2 5 7 150", "0 1 4096 1"), frame("2 5 7 150", "0 0 1 1"),
	}
	return append(l, api.Frame{L: append(filled(4096), api.Raw{Addr: 4096, Adc: 1})}, api.Frame{L: append(filled(4096), api.Raw{Addr: 4095, Adc: 1})})
}

// unwritable are frames that are not valid, with numbers that have no bytes.
func unwritable() []api.Frame {
	var l []api.Frame
	for _, n := range []int{-1, least, greatest, 1 << 48} {
		l = append(l, api.Frame{Link: n}, api.Frame{Slot: n}, api.Frame{Event: n}, api.Frame{Time: n}, api.Frame{L: []api.Raw{{Addr: n, Adc: 1}}}, api.Frame{L: []api.Raw{{Adc: n}}}, api.Frame{L: []api.Raw{{Adc: 1}, {Addr: n, Adc: 1}}})
	}
	return append(l, frame("2 5 4294967296 150", ""), api.Frame{L: filled(70000)}, api.Frame{L: make([]api.Raw, 1<<16)})
}

// TestCheck is P5.2.
func TestCheck(t *testing.T) {
	for _, f := range goodFrames() {
		if !readout.Check(f) || !isFrame(f) {
			t.Errorf("%v is valid", f)
		}
	}
	for _, f := range append(poorFrames(), unwritable()...) {
		if readout.Check(f) || isFrame(f) {
			t.Errorf("%.100v is not valid", f)
		}
	}
}

// TestPack is P5.2.
func TestPack(t *testing.T) {
	for _, f := range goodFrames() {
		s, e := readout.Pack(f)
		if want := bytesOf(f); s != want || e != api.OK || len(s) != 20+4*len(f.L) {
			t.Errorf("%v: %x %d, want %x", f, s, e, want)
		}
	}
	for _, f := range append(poorFrames(), unwritable()...) {
		if s, e := readout.Pack(f); s != "" || e != api.ErrArg {
			t.Errorf("%.100v: %d bytes, %d", f, len(s), e)
		}
	}
	if s := packed(t, api.Frame{L: filled(4096)}); len(s) != api.MaxFrame {
		t.Error(len(s))
	}
	// Each byte in its place.
	want := "\x5a\xc3\x01\x02\x12\x34\x56\x78\x00\xee\xdd\xcc\xbb\xaa\x00\x02"
	if s := packed(t, frame("1 2 305419896 1025923398570", "291 1110 4095 1")); !strings.HasPrefix(s, want) || s[18:26] != "\x01\x23\x04\x56\x0f\xff\x00\x01" || s != checked(want)+checked(s[18:26]) {
		t.Errorf("%x", s)
	}
}

func TestPackAny(t *testing.T) {
	s := newSource()
	for range 500 {
		f := s.frame()
		if got, want := packed(t, f), bytesOf(f); got != want {
			t.Errorf("%v: %x, want %x", f, got, want)
		}
		changed := f
		changed.L = slices.Clone(f.L)
		switch n := s.one(-1, 0, 1, 4095, 4096, 15, 16, 31, 32, maxEvent, maxEvent+1, maxTime, maxTime+1); s.Intn(5) {
		case 0:
			changed.Link = n
		case 1:
			changed.Slot = n
		case 2:
			changed.Event = n
		case 3:
			changed.Time = n
		case 4:
			changed.L = append(changed.L, api.Raw{Addr: n, Adc: s.one(0, 1, 4095, 4096)})
		}
		if got, want := readout.Check(changed), isFrame(changed); got != want {
			t.Error(changed, got)
		}
	}
}
