package readout_test

import (
	"strings"
	"testing"

	"hodoscope/api"
	"hodoscope/readout"
)

func wantUnpacked(t *testing.T, s string, f api.Frame, used int) {
	t.Helper()
	got, n, e := readout.Unpack(s)
	if e != api.OK || n != used || !same(got, f) {
		t.Errorf("%x: %v %d %d, want %v %d", s, got, n, e, f, used)
	}
}

func refusesUnpack(t *testing.T, s string, of ...any) {
	t.Helper()
	if f, n, e := readout.Unpack(s); e != api.ErrForm || n != 0 || f.Link != 0 || f.Slot != 0 || f.Event != 0 || f.Time != 0 || len(f.L) > 0 {
		t.Errorf("%v %.100x: %v %d %d", of, s, f, n, e)
	}
}

// TestUnpack is P5.3 and P5.9: Unpack of Pack is the frame, whatever follows the bytes.
func TestUnpack(t *testing.T) {
	s := newSource()
	l := goodFrames()
	for range 200 {
		l = append(l, s.frame())
	}
	for _, f := range l {
		whole := packed(t, f)
		for _, rest := range []string{"", "\x00", "\xff\xff", whole, "\x5a\xc3", s.noise()} {
			wantUnpacked(t, whole+rest, f, len(whole))
		}
	}
}

// TestUnpackCut has bytes that are cut off anywhere, or that do not begin with a frame.
func TestUnpackCut(t *testing.T) {
	for _, f := range []api.Frame{{}, frame("2 5 7 150", ""), frame("2 5 7 150", "7 1"), frame("15 31 4294967295 1099511627776", "0 5 9 9 4095 4095")} {
		whole := packed(t, f)
		for n := range len(whole) {
			refusesUnpack(t, whole[:n])
			if n > 0 {
				refusesUnpack(t, whole[n:]+whole)
				refusesUnpack(t, whole[:n]+whole)
				refusesUnpack(t, whole[:n-1]+whole[n:]+whole)
				refusesUnpack(t, whole[:n]+"\x00"+whole[n:])
			}
		}
		refusesUnpack(t, "\x00"+whole)
	}
	long := packed(t, api.Frame{L: filled(4096)})
	for _, n := range []int{0, 17, 18, 19, 16384, 16402, 16403} {
		refusesUnpack(t, long[:n])
	}
	// A head alone, for each number of hits, with nothing behind it, too little, and just zeros.
	for _, n := range []int{0, 1, 2, 4096, 4097, 65535} {
		head := headOf(api.Frame{}, n)
		refusesUnpack(t, head, n)
		refusesUnpack(t, head+"\xff", n)
		refusesUnpack(t, head+strings.Repeat("\x00", 4*n+2), n)
	}
}

// TestUnpackPoor has right checks of frames that are not valid.
func TestUnpackPoor(t *testing.T) {
	for _, f := range poorFrames() {
		refusesUnpack(t, bytesOf(f), "poor")
		refusesUnpack(t, bytesOf(f)+bytesOf(api.Frame{}), "poor")
	}
	// Another mark, with a right check.
	whole := bytesOf(frame("2 5 7 150", "3 9"))
	for _, mark := range []string{"\x5a\xc2", "\x5b\xc3", "\xc3\x5a", "\x00\x00", "\x5a\x5a"} {
		refusesUnpack(t, checked(mark+whole[2:16])+whole[18:])
	}
	// More or fewer hits than the head says, with right checks.
	f := frame("2 5 7 150", "3 9 4 9")
	for _, n := range []int{0, 1, 3, 258} {
		refusesUnpack(t, headOf(f, n)+bytesOf(f)[18:])
	}
	for _, n := range []int{0, 2, 257} {
		refusesUnpack(t, headOf(f, n)+whole[18:])
	}
	// Wrong checks.
	for _, wrong := range []string{"\x00\x00", "\xff\xff", "\x00\x01"} {
		refusesUnpack(t, whole[:16]+wrong+whole[18:])
		refusesUnpack(t, whole[:22]+wrong)
	}
	refusesUnpack(t, bytesOf(api.Frame{})[:18]+"\x00\x00")
}

// flipped returns a string with bits inverted: those of the pattern, the first one of which is at a bit.
func flipped(s string, at, pattern int) string {
	b := []byte(s)
	for i := 0; pattern>>i > 0; i++ {
		if pattern>>i&1 == 1 {
			b[(at+i)/8] ^= 128 >> ((at + i) % 8)
		}
	}
	return string(b)
}

// TestBursts is P5.9, and P0.3: no frame passes of which bits were inverted, all of them among sixteen consecutive bits; each pattern at each bit of a small frame, and some of others.
func TestBursts(t *testing.T) {
	bursts := func(f api.Frame, rest string, step int) {
		whole := packed(t, f)
		for at := range 8 * len(whole) {
			for pattern := 1 + 2*(at%step); pattern < 1<<16 && pattern>>(8*len(whole)-at) == 0; pattern += 2 * step {
				refusesUnpack(t, flipped(whole, at, pattern)+rest, at, pattern)
			}
		}
	}
	bursts(frame("2 5 7 150", "1 9"), "", 1)
	s := newSource()
	for _, f := range goodFrames()[:13] {
		bursts(f, "", 101)
		bursts(f, strings.Repeat("\x00", 20), 997)
		bursts(f, packed(t, s.frame()), 997)
	}
	for range 30 {
		bursts(s.frame(), s.noise()+packed(t, s.frame()), 1009)
	}
}

// TestFlipsAny holds Unpack against the chapter's words for frames of which a few bytes are others, so that some may pass.
func TestFlipsAny(t *testing.T) {
	s := newSource()
	for range 20000 {
		b := []byte(packed(t, s.frame()))
		for range s.from(1, 3) {
			b[s.Intn(min(len(b), 24))] = byte(s.Intn(256))
		}
		if s.Intn(2) == 0 { // a right check of whatever the head is now
			b = append([]byte(checked(string(b[:16]))), b[18:]...)
		}
		f, used, e := readout.Unpack(string(b))
		want, n, g := plainUnpack(string(b))
		wantErrno(t, e, g, b)
		wantSame(t, used, n, b)
		wantSame(t, f, want, b)
	}
}
