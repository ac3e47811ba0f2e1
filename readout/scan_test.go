package readout_test

import (
	"strings"
	"testing"

	"hodoscope/api"
	"hodoscope/readout"
)

func wantScanned(t *testing.T, s string, lost int, want ...api.Frame) {
	t.Helper()
	l, n := readout.Scan(s)
	if n != lost || !same(l, want) {
		t.Errorf("%.200x: %v, %d lost; want %v, %d", s, l, n, want, lost)
	}
}

// TestScan is P5.3.
func TestScan(t *testing.T) {
	f, g, h := frame("2 5 7 150", ""), frame("15 31 8 151", "0 5 4095 9"), api.Frame{Event: maxEvent, L: filled(4096)}
	a, b, c := bytesOf(f), bytesOf(g), bytesOf(h)
	wantScanned(t, "", 0)
	wantScanned(t, "a", 1)
	wantScanned(t, "\x5a\xc3", 2)
	wantScanned(t, a, 0, f)
	wantScanned(t, a+a, 0, f, f)
	wantScanned(t, a+b+c, 0, f, g, h)
	wantScanned(t, c+b+a, 0, h, g, f)
	wantScanned(t, "x"+a+"yz"+b+"\x5a\xc3\x5a"+c+"\x5a", 7, f, g, h)
	wantScanned(t, "\x5a"+a+"\x5a\xc3"+b, 3, f, g)
	// Heads without hits, and frames that are cut off, before frames.
	wantScanned(t, a[:18]+b, 18, g)
	wantScanned(t, b[:18]+b, 18, g)
	wantScanned(t, c[:18]+a+b+c, 18, f, g, h)
	wantScanned(t, c[:18]+c[:18]+c, 36, h)
	wantScanned(t, a[:19]+a[:19], 38)
	wantScanned(t, b[:27]+b+b[1:], 27+27, g)
	// A frame behind a head, in the place of the head's hits.
	wantScanned(t, headOf(g, 5)+checked(a), 18+2, f)
	// A frame with one byte changed is lost, the others are not.
	for at := range len(b) {
		wantScanned(t, a+b[:at]+string([]byte{b[at] ^ 1})+b[at+1:]+a, len(b), f, f)
		wantScanned(t, a+b[:at]+b[at+1:]+a, len(b)-1, f, f)
	}
	for _, f := range poorFrames()[:19] {
		wantScanned(t, bytesOf(f)+b, len(bytesOf(f)), g)
	}
}

// nested returns the bytes of a frame which are, from the byte 4 on, those of another one, too, and both frames. Of both, the numbers are sought by which the checks fit.
func nested(t *testing.T) (s string, outer, inner api.Frame) {
	t.Helper()
	outer = frame("2 5 1522729739 150", "1 1 2 1 3 7")
	sum := func() int { return plainCrc(bytesOf(outer)[22:26]) }
	for outer.L[1].Adc < 4095 && (sum() <= 2 || sum() > 4095) {
		outer.L[1].Adc++
	}
	outer.L[2].Addr = sum()
	headSum := func() int { return plainCrc(headOf(outer, 3)[4:18] + "\x00\x01") }
	for ; headSum() < 1 || headSum() > 4095; outer.Time += 1 << 16 {
	}
	outer.L[0].Adc = headSum()
	s = bytesOf(outer)
	inner, used, e := plainUnpack(s[4:])
	if !isFrame(outer) || e != api.OK || used != 24 {
		t.Fatalf("%x: %v %v", s, outer, inner)
	}
	return s, outer, inner
}

// TestNested has a frame within a frame: only the outer one is found; if it is damaged, the inner one.
func TestNested(t *testing.T) {
	s, outer, inner := nested(t)
	other := frame("2 5 7 150", "")
	wantScanned(t, s, 0, outer)
	wantScanned(t, s+bytesOf(other), 0, outer, other)
	wantScanned(t, "x"+s[1:], len(s)-24, inner)
	wantScanned(t, s[:len(s)-1], len(s)-1-24, inner)
	wantScanned(t, s[1:]+bytesOf(other), len(s)-1-24, inner, other)
	wantScanned(t, s[:4]+s, 4, outer)
	wantScanned(t, s+s[4:]+s, len(s)-4-24, outer, inner, outer)
}

// TestScanAny holds Scan against the chapter's words, and finds that nothing is lost but what is counted.
func TestScanAny(t *testing.T) {
	s := newSource()
	nest, _, _ := nested(t)
	found := 0
	for range 1500 {
		var b strings.Builder
		for range s.Intn(8) {
			whole := packed(t, s.frame())
			switch s.Intn(7) {
			case 0:
				b.WriteString(s.noise())
			case 1:
				b.WriteString(whole[:s.Intn(len(whole))])
			case 2:
				b.WriteString(whole[s.Intn(len(whole)):])
			case 3:
				b.WriteString(flipped(whole, s.Intn(8*len(whole)), 1))
			case 4:
				b.WriteString(nest[s.one(0, 1, 4):])
			default:
				b.WriteString(whole)
			}
		}
		text := b.String()
		l, lost := plainScan(text)
		wantScanned(t, text, lost, l...)
		used := 0
		for _, f := range l {
			used += len(packed(t, f))
		}
		wantSame(t, used+lost, len(text))
		found += len(l)
	}
	if found < 1000 {
		t.Error("few frames", found)
	}
}

// TestScanHeads finds that Scan comes to its end soon, also where there is a head at every place that can have one.
func TestScanHeads(t *testing.T) {
	for _, head := range []string{headOf(frame("2 5 7 150", ""), 4096), headOf(frame("2 5 7 150", ""), 1), "\x5a\xc3", "\x5a", "\x00"} {
		s := strings.Repeat(head, 1<<20/len(head))
		wantScanned(t, s, len(s))
	}
}
