package readout_test

import (
	"testing"

	"hodoscope/api"
	"hodoscope/readout"
)

// TestExamples has the examples of the chapter, and that of DOC.md.
func TestExamples(t *testing.T) {
	l, e := readout.Suppress(numbers("5 9 20 4"), 4, 4, numbers("2"))
	wantErrno(t, e, api.OK)
	wantSame(t, l, hits("1 5"))
	sums, e := readout.Pile(numbers("4000 5"), numbers("100 1 2"))
	wantErrno(t, e, api.OK)
	wantSame(t, sums, numbers("4095 6 2"))
	wantSame(t, readout.Crc(""), 65535)
	wantSame(t, readout.Crc("123456789"), 10673)
	s, e := readout.Pack(frame("2 5 7 150", ""))
	wantErrno(t, e, api.OK)
	head := "\x5a\xc3\x02\x05\x00\x00\x00\x07\x00\x00\x00\x00\x00\x96\x00\x00"
	if n := readout.Crc(head); s != head+string([]byte{byte(n / 256), byte(n)})+"\xff\xff" || len(s) != 20 {
		t.Errorf("%x", s)
	}
}

func TestExampleBuilder(t *testing.T) {
	b := newBuilder(t, plain(), 10, 2)
	wantErrno(t, b.Take(frame("2 5 7 150", ""), 0), api.OK)
	wantSame(t, b.Events(), []api.Event{event("7 150", "")})
	wantErrno(t, b.Take(frame("2 5 7 150", ""), 1), api.ErrState)
	wantErrno(t, b.Take(frame("2 6 7 150", ""), 1), api.ErrNone)
	wantSame(t, b.Counts(), api.Counts{Unknown: 1, Late: 1})
}

func TestExampleLink(t *testing.T) {
	l := newLink(t, 2, 1)
	wantErrno(t, l.Offer("a"), api.OK)
	wantErrno(t, l.Offer("b"), api.OK)
	wantErrno(t, l.Offer("c"), api.ErrFull)
	wantSent(t, l, true)
	wantSent(t, l, false)
	wantWaiting(t, l, 1, 1, 0)
	wantTaken(t, l, "a", true)
	wantSent(t, l, true)
	wantTaken(t, l, "b", true)
	wantErrno(t, l.Offer("a"), api.OK)
	wantSent(t, l, true, 7)
	wantTaken(t, l, "\x60", true)
}
