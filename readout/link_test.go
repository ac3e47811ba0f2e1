package readout_test

import (
	"fmt"
	"strings"
	"testing"

	"hodoscope/api"
	"hodoscope/readout"
)

func wantSent(t *testing.T, l *readout.Link, want bool, flips ...int) {
	t.Helper()
	wantSame(t, l.Send(flips), want, "Send", flips)
}

func wantTaken(t *testing.T, l *readout.Link, want string, ok bool) {
	t.Helper()
	if got, is := l.Take(); got != want || is != ok {
		t.Errorf("Take: %q %v, want %q %v", got, is, want, ok)
	}
}

func wantWaiting(t *testing.T, l *readout.Link, queue, buffer, credits int) {
	t.Helper()
	q, b, c := l.Waiting()
	wantSame(t, []int{q, b, c}, []int{queue, buffer, credits}, "Waiting")
}

// TestNewLink is P5.5.
func TestNewLink(t *testing.T) {
	for _, n := range []int{1, 2, 256} {
		wantWaiting(t, newLink(t, n, 1), 0, 0, 1)
		wantWaiting(t, newLink(t, 1, n), 0, 0, n)
	}
	for _, n := range []int{0, -1, 257, least, greatest} {
		for _, x := range [][2]int{{n, 1}, {1, n}, {n, n}, {256, n}, {n, 256}} {
			if l, e := readout.NewLink(x[0], x[1]); l != nil || e != api.ErrArg {
				t.Error(x, l, e)
			}
		}
	}
}

// TestOffer is P5.5, with room for one string, and for as many as a queue may have.
func TestOffer(t *testing.T) {
	longest := strings.Repeat("ab", api.MaxFrame/2)
	for _, room := range []int{1, 2, 256} {
		l := newLink(t, room, 256)
		for i := range room {
			wantErrno(t, l.Offer(longest+"a"), api.ErrLong)
			wantErrno(t, l.Offer([]string{"", "a", longest}[i%3]), api.OK)
			wantWaiting(t, l, i+1, 0, 256)
		}
		wantErrno(t, l.Offer("b"), api.ErrFull)
		wantErrno(t, l.Offer(""), api.ErrFull)
		wantErrno(t, l.Offer(longest+"a"), api.ErrLong) // before ErrFull
		wantErrno(t, l.Offer(strings.Repeat("a", 1<<20)), api.ErrLong)
		wantWaiting(t, l, room, 0, 256)
		wantSent(t, l, true)
		wantErrno(t, l.Offer("c"), api.OK) // what is in the buffer needs no room
		wantErrno(t, l.Offer("d"), api.ErrFull)
		wantWaiting(t, l, room, 1, 255)
		for i := range room {
			wantTaken(t, l, []string{"", "a", longest}[i%3], true)
			wantSent(t, l, true)
		}
		wantTaken(t, l, "c", true)
		wantTaken(t, l, "", false)
	}
}

// TestSend is P5.5, with one credit, and with as many as there may be.
func TestSend(t *testing.T) {
	for _, credits := range []int{1, 2, 256} {
		l := newLink(t, 256, credits)
		wantSent(t, l, false)
		wantTaken(t, l, "", false)
		wantWaiting(t, l, 0, 0, credits)
		for i := range credits {
			wantErrno(t, l.Offer(fmt.Sprint(i)), api.OK)
			wantSent(t, l, true)
			wantWaiting(t, l, 0, i+1, credits-i-1)
		}
		wantErrno(t, l.Offer(fmt.Sprint(credits)), api.OK)
		wantSent(t, l, false)
		wantSent(t, l, false, 0, 1)
		wantWaiting(t, l, 1, credits, 0)
		wantTaken(t, l, "0", true)
		wantWaiting(t, l, 1, credits-1, 1)
		wantSent(t, l, true)
		wantWaiting(t, l, 0, credits, 0)
		for i := range credits {
			wantTaken(t, l, fmt.Sprint(i+1), true)
		}
		wantTaken(t, l, "", false)
		wantWaiting(t, l, 0, 0, credits)
	}
}

func wantFlipped(t *testing.T, s, want string, flips ...int) {
	t.Helper()
	l := newLink(t, 2, 2)
	wantErrno(t, l.Offer(s), api.OK)
	wantErrno(t, l.Offer("next"), api.OK)
	wantSent(t, l, true, flips...)
	wantSent(t, l, true)
	if got, _ := l.Take(); got != want {
		t.Errorf("%q with %v: %q, want %q", s, flips, got, want)
	}
	wantTaken(t, l, "next", true)
}

// TestFlips is P5.5.
func TestFlips(t *testing.T) {
	for bit, want := range []string{"\x80\x00", "\x40\x00", "\x20\x00", "\x10\x00", "\x08\x00", "\x04\x00", "\x02\x00", "\x01\x00", "\x00\x80", "\x00\x40", "\x00\x20", "\x00\x10", "\x00\x08", "\x00\x04", "\x00\x02", "\x00\x01"} {
		wantFlipped(t, "\x00\x00", want, bit)
		wantFlipped(t, want, "\x00\x00", bit)
		wantFlipped(t, want, "\x00\x00", bit, 16, -1)
	}
	wantFlipped(t, "ab", "ab")
	wantFlipped(t, "ab", "ab", 16, 17, -1, -8, least, greatest, 1<<32, -1<<32)
	wantFlipped(t, "ab", "ab", 7, 7)
	wantFlipped(t, "ab", "\x60b", 7, 7, 7)
	wantFlipped(t, "ab", "\x60c", 7, 15)
	wantFlipped(t, "ab", "\x60c", 15, 16, 7, -1)
	wantFlipped(t, "ab", "\x9e\x9d", 0, 1, 2, 3, 4, 5, 6, 7, 8, 9, 10, 11, 12, 13, 14, 15)
	wantFlipped(t, "", "", 0, 1, -1, least, greatest)
	longest := strings.Repeat("a", api.MaxFrame)
	wantFlipped(t, longest, "\xe1"+longest[2:]+"\x60", 0, 8*api.MaxFrame-1, 8*api.MaxFrame)
}

// TestLinkAny is P5.5 and P5.10: whatever is done, links are as the chapter says, and the strings come out as they came in, each once, but for what was inverted.
func TestLinkAny(t *testing.T) {
	s := newSource()
	for range 200 {
		room, credits := s.one(1, 2, 3, s.from(1, 256)), s.one(1, 2, 3, s.from(1, 256))
		got, want := newLink(t, room, credits), &plainLink{room: room, credits: credits}
		likely := s.from(1, 4)
		var in, out []string
		for i := range 600 {
			switch s.Intn(3 + likely) {
			case 0:
				var flips []int
				for range s.Intn(2) * s.Intn(4) {
					flips = append(flips, s.from(-2, 40))
				}
				wantSame(t, got.Send(flips), want.Send(flips), flips)
			case 1:
				x, ok := got.Take()
				y, is := want.Take()
				wantSame(t, []any{x, ok}, []any{y, is})
				if ok {
					out = append(out, x)
				}
			default:
				text := fmt.Sprint(i)
				e := want.Offer(text)
				wantErrno(t, got.Offer(text), e)
				if e == api.OK {
					in = append(in, text)
				}
			}
			queue, buffer, left := got.Waiting()
			x, y, z := want.Waiting()
			wantSame(t, []int{queue, buffer, left}, []int{x, y, z})
			wantSame(t, buffer+left, credits)
			wantSame(t, queue+buffer+len(out), len(in))
		}
		wantDrained(t, got, want)
	}
}

// wantDrained checks that both links have the same strings in the same order.
func wantDrained(t *testing.T, got *readout.Link, want *plainLink) {
	t.Helper()
	for {
		wantSame(t, got.Send(nil), want.Send(nil))
		x, ok := got.Take()
		y, is := want.Take()
		wantSame(t, []any{x, ok}, []any{y, is})
		if !is {
			return
		}
	}
}

// TestNothingLost is P5.10, without the oracle: of links that invert nothing, what comes out is what went in.
func TestNothingLost(t *testing.T) {
	s := newSource()
	l := newLink(t, 5, 3)
	var in, out []string
	for i := range 3000 {
		if text := fmt.Sprint(i); l.Offer(text) == api.OK {
			in = append(in, text)
		}
		for range s.Intn(3) {
			l.Send(nil)
		}
		for range s.Intn(3) {
			if text, ok := l.Take(); ok {
				out = append(out, text)
			}
		}
	}
	for {
		l.Send(nil)
		text, ok := l.Take()
		if !ok {
			break
		}
		out = append(out, text)
	}
	wantSame(t, out, in)
	if len(in) < 1000 || len(in) == 3000 {
		t.Error(len(in))
	}
}
