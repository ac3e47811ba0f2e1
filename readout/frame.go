package readout

import (
	"strings"

	"hodoscope/api"
)

// The bytes of a frame: its head, which begins with mark and ends with a sum (the check of the bytes before it), its hits, and their sum.
const (
	mark      = "\x5a\xc3"
	headBytes = 18
	hitBytes  = 4
	sumBytes  = 2
)

// The number with which a check begins, and the one that it is combined with.
const (
	sumFirst = 0xffff
	sumTaps  = 0x1021
)

// Crc returns the check of a string.
func Crc(s string) int {
	n := uint16(sumFirst)
	for i := range len(s) {
		// The chapter holds one bit of the byte after the other against the number's highest one; combined with the number at once, each comes to the highest place in its turn.
		n ^= uint16(s[i]) << 8
		for range 8 {
			isHigh := n >= 1<<15
			n <<= 1
			if isHigh {
				n ^= sumTaps
			}
		}
	}
	return int(n)
}

// Check reports whether a frame is valid.
func Check(f api.Frame) bool {
	if !isHead(f, len(f.L)) {
		return false
	}
	before := -1
	for _, h := range f.L {
		if !isHit(h, before) {
			return false
		}
		before = h.Addr
	}
	return true
}

// isHead reports whether a frame with so many hits is valid but for these.
func isHead(f api.Frame, hits int) bool {
	isChip := isWithin(f.Link, 0, api.MaxLinks-1) && isWithin(f.Slot, 0, api.MaxSlots-1)
	return isChip && isEvent(f.Event, f.Time) && hits <= api.MaxChip
}

// isHit reports whether a hit is valid behind one with the address before.
func isHit(h api.Raw, before int) bool {
	return h.Addr > before && h.Addr < api.MaxChip && isWithin(h.Adc, 1, api.MaxAdc)
}

// headNumbers returns where the numbers of a head are, in their order.
func headNumbers(f *api.Frame, hits *int) []*int {
	return []*int{&f.Link, &f.Slot, &f.Event, &f.Time, hits}
}

// Pack returns the bytes of a frame.
func Pack(f api.Frame) (string, api.Errno) {
	if !Check(f) {
		return "", api.ErrArg
	}
	return packHead(f) + packHits(f.L), api.OK
}

func packHead(f api.Frame) string {
	hits := len(f.L)
	numbers := headNumbers(&f, &hits)
	w := &writer{bytes: []byte(mark)}
	for i, write := range []func(int){w.one, w.one, w.four, w.six, w.two} {
		write(*numbers[i])
	}
	return w.sealed()
}

func packHits(l []api.Raw) string {
	w := &writer{}
	for _, h := range l {
		w.two(h.Addr)
		w.two(h.Adc)
	}
	return w.sealed()
}

// Unpack returns the frame whose bytes are the beginning of s.
func Unpack(s string) (f api.Frame, used int, e api.Errno) {
	f, hits, isThere := unpackHead(s)
	if !isThere {
		return api.Frame{}, 0, api.ErrForm
	}
	f.L, isThere = unpackHits(s[headBytes:], hits)
	if !isThere {
		return api.Frame{}, 0, api.ErrForm
	}
	return f, headBytes + hits*hitBytes + sumBytes, api.OK
}

// unpackHead returns a frame without its hits, how many it has, and whether its head is the beginning of s.
func unpackHead(s string) (f api.Frame, hits int, isThere bool) {
	if len(s) < headBytes || !strings.HasPrefix(s, mark) {
		return api.Frame{}, 0, false
	}
	numbers := headNumbers(&f, &hits)
	r := &reader{rest: s[len(mark):]}
	for i, read := range []func() int{r.one, r.one, r.four, r.six, r.two} {
		*numbers[i] = read()
	}
	return f, hits, isHead(f, hits) && r.two() == Crc(s[:headBytes-sumBytes])
}

// unpackHits returns so many hits, and whether these and their sum are the beginning of s. It stops at the first hit that is not valid, and comes to the sum only then: as no valid hits have a mark in their bytes, a string that is full of heads is scanned without reading the same bytes again for each of them.
func unpackHits(s string, hits int) ([]api.Raw, bool) {
	if len(s) < hits*hitBytes+sumBytes {
		return nil, false
	}
	var l []api.Raw
	r := &reader{rest: s}
	before := -1
	for range hits {
		h := api.Raw{Addr: r.two(), Adc: r.two()}
		if !isHit(h, before) {
			return nil, false
		}
		before = h.Addr
		l = append(l, h)
	}
	return l, r.two() == Crc(s[:hits*hitBytes])
}

// Scan returns the frames in a string.
func Scan(s string) (l []api.Frame, lost int) {
scan:
	for {
		for at := range len(s) {
			f, used, e := Unpack(s[at:])
			if e == api.OK {
				l = append(l, f)
				lost += at
				s = s[at+used:]
				continue scan
			}
		}
		return l, lost + len(s)
	}
}
