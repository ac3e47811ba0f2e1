package readout

import (
	"strings"

	"hodoscope/api"
)

// Link is a link with flow control.
type Link struct {
	// self is the link's own address, so that neither a zero link nor a copy passes for one that NewLink returned.
	self    *Link
	room    int
	credits int
	queue   queue[string]
	buffer  queue[string]
}

// NewLink returns an empty link.
func NewLink(room, credits int) (*Link, api.Errno) {
	if !isWithin(room, 1, api.MaxQueue) || !isWithin(credits, 1, api.MaxQueue) {
		return nil, api.ErrArg
	}
	l := &Link{room: room, credits: credits}
	l.self = l
	return l, api.OK
}

func (l *Link) isMade() bool {
	return l != nil && l.self == l
}

// Offer puts a string in the queue.
func (l *Link) Offer(s string) api.Errno {
	if !l.isMade() {
		return api.ErrNil
	}
	if len(s) > api.MaxFrame {
		return api.ErrLong
	}
	if l.queue.size() == l.room {
		return api.ErrFull
	}
	l.queue.add(strings.Clone(s))
	return api.OK
}

// Send sends the first string of the queue.
func (l *Link) Send(flips []int) bool {
	if !l.isMade() || l.queue.size() == 0 || l.credits == 0 {
		return false
	}
	l.credits--
	l.buffer.add(inverted(l.queue.cut(0), flips))
	return true
}

// inverted returns a string with bits inverted.
func inverted(s string, flips []int) string {
	b := []byte(s)
	for _, n := range flips {
		if isWithin(n, 0, 8*len(b)-1) {
			b[n/8] ^= 0x80 >> (n % 8)
		}
	}
	return string(b)
}

// Take takes the first string of the buffer.
func (l *Link) Take() (string, bool) {
	if !l.isMade() || l.buffer.size() == 0 {
		return "", false
	}
	l.credits++
	return l.buffer.cut(0), true
}

// Waiting returns how many strings wait, and how many credits there are.
func (l *Link) Waiting() (queue, buffer, credits int) {
	if !l.isMade() {
		return 0, 0, 0
	}
	return l.queue.size(), l.buffer.size(), l.credits
}
