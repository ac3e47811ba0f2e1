package readout_test

import (
	"encoding/binary"
	"encoding/hex"
	"fmt"
	"slices"

	"hodoscope/api"
)

// What the chapter says, word by word.

func plainSuppress(adc []int, pedestal, threshold int, dead []int) ([]api.Raw, api.Errno) {
	if len(adc) > 4096 {
		return nil, api.ErrLong
	}
	for _, n := range append(slices.Clone(adc), pedestal, threshold) {
		if n < 0 || n > 4095 {
			return nil, api.ErrArg
		}
	}
	var l []api.Raw
	for i := range adc {
		if !slices.Contains(dead, i) && adc[i]-pedestal > threshold {
			l = append(l, api.Raw{Addr: i, Adc: adc[i] - pedestal})
		}
	}
	return l, api.OK
}

func plainCrc(s string) int {
	number := 65535
	for _, b := range []byte(s) {
		for bit := 7; bit >= 0; bit-- {
			differs := number/32768 != int(b)>>bit&1
			number = number * 2 % 65536
			if differs {
				number ^= 4129
			}
		}
	}
	return number
}

func isFrame(f api.Frame) bool {
	if f.Link < 0 || f.Link > 15 || f.Slot < 0 || f.Slot > 31 || f.Event < 0 || f.Event > 4294967295 || f.Time < 0 || f.Time > 1099511627776 || len(f.L) > 4096 {
		return false
	}
	for i, h := range f.L {
		if h.Addr < 0 || h.Addr > 4095 || h.Adc < 1 || h.Adc > 4095 || i > 0 && h.Addr <= f.L[i-1].Addr {
			return false
		}
	}
	return true
}

// checked returns a string with its check behind it.
func checked(s string) string {
	return string(binary.BigEndian.AppendUint16([]byte(s), uint16(plainCrc(s))))
}

// headOf returns a head, whatever its numbers are, with a right check.
func headOf(f api.Frame, count int) string {
	b, e := hex.DecodeString(fmt.Sprintf("5ac3%02x%02x%08x%012x%04x", f.Link, f.Slot, f.Event, f.Time, count))
	if e != nil || len(b) != 16 {
		panic(fmt.Sprint(f, count, e))
	}
	return checked(string(b))
}

// bytesOf returns the bytes of a frame, valid or not, with right checks.
func bytesOf(f api.Frame) string {
	var b []byte
	for _, h := range f.L {
		b = binary.BigEndian.AppendUint16(b, uint16(h.Addr))
		b = binary.BigEndian.AppendUint16(b, uint16(h.Adc))
	}
	return headOf(f, len(f.L)) + checked(string(b))
}

// plainUnpack takes the numbers of a frame from where they would be, and asks whether the bytes of that frame are the beginning of s.
func plainUnpack(s string) (api.Frame, int, api.Errno) {
	at := func(from, size int) int {
		n := 0
		for i := range size {
			n *= 256
			if from+i < len(s) {
				n += int(s[from+i])
			}
		}
		return n
	}
	f := api.Frame{Link: at(2, 1), Slot: at(3, 1), Event: at(4, 4), Time: at(8, 6)}
	count := at(14, 2)
	if len(s) < 20+4*count || count > 4096 {
		return api.Frame{}, 0, api.ErrForm
	}
	for i := range count {
		f.L = append(f.L, api.Raw{Addr: at(18+4*i, 2), Adc: at(20+4*i, 2)})
	}
	if !isFrame(f) || bytesOf(f) != s[:20+4*count] {
		return api.Frame{}, 0, api.ErrForm
	}
	return f, 20 + 4*count, api.OK
}

func plainScan(s string) (l []api.Frame, lost int) {
	for at := 0; at < len(s); {
		f, used, e := plainUnpack(s[at:])
		if e != api.OK {
			at, lost = at+1, lost+1
			continue
		}
		l = append(l, f)
		at += used
	}
	return l, lost
}

// cellsOf returns the cells of a cable's block by their addresses.
func cellsOf(c api.Cable) []api.Cell {
	var l []api.Cell
	for col := range c.Wide {
		for row := range c.High {
			l = append(l, api.Cell{Plane: c.Plane, Col: c.Col + col, Row: c.Row + row})
		}
	}
	return l
}

// cableAt returns the cells that a chip has at a time, and whether there is such a chip.
func cableAt(d api.Detector, time int, c api.Chip) ([]api.Cell, bool) {
	for _, x := range d.Cables {
		if x.Link == c.Link && x.Slot == c.Slot && x.From <= time && time < x.To {
			return cellsOf(x), true
		}
	}
	return nil, false
}

// chipsAt asks of each chip whether it is connected at a time.
func chipsAt(d api.Detector, time int) []api.Chip {
	var l []api.Chip
	for link := range 16 {
		for slot := range 32 {
			if _, ok := cableAt(d, time, api.Chip{Link: link, Slot: slot}); ok {
				l = append(l, api.Chip{Link: link, Slot: slot})
			}
		}
	}
	return l
}

func keyOf(c api.Cell) int {
	return c.Plane<<20 + c.Col<<10 + c.Row
}

// cellsAt returns the cells that are connected at a time, by their keys.
func cellsAt(d api.Detector, time int) []api.Cell {
	var l []api.Cell
	for _, c := range chipsAt(d, time) {
		cells, _ := cableAt(d, time, c)
		l = append(l, cells...)
	}
	slices.SortFunc(l, func(a, b api.Cell) int { return keyOf(a) - keyOf(b) })
	return l
}

// plainValid is Valid for a detector that is valid.
func plainValid(d api.Detector, v api.Event) bool {
	if v.Number < 0 || v.Number > 4294967295 || v.Time < 0 || v.Time > 1099511627776 {
		return false
	}
	cells := cellsAt(d, v.Time)
	last := -1
	for _, s := range v.Samples {
		i := slices.Index(cells, s.Cell)
		if i <= last || s.Adc < 1 || s.Adc > 4095 {
			return false
		}
		last = i
	}
	return true
}

// plainSpread is Spread for an event that is valid.
func plainSpread(d api.Detector, v api.Event) []api.Frame {
	var l []api.Frame
	for _, c := range chipsAt(d, v.Time) {
		f := api.Frame{Link: c.Link, Slot: c.Slot, Event: v.Number, Time: v.Time}
		cells, _ := cableAt(d, v.Time, c)
		for addr, cell := range cells {
			for _, s := range v.Samples {
				if s.Cell == cell {
					f.L = append(f.L, api.Raw{Addr: addr, Adc: s.Adc})
				}
			}
		}
		l = append(l, f)
	}
	return l
}

// plainLink has all strings that were put into a link, of which some were sent, and some taken.
type plainLink struct {
	room, credits int
	strings       []string
	sent, taken   int
}

func (l *plainLink) Offer(s string) api.Errno {
	if len(s) > 16404 {
		return api.ErrLong
	}
	if len(l.strings)-l.sent >= l.room {
		return api.ErrFull
	}
	l.strings = append(l.strings, s)
	return api.OK
}

func (l *plainLink) Send(flips []int) bool {
	if l.sent == len(l.strings) || l.sent-l.taken == l.credits {
		return false
	}
	b := []byte(l.strings[l.sent])
	for at := range b {
		for bit := range 8 {
			for _, n := range flips {
				if n == 8*at+bit {
					b[at] ^= byte(128 >> bit)
				}
			}
		}
	}
	l.strings[l.sent] = string(b)
	l.sent++
	return true
}

func (l *plainLink) Take() (string, bool) {
	if l.taken == l.sent {
		return "", false
	}
	l.taken++
	return l.strings[l.taken-1], true
}

func (l *plainLink) Waiting() (queue, buffer, credits int) {
	return len(l.strings) - l.sent, l.sent - l.taken, l.credits - (l.sent - l.taken)
}

// plainBuilder has the frames that it took, and what became of the events.
type plainBuilder struct {
	d            api.Detector
	window, most int
	time         int
	open         []*plainEvent
	closed       []int
	output       []api.Event
	counts       api.Counts
}

type plainEvent struct {
	number, time, opened int
	frames               []api.Frame
}

func (b *plainBuilder) Take(f api.Frame, now int) api.Errno {
	if !isFrame(f) || now < 0 || now > maxTime {
		return api.ErrArg
	}
	if e := b.Tick(now); e != api.OK {
		return e
	}
	chip := api.Chip{Link: f.Link, Slot: f.Slot}
	cells, ok := cableAt(b.d, f.Time, chip)
	if !ok || len(f.L) > 0 && f.L[len(f.L)-1].Addr >= len(cells) {
		b.counts.Unknown++
		return api.ErrNone
	}
	if slices.Contains(b.closed, f.Event) {
		b.counts.Late++
		return api.ErrState
	}
	var v *plainEvent
	for _, x := range b.open {
		if x.number == f.Event {
			v = x
		}
	}
	if v != nil && v.time != f.Time {
		b.counts.Stray++
		return api.ErrForm
	}
	if v != nil && slices.ContainsFunc(v.frames, func(g api.Frame) bool { return g.Link == f.Link && g.Slot == f.Slot }) {
		b.counts.Twice++
		return api.ErrThere
	}
	if v == nil {
		if len(b.open) >= b.most {
			b.close(b.open[0])
		}
		v = &plainEvent{number: f.Event, time: f.Time, opened: b.time}
		b.open = append(b.open, v)
	}
	v.frames = append(v.frames, f)
	if len(v.frames) == len(chipsAt(b.d, v.time)) {
		b.close(v)
	}
	return api.OK
}

// close asks for each cell whether a frame has a hit of it.
func (b *plainBuilder) close(v *plainEvent) {
	made := api.Event{Number: v.number, Time: v.time}
	missing := chipsAt(b.d, v.time)
	for _, f := range v.frames {
		chip := api.Chip{Link: f.Link, Slot: f.Slot}
		missing = slices.DeleteFunc(missing, func(c api.Chip) bool { return c == chip })
		cells, _ := cableAt(b.d, v.time, chip)
		for _, h := range f.L {
			made.Samples = append(made.Samples, api.Sample{Cell: cells[h.Addr], Adc: h.Adc})
		}
	}
	slices.SortFunc(made.Samples, func(x, y api.Sample) int { return keyOf(x.Cell) - keyOf(y.Cell) })
	made.Missing = missing
	b.open = slices.DeleteFunc(b.open, func(x *plainEvent) bool { return x == v })
	b.closed = append(b.closed, v.number)
	b.output = append(b.output, made)
}

func (b *plainBuilder) Tick(now int) api.Errno {
	if now < 0 || now > maxTime {
		return api.ErrArg
	}
	if now < b.time {
		return api.ErrRange
	}
	b.time = now
	for _, v := range slices.Clone(b.open) {
		if v.opened+b.window < now {
			b.close(v)
		}
	}
	return api.OK
}

func (b *plainBuilder) Flush() api.Errno {
	for _, v := range slices.Clone(b.open) {
		b.close(v)
	}
	return api.OK
}

func (b *plainBuilder) Events() []api.Event {
	l := b.output
	b.output = nil
	slices.SortFunc(l, func(v, w api.Event) int { return v.Number - w.Number })
	return l
}

func (b *plainBuilder) Open() []int {
	var l []int
	for _, v := range b.open {
		l = append(l, v.number)
	}
	slices.Sort(l)
	return l
}

func (b *plainBuilder) Counts() api.Counts {
	return b.counts
}
