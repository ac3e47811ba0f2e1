package readout

import (
	"cmp"
	"slices"
	"strings"

	"hodoscope/api"
	"hodoscope/detector"
)

// Builder is an event builder.
type Builder struct {
	// self is the builder's own address, so that neither a zero builder nor a copy passes for one that NewBuilder returned.
	self     *Builder
	detector api.Detector
	window   int
	most     int
	now      int
	// open has the open events, the one that was opened first at its beginning.
	open   queue[*joining]
	output queue[api.Event]
	// closed has the numbers of all events that were closed.
	closed map[int]bool
	counts api.Counts
}

// joining is an open event; what came is in it by the chips whose frames they were.
type joining struct {
	number int
	time   int
	opened int
	chips  []api.Chip
	came   map[api.Chip][]api.Sample
}

// NewBuilder returns a builder.
func NewBuilder(d api.Detector, window, most int) (*Builder, api.Errno) {
	if _, _, e := detector.Check(d); e != api.OK || !isWithin(window, 0, api.MaxWindow) || !isWithin(most, 1, api.MaxOpen) {
		return nil, api.ErrArg
	}
	b := &Builder{detector: copyOf(d), window: window, most: most, closed: map[int]bool{}}
	b.self = b
	return b, api.OK
}

func copyOf(d api.Detector) api.Detector {
	return api.Detector{Name: strings.Clone(d.Name), Planes: slices.Clone(d.Planes), Field: slices.Clone(d.Field), Cables: slices.Clone(d.Cables)}
}

func (b *Builder) isMade() bool {
	return b != nil && b.self == b
}

// Take takes a frame.
func (b *Builder) Take(f api.Frame, now int) api.Errno {
	if !b.isMade() {
		return api.ErrNil
	}
	if !Check(f) {
		return api.ErrArg
	}
	if e := b.Tick(now); e != api.OK {
		return e
	}
	v := b.find(f.Event)
	samples, e := b.admit(f, v)
	if e != api.OK {
		b.count(e)
		return e
	}
	if v == nil {
		v = b.begin(f)
	}
	v.came[chipOf(f)] = samples
	if v.isWhole() {
		b.close(v)
	}
	return api.OK
}

// admit returns the samples of a frame, unless there is a reason not to take it; v is the open event with its number, or nil.
func (b *Builder) admit(f api.Frame, v *joining) ([]api.Sample, api.Errno) {
	samples, isKnown := samplesOf(b.detector, f)
	if !isKnown {
		return nil, api.ErrNone
	}
	if b.closed[f.Event] {
		return nil, api.ErrState
	}
	if v == nil {
		return samples, api.OK
	}
	if v.time != f.Time {
		return nil, api.ErrForm
	}
	if _, isThere := v.came[chipOf(f)]; isThere {
		return nil, api.ErrThere
	}
	return samples, api.OK
}

// count counts a frame that is not taken, by the reason for that.
func (b *Builder) count(e api.Errno) {
	switch e {
	case api.ErrNone:
		b.counts.Unknown++
	case api.ErrState:
		b.counts.Late++
	case api.ErrForm:
		b.counts.Stray++
	case api.ErrThere:
		b.counts.Twice++
	}
}

// find returns the open event with a number; nil, if there is none.
func (b *Builder) find(number int) *joining {
	for _, v := range b.open.all() {
		if v.number == number {
			return v
		}
	}
	return nil
}

// begin opens the event of a frame, for which it makes room.
func (b *Builder) begin(f api.Frame) *joining {
	if b.open.size() == b.most {
		b.closeAt(0)
	}
	v := &joining{number: f.Event, time: f.Time, opened: b.now, chips: detector.Chips(b.detector, f.Time), came: map[api.Chip][]api.Sample{}}
	b.open.add(v)
	return v
}

func (v *joining) isWhole() bool {
	return len(v.came) == len(v.chips)
}

func (b *Builder) close(v *joining) {
	for i, w := range b.open.all() {
		if w == v {
			b.closeAt(i)
			return
		}
	}
}

// closeAt closes the open event at a place of the queue.
func (b *Builder) closeAt(place int) {
	v := b.open.cut(place)
	b.closed[v.number] = true
	b.output.add(v.event())
}

// event returns what an open event is when it is closed.
func (v *joining) event() api.Event {
	made := api.Event{Number: v.number, Time: v.time}
	for _, c := range v.chips {
		samples, isThere := v.came[c]
		if !isThere {
			made.Missing = append(made.Missing, c)
		}
		made.Samples = append(made.Samples, samples...)
	}
	slices.SortFunc(made.Samples, func(s, t api.Sample) int { return cmp.Compare(keyOf(s), keyOf(t)) })
	return made
}

func keyOf(s api.Sample) int {
	key, _ := detector.Key(s.Cell)
	return key
}

// Tick closes the events that are due.
func (b *Builder) Tick(now int) api.Errno {
	if !b.isMade() {
		return api.ErrNil
	}
	if !isWithin(now, 0, api.MaxTime) {
		return api.ErrArg
	}
	if now < b.now {
		return api.ErrRange
	}
	b.now = now
	for b.open.size() > 0 && now-b.open.first().opened > b.window {
		b.closeAt(0)
	}
	return api.OK
}

// Flush closes all open events.
func (b *Builder) Flush() api.Errno {
	if !b.isMade() {
		return api.ErrNil
	}
	for b.open.size() > 0 {
		b.closeAt(0)
	}
	return api.OK
}

// Events returns what is in the output, and empties it.
func (b *Builder) Events() []api.Event {
	if !b.isMade() {
		return nil
	}
	var l []api.Event
	for _, v := range b.output.all() {
		l = append(l, v)
	}
	b.output = queue[api.Event]{}
	slices.SortFunc(l, func(v, w api.Event) int { return cmp.Compare(v.Number, w.Number) })
	return l
}

// Open returns the numbers of the open events.
func (b *Builder) Open() []int {
	if !b.isMade() {
		return nil
	}
	var l []int
	for _, v := range b.open.all() {
		l = append(l, v.number)
	}
	slices.Sort(l)
	return l
}

// Counts returns the counts.
func (b *Builder) Counts() api.Counts {
	if !b.isMade() {
		return api.Counts{}
	}
	return b.counts
}
