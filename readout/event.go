package readout

import (
	"hodoscope/api"
	"hodoscope/detector"
)

// isEvent reports whether there may be an event with a number and a time.
func isEvent(number, time int) bool {
	return isWithin(number, 0, api.MaxEvent) && isWithin(time, 0, api.MaxTime)
}

// Valid reports whether an event is valid for a detector.
func Valid(d api.Detector, v api.Event) bool {
	_, isValid := hitsOf(d, v)
	return isValid
}

// Spread returns the frames of an event.
func Spread(d api.Detector, v api.Event) ([]api.Frame, api.Errno) {
	hits, isValid := hitsOf(d, v)
	if !isValid {
		return nil, api.ErrArg
	}
	var l []api.Frame
	for _, c := range detector.Chips(d, v.Time) {
		l = append(l, api.Frame{Link: c.Link, Slot: c.Slot, Event: v.Number, Time: v.Time, L: hits[c]})
	}
	return l, api.OK
}

// hitsOf returns the hits of each chip, and whether the event is valid for the detector. The addresses rise, as the keys of a block's cells rise with them.
func hitsOf(d api.Detector, v api.Event) (map[api.Chip][]api.Raw, bool) {
	if _, _, e := detector.Check(d); e != api.OK || !isEvent(v.Number, v.Time) {
		return nil, false
	}
	hits := map[api.Chip][]api.Raw{}
	before := -1
	for _, s := range v.Samples {
		key, isKey := detector.Key(s.Cell)
		if !isKey || key <= before || !isWithin(s.Adc, 1, api.MaxAdc) {
			return nil, false
		}
		before = key
		c, addr, e := detector.Where(d, v.Time, s.Cell)
		if e != api.OK {
			return nil, false
		}
		hits[c] = append(hits[c], api.Raw{Addr: addr, Adc: s.Adc})
	}
	return hits, true
}

// samplesOf returns the samples of a frame's hits, and whether its chip has these addresses at its time.
func samplesOf(d api.Detector, f api.Frame) ([]api.Sample, bool) {
	c := chipOf(f)
	part, isChip := partOf(d, f.Time, c)
	if !isChip {
		return nil, false
	}
	var l []api.Sample
	for _, h := range f.L {
		cell, e := detector.Resolve(part, f.Time, c, h.Addr)
		if e != api.OK {
			return nil, false
		}
		l = append(l, api.Sample{Cell: cell, Adc: h.Adc})
	}
	return l, true
}

func chipOf(f api.Frame) api.Chip {
	return api.Chip{Link: f.Link, Slot: f.Slot}
}

// partOf returns a detector without fields, and with no other cable than that of a chip at a time, and whether there is one. As layer 3 checks its detector for each cell, this part of it saves most of the time.
func partOf(d api.Detector, time int, c api.Chip) (api.Detector, bool) {
	for _, i := range detector.Live(d, time) {
		if d.Cables[i].Link == c.Link && d.Cables[i].Slot == c.Slot {
			return api.Detector{Name: d.Name, Planes: d.Planes, Cables: d.Cables[i : i+1]}, true
		}
	}
	return api.Detector{}, false
}
