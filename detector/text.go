package detector

import (
	"iter"
	"strconv"
	"strings"

	"hodoscope/api"
)

// The words with which the lines of a text begin.
const (
	wordWhole = "detector"
	wordPlane = "plane"
	wordSlab  = "slab"
	wordCable = "cable"
)

// limit is the least number that has more digits than a number of a text may have.
const limit = 10_000_000_000_000

// Parse reads the text of a detector.
func Parse(s string) (d api.Detector, line int, e api.Errno) {
	d, line = read(s)
	if line > 0 {
		return api.Detector{}, line, api.ErrForm
	}
	part, index, e := Check(d)
	if e != api.OK {
		return api.Detector{}, lineOf(d, part, index), e
	}
	return d, 0, api.OK
}

// lineOf returns the number of the line of what has this index in a part.
func lineOf(d api.Detector, part, index int) int {
	switch part {
	case partPlanes:
		return 2 + index
	case partSlabs:
		return 2 + len(d.Planes) + index
	case partCables:
		return 2 + len(d.Planes) + len(d.Field) + index
	}
	return 1
}

// read returns the detector that a text says, or the number of its first line that does not have the form.
func read(s string) (d api.Detector, fault int) {
	number, part, isForm := 0, partWhole, false
text:
	for line, isEnded := range lines(s) {
		number, isForm = number+1, false
		next := words(line)
		word, _ := next()
		last := part
		part = partOf(word)
		if !isEnded || part < last || (part == partWhole) != (number == 1) {
			break text
		}
		if part == partWhole {
			name, _ := next()
			if name == "" {
				break text
			}
			d.Name = strings.Clone(name)
		}
		for _, field := range grow(&d, part) {
			word, _ := next()
			n, ok := readNumber(word)
			if !ok {
				break text
			}
			*field = n
		}
		if _, more := next(); more {
			break text
		}
		isForm = true
	}
	if !isForm {
		return api.Detector{}, number
	}
	return d, 0
}

// lines yields the lines of a text without their line feeds, and whether each has one. What follows the last line feed is a line too, if it is not empty, or the whole text.
func lines(s string) iter.Seq2[string, bool] {
	return func(yield func(string, bool) bool) {
		for {
			line, rest, isEnded := strings.Cut(s, "\n")
			if !yield(line, isEnded) || rest == "" {
				return
			}
			s = rest
		}
	}
}

// words returns a function that takes the next word of a line, until there are no more.
func words(line string) func() (word string, ok bool) {
	more := true
	return func() (word string, ok bool) {
		if !more {
			return "", false
		}
		word, line, more = strings.Cut(line, " ")
		return word, true
	}
}

// partOf returns the part whose lines begin with the word; -1, if there is none.
func partOf(word string) int {
	switch word {
	case wordWhole:
		return partWhole
	case wordPlane:
		return partPlanes
	case wordSlab:
		return partSlabs
	case wordCable:
		return partCables
	}
	return -1
}

// grow gives a list of d one more element, and returns where the numbers of its line belong.
func grow(d *api.Detector, part int) []*int {
	switch part {
	case partPlanes:
		d.Planes = append(d.Planes, api.Plane{})
		return planeFields(&d.Planes[len(d.Planes)-1])
	case partSlabs:
		d.Field = append(d.Field, api.Slab{})
		return slabFields(&d.Field[len(d.Field)-1])
	case partCables:
		d.Cables = append(d.Cables, api.Cable{})
		return cableFields(&d.Cables[len(d.Cables)-1])
	}
	return nil
}

func planeFields(p *api.Plane) []*int {
	return []*int{&p.Face, &p.Depth, &p.Cols, &p.Rows, &p.HalfX, &p.HalfY, &p.Thick}
}

func slabFields(s *api.Slab) []*int {
	return []*int{&s.Face, &s.From, &s.To, &s.B}
}

func cableFields(c *api.Cable) []*int {
	return []*int{&c.Link, &c.Slot, &c.Plane, &c.Col, &c.Row, &c.Wide, &c.High, &c.From, &c.To}
}

// readNumber returns the number whose text the word is: the word that would be written for it.
func readNumber(word string) (int, bool) {
	n, err := strconv.Atoi(word)
	if err != nil || n <= -limit || n >= limit || strconv.Itoa(n) != word {
		return 0, false
	}
	return n, true
}

// Print writes a detector as text.
func Print(d api.Detector) string {
	if !isValid(d) {
		return ""
	}
	var b strings.Builder
	b.WriteString(wordWhole + " " + d.Name + "\n")
	for _, p := range d.Planes {
		writeLine(&b, wordPlane, planeFields(&p))
	}
	for _, s := range d.Field {
		writeLine(&b, wordSlab, slabFields(&s))
	}
	for _, c := range d.Cables {
		writeLine(&b, wordCable, cableFields(&c))
	}
	return b.String()
}

func writeLine(b *strings.Builder, word string, fields []*int) {
	b.WriteString(word)
	for _, n := range fields {
		b.WriteString(" " + strconv.Itoa(*n))
	}
	b.WriteString("\n")
}
