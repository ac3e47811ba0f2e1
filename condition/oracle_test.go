package condition_test

import (
	"fmt"
	"hash/fnv"
	"maps"
	"regexp"
	"slices"
	"strconv"
	"strings"

	"hodoscope/api"
)

// plain is a book as the chapter says it, with no thought of time or memory.
type plain struct {
	editions [api.Kinds][]edition
	names    []string
	tagged   map[string]all
	lines    []string
}

type edition struct {
	closed bool
	spans  map[int][]api.Entry
}

func newPlain() *plain {
	return &plain{tagged: map[string]all{}}
}

func plainKind(kind int) bool {
	return 0 <= kind && kind <= 6
}

func plainTime(time int) bool {
	return 0 <= time && time <= maxTime
}

var plainName = regexp.MustCompile(`^[a-z][a-z0-9-]{0,31}$`)

func plainList(l []api.Entry) bool {
	for i, x := range l {
		if x.Key < 0 || x.Key > maxKey || x.Value < -maxValue || x.Value > maxValue || i > 0 && l[i-1].Key >= x.Key {
			return false
		}
	}
	return len(l) <= 256
}

func plainSnapshot(s api.Snapshot) bool {
	is := plainName.MatchString(s.Tag) && plainTime(s.Time)
	for _, l := range s.Kinds {
		is = is && plainList(l)
	}
	return is
}

func plainSum(s string) string {
	h := fnv.New64a()
	h.Write([]byte(s))
	return fmt.Sprintf("%016x", h.Sum64())
}

// seal returns a log whose lines have these texts, each with its right sum.
func seal(texts ...string) string {
	log, sum := "", strings.Repeat("0", 16)
	for _, text := range texts {
		sum = plainSum(sum + text)
		log += text + " " + sum + "\n"
	}
	return log
}

func (p *plain) has(kind, version int) bool {
	return plainKind(kind) && 1 <= version && version <= len(p.editions[kind])
}

func (p *plain) Begin(kind, from int) (int, api.Errno) {
	if !plainKind(kind) {
		return 0, api.ErrArg
	}
	if from != 0 && !p.has(kind, from) {
		return 0, api.ErrNone
	}
	if len(p.editions[kind]) == 64 {
		return 0, api.ErrFull
	}
	spans := map[int][]api.Entry{}
	if from != 0 {
		spans = maps.Clone(p.editions[kind][from-1].spans)
	}
	p.editions[kind] = append(p.editions[kind], edition{spans: spans})
	p.lines = append(p.lines, fmt.Sprintf("begin %d %d", kind, from))
	return len(p.editions[kind]), api.OK
}

func (p *plain) Put(kind, version, time int, l []api.Entry) api.Errno {
	if !plainKind(kind) || !plainTime(time) || !plainList(l) {
		return api.ErrArg
	}
	if !p.has(kind, version) {
		return api.ErrNone
	}
	if p.Closed(kind, version) {
		return api.ErrState
	}
	spans := p.editions[kind][version-1].spans
	if _, is := spans[time]; !is && len(spans) == 64 {
		return api.ErrFull
	}
	spans[time] = slices.Clone(l)
	line := fmt.Sprintf("put %d %d %d %d", kind, version, time, len(l))
	for _, x := range l {
		line += fmt.Sprintf(" %d %d", x.Key, x.Value)
	}
	p.lines = append(p.lines, line)
	return api.OK
}

func (p *plain) Drop(kind, version, time int) api.Errno {
	if !plainKind(kind) || !plainTime(time) {
		return api.ErrArg
	}
	if !p.has(kind, version) {
		return api.ErrNone
	}
	if p.Closed(kind, version) {
		return api.ErrState
	}
	spans := p.editions[kind][version-1].spans
	if _, is := spans[time]; !is {
		return api.ErrNone
	}
	delete(spans, time)
	p.lines = append(p.lines, fmt.Sprintf("drop %d %d %d", kind, version, time))
	return api.OK
}

func (p *plain) Close(kind, version int) api.Errno {
	if !plainKind(kind) {
		return api.ErrArg
	}
	if !p.has(kind, version) {
		return api.ErrNone
	}
	if p.Closed(kind, version) {
		return api.ErrState
	}
	p.editions[kind][version-1].closed = true
	p.lines = append(p.lines, fmt.Sprintf("close %d %d", kind, version))
	return api.OK
}

func (p *plain) Tag(name string, versions all) api.Errno {
	if !plainName.MatchString(name) {
		return api.ErrArg
	}
	if slices.Contains(p.names, name) {
		return api.ErrThere
	}
	line := "tag " + name
	for kind, version := range versions {
		if version != 0 && !p.has(kind, version) {
			return api.ErrNone
		}
		if version != 0 && !p.Closed(kind, version) {
			return api.ErrState
		}
		line += " " + strconv.Itoa(version)
	}
	if len(p.names) == 64 {
		return api.ErrFull
	}
	p.names = append(p.names, name)
	p.tagged[name] = versions
	p.lines = append(p.lines, line)
	return api.OK
}

func (p *plain) Versions(kind int) int {
	if !plainKind(kind) {
		return 0
	}
	return len(p.editions[kind])
}

func (p *plain) Closed(kind, version int) bool {
	return p.has(kind, version) && p.editions[kind][version-1].closed
}

func (p *plain) Spans(kind, version int) []int {
	if !p.has(kind, version) {
		return nil
	}
	return slices.Sorted(maps.Keys(p.editions[kind][version-1].spans))
}

func (p *plain) List(kind, version, time int) ([]api.Entry, bool) {
	for _, from := range slices.Backward(p.Spans(kind, version)) {
		if from <= time {
			return p.editions[kind][version-1].spans[from], true
		}
	}
	return nil, false
}

func (p *plain) Tags() []string {
	return slices.Clone(p.names)
}

func (p *plain) Tagged(name string) (all, bool) {
	versions, is := p.tagged[name]
	return versions, is
}

func (p *plain) Resolve(name string, time int) (s api.Snapshot, e api.Errno) {
	versions, is := p.tagged[name]
	if !is {
		return s, api.ErrNone
	}
	if !plainTime(time) {
		return s, api.ErrArg
	}
	s.Tag, s.Time = name, time
	for kind := range versions {
		s.Kinds[kind], _ = p.List(kind, versions[kind], time)
	}
	return s, api.OK
}

func (p *plain) Changes(name string) ([]int, api.Errno) {
	versions, is := p.tagged[name]
	if !is {
		return nil, api.ErrNone
	}
	times := map[int]bool{}
	for kind := range versions {
		for _, time := range p.Spans(kind, versions[kind]) {
			times[time] = true
		}
	}
	return slices.Sorted(maps.Keys(times)), api.OK
}

func (p *plain) Log() string {
	return seal(p.lines...)
}

// plainText returns the text of a valid snapshot.
func plainText(s api.Snapshot) string {
	text := fmt.Sprintf("snapshot %s %d\n", s.Tag, s.Time)
	for kind, l := range s.Kinds {
		for _, x := range l {
			text += fmt.Sprintf("%d %d %d\n", kind, x.Key, x.Value)
		}
	}
	return text + "end\n"
}

var (
	plainWhole = regexp.MustCompile(`^snapshot ([^ \n]*) (0|[1-9][0-9]{0,12})\n((?:[0-6] (?:0|[1-9][0-9]{0,7}) (?:0|-?[1-9][0-9]{0,9})\n)*)end\n$`)
	plainEntry = regexp.MustCompile(`(.*) (.*) (.*)\n`)
)

// plainRead returns the snapshot whose text s is, and whether there is one.
func plainRead(s string) (r api.Snapshot, is bool) {
	parts := plainWhole.FindStringSubmatch(s)
	if parts == nil {
		return r, false
	}
	r.Tag = parts[1]
	r.Time, _ = strconv.Atoi(parts[2])
	last := 0
	for _, part := range plainEntry.FindAllStringSubmatch(parts[3], -1) {
		kind, _ := strconv.Atoi(part[1])
		key, _ := strconv.Atoi(part[2])
		value, _ := strconv.Atoi(part[3])
		if kind < last {
			return api.Snapshot{}, false
		}
		last = kind
		r.Kinds[kind] = append(r.Kinds[kind], api.Entry{Key: key, Value: value})
	}
	if !plainSnapshot(r) {
		return api.Snapshot{}, false
	}
	return r, true
}
