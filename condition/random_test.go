package condition_test

import (
	"strings"
	"testing"

	"hodoscope/api"
	"hodoscope/condition"
)

// do makes one of the calls that change a book, of a book and of a plain one, and finds that both return the same.
func do(t *testing.T, s source, b, p keeper) {
	t.Helper()
	kind := s.one(0, 0, 3, 3, 6, 6, s.from(-1, 7))
	version := s.from(0, p.Versions(kind)+1)
	time := s.one(s.from(0, 9), s.from(0, 9), s.from(0, 9), maxTime, s.from(-1, 0), maxTime+s.from(0, 1))
	switch s.Intn(12) {
	case 0, 1:
		got, e := b.Begin(kind, version)
		if want, f := p.Begin(kind, version); got != want || e != f {
			t.Errorf("Begin %d %d: %d %d, want %d %d", kind, version, got, e, want, f)
		}
	case 2:
		wantErrno(t, b.Close(kind, version), p.Close(kind, version), "Close", kind, version)
	case 3:
		name := []string{"a", "b", "c-1", "d", "E"}[s.Intn(5)]
		var versions all
		for kind := range versions {
			versions[kind] = s.from(0, p.Versions(kind))
			if !p.Closed(kind, versions[kind]) && s.Intn(9) > 0 {
				versions[kind] = 0
			}
		}
		wantErrno(t, b.Tag(name, versions), p.Tag(name, versions), "Tag", name, versions)
	case 4, 5, 6:
		wantErrno(t, b.Drop(kind, version, time), p.Drop(kind, version, time), "Drop", kind, version, time)
	default:
		l := s.list()
		wantErrno(t, b.Put(kind, version, time, l), p.Put(kind, version, time, l), "Put", kind, version, time, l)
	}
}

// TestRandom holds books against plain ones, and what Load returns for their logs.
func TestRandom(t *testing.T) {
	s := newSource()
	lines := 0
	for range 60 {
		b, p := condition.New(), newPlain()
		for i := range s.Intn(200) {
			do(t, s, b, p)
			if i%20 == 0 && state(b) != state(p) {
				t.Fatalf("%s\n%s", state(b), state(p))
			}
		}
		want := state(p)
		if got := state(b); got != want {
			t.Fatalf("%s\n%s", got, want)
		}
		log := b.Log()
		wantLoad(t, log, len(log), want)
		lines += len(p.lines)
		loaded, _ := condition.Load(log)
		for range 20 {
			do(t, s, loaded, p)
		}
		if got, want := state(loaded), state(p); got != want {
			t.Fatalf("%s\n%s", got, want)
		}
	}
	if lines < 1000 {
		t.Error("few lines", lines)
	}
}

// TestRandomTorn is P4.12, of logs of all kinds: where a log ends, the book is as it was after the calls whose lines are complete.
func TestRandomTorn(t *testing.T) {
	s := newSource()
	for range 20 {
		p := newPlain()
		l := []string{state(p)}
		for range 30 {
			before := len(p.lines)
			do(t, s, p, clone(t, p))
			if len(p.lines) > before {
				l = append(l, state(p))
			}
		}
		log := p.Log()
		for range 40 {
			end := s.Intn(len(log) + 1)
			used := strings.LastIndexByte(log[:end], '\n') + 1
			wantLoad(t, log[:end], used, l[strings.Count(log[:end], "\n")])
		}
	}
}

// clone returns a book that package condition made of a plain one's log.
func clone(t *testing.T, p *plain) *condition.Book {
	t.Helper()
	b, used := condition.Load(p.Log())
	if used != len(p.Log()) {
		t.Fatal("a log that is not read to its end", p.Log())
	}
	return b
}

// TestNeverChanges is P4.10 and P0.6: what Resolve returns for a tag and a time never changes, and is what the tag's versions have.
func TestNeverChanges(t *testing.T) {
	s := newSource()
	times := []int{0, 1, 4, 9, 10, maxTime - 1, maxTime}
	seen := 0
	for range 40 {
		b, p := condition.New(), newPlain()
		first := map[string]map[int]api.Snapshot{}
		for range 150 {
			do(t, s, b, p)
			for _, name := range b.Tags() {
				if first[name] == nil {
					first[name] = map[int]api.Snapshot{}
				}
				for _, time := range times {
					got, e := b.Resolve(name, time)
					if want, is := first[name][time]; !is {
						first[name][time] = got
					} else if !equal(got, want) {
						t.Fatal(name, time, got, want)
					}
					if e != api.OK || !condition.Check(got) {
						t.Fatal(name, time, got, e)
					}
					wantOneTag(t, b, got)
					seen++
				}
			}
		}
	}
	if seen < 1000 {
		t.Error("few snapshots", seen)
	}
}

// wantOneTag is P4.10: all lists of a snapshot are those that the versions of its tag have at its time.
func wantOneTag(t *testing.T, b *condition.Book, s api.Snapshot) {
	t.Helper()
	versions, _ := b.Tagged(s.Tag)
	want := api.Snapshot{Tag: s.Tag, Time: s.Time}
	for kind, version := range versions {
		want.Kinds[kind], _ = b.List(kind, version, s.Time)
	}
	if !equal(s, want) {
		t.Error(s, want)
	}
}

// TestChangesAreAll is P4.11: between two times that Changes does not part, a tag's snapshots are equal.
func TestChangesAreAll(t *testing.T) {
	s := newSource()
	same, different := 0, 0
	for range 100 {
		b, p := condition.New(), newPlain()
		for range 150 {
			do(t, s, b, p)
		}
		for _, name := range b.Tags() {
			changes, _ := b.Changes(name)
			for from := range 12 {
				for to := from; to <= 12; to++ {
					a, _ := b.Resolve(name, from)
					z, _ := b.Resolve(name, to)
					if haveEqualLists(a, z) {
						same++
					} else if different++; !haveBetween(changes, from, to) {
						t.Error(name, from, to, changes, a, z)
					}
				}
			}
		}
	}
	if same < 100 || different < 100 {
		t.Error("few pairs", same, different)
	}
}

// haveBetween reports whether one of the times is above from, and not above to.
func haveBetween(times []int, from, to int) bool {
	for _, time := range times {
		if from < time && time <= to {
			return true
		}
	}
	return false
}
