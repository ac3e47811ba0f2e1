package condition_test

import (
	"slices"
	"strings"
	"testing"
	"unsafe"

	"hodoscope/api"
	"hodoscope/condition"
)

// overwrite changes a list, with the room behind it.
func overwrite(l []api.Entry) {
	for i := range l[:cap(l)] {
		l[:cap(l)][i] = api.Entry{Key: -9, Value: -9}
	}
}

func overwriteAll(s api.Snapshot) {
	for _, l := range s.Kinds {
		overwrite(l)
	}
}

func overwriteTimes(l []int) {
	for i := range l[:cap(l)] {
		l[:cap(l)][i] = -9
	}
}

// TestArguments is R4: no call changes its arguments, or keeps them.
func TestArguments(t *testing.T) {
	b, want := condition.New(), condition.New()
	begin(t, b, 3, 0, 1)
	begin(t, want, 3, 0, 1)
	for i, s := range []string{"0 5 1 6", "", "7 -7"} {
		roomy := append(slices.Grow(entries(s), 9), api.Entry{Key: 99})
		l := roomy[:len(roomy)-1]
		wantErrno(t, b.Put(3, 1, i, l), api.OK)
		if !slices.Equal(roomy, append(entries(s), api.Entry{Key: 99})) {
			t.Error("Put changed its list, or the room behind it", roomy)
		}
		overwrite(l)
		put(t, want, 3, 1, i, s)
	}
	if state(b) != state(want) {
		t.Errorf("Put kept its list\n%s\n%s", state(b), state(want))
	}
	s := snapshotOf(3, append(slices.Grow(entries("0 5 1 6"), 9), api.Entry{Key: 5})[:2])
	condition.Check(s)
	condition.Print(s)
	condition.Value(s, 3, 1, 9)
	if !slices.Equal(s.Kinds[3][:3], entries("0 5 1 6 5 0")) {
		t.Error(s)
	}
}

// TestResults is R4: results are new memory.
func TestResults(t *testing.T) {
	b := bookOf(t)
	tags(t, b, "again", all{1, 0, 0, 1})
	begin(t, b, 0, 1, 2)
	want := state(b)
	for _, kind := range []int{0, 3} {
		for version := 1; version <= 2; version++ {
			overwriteTimes(b.Spans(kind, version))
			for _, time := range []int{0, 10, 15, 20, maxTime} {
				l, _ := b.List(kind, version, time)
				overwrite(l)
			}
		}
	}
	for _, name := range b.Tags() {
		changes, _ := b.Changes(name)
		overwriteTimes(changes)
		versions, _ := b.Tagged(name)
		versions[0] = 9
		for _, time := range []int{0, 10, 15, 20, maxTime} {
			s, _ := b.Resolve(name, time)
			other, _ := b.Resolve(name, time)
			text := condition.Print(other)
			overwriteAll(s)
			if condition.Print(other) != text {
				t.Error("two results have common memory", name, time)
			}
		}
	}
	l := b.Tags()
	clear(l[:cap(l)])
	if got := state(b); got != want {
		t.Errorf("%s\n%s", got, want)
	}
}

// TestResultsStay finds that no call changes what a book returned before.
func TestResultsStay(t *testing.T) {
	b := bookOf(t)
	spans := b.Spans(3, 2)
	l, _ := b.List(3, 2, 20)
	names, log := b.Tags(), b.Log()
	put(t, b, 3, 2, 10, "5 5")
	put(t, b, 3, 2, 20, "6 6")
	tags(t, b, "v", all{})
	if !slices.Equal(spans, []int{20}) || !slices.Equal(l, entries("0 7 1 -2")) || !slices.Equal(names, []string{"t", "none-0"}) || log != seal(smallLines()...) {
		t.Error(spans, l, names, log)
	}
}

// TestReadMemory finds that a snapshot's lists, and its name, are of its own.
func TestReadMemory(t *testing.T) {
	text := "snapshot name 15\n0 1 2\n3 4 5\nend\n"
	s, _ := condition.Read(text)
	if isPart(text, s.Tag) {
		t.Error("the name is a part of the text")
	}
	overwrite(s.Kinds[0])
	if !slices.Equal(s.Kinds[3], entries("4 5")) {
		t.Error(s)
	}
	if again, e := condition.Read(text); e != api.OK || condition.Print(again) != text {
		t.Error(again, e)
	}
}

// TestNames finds that a book keeps no part of a text that it was given.
func TestNames(t *testing.T) {
	name := strings.Clone("name")
	b := condition.New()
	tags(t, b, name, all{})
	s, _ := b.Resolve(name, 0)
	if isPart(name, b.Tags()[0]) || isPart(name, s.Tag) || isPart(b.Tags()[0], b.Tags()[0]) {
		t.Error("a name is memory of an argument, or of another result")
	}
	log := b.Log()
	loaded, _ := condition.Load(log)
	if isPart(log, loaded.Tags()[0]) || isPart(log, loaded.Log()) {
		t.Error("a book has memory of the log that it was loaded from")
	}
}

// isPart reports whether a string is memory of another one.
func isPart(whole, part string) bool {
	from, at := uintptr(unsafe.Pointer(unsafe.StringData(whole))), uintptr(unsafe.Pointer(unsafe.StringData(part)))
	return from <= at && at < from+uintptr(len(whole))
}

// TestEmptyLists is R3: nil lists and empty ones are the same.
func TestEmptyLists(t *testing.T) {
	b, want := condition.New(), condition.New()
	for i, x := range []*condition.Book{b, want} {
		begin(t, x, 3, 0, 1)
		l := [][]api.Entry{{}, nil}[i]
		wantErrno(t, x.Put(3, 1, 5, l), api.OK)
	}
	if state(b) != state(want) {
		t.Errorf("%s\n%s", state(b), state(want))
	}
	none, empty := snapshotOf(3, nil), snapshotOf(3, []api.Entry{})
	if !condition.Check(none) || !condition.Check(empty) || condition.Print(none) != condition.Print(empty) {
		t.Error(condition.Print(none), condition.Print(empty))
	}
}

// TestExtremes is P0.1: every function returns, whatever its numbers are.
func TestExtremes(t *testing.T) {
	l := []int{least, least + 1, -1 << 40, -1, 0, 1, 2, 3, 6, 7, 1 << 20, 1 << 40, 1<<40 + 1, greatest - 1, greatest}
	b, p := bookOf(t), newPlain()
	small(t, p)
	for _, kind := range l {
		for _, version := range l {
			for _, time := range l {
				entry := []api.Entry{{Key: time, Value: version}}
				wantErrno(t, b.Put(kind, version, time, entry), p.Put(kind, version, time, entry), kind, version, time)
				wantErrno(t, b.Drop(kind, version, time), p.Drop(kind, version, time), kind, version, time)
				got, ok := b.List(kind, version, time)
				if want, is := p.List(kind, version, time); !slices.Equal(got, want) || ok != is {
					t.Error(kind, version, time, got, want)
				}
				condition.Value(api.Snapshot{}, kind, version, time)
			}
			wantErrno(t, b.Close(kind, version), p.Close(kind, version), kind, version)
			versions := all{version, kind, version, kind, version, kind, version}
			wantErrno(t, b.Tag("u", versions), p.Tag("u", versions), versions)
		}
	}
	if state(b) != state(p) {
		t.Errorf("%s\n%s", state(b), state(p))
	}
}
