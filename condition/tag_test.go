package condition_test

import (
	"slices"
	"strconv"
	"strings"
	"testing"

	"hodoscope/api"
	"hodoscope/condition"
)

// names are strings that are names, and strings that are not.
func names() (good, poor []string) {
	good = []string{"a", "z", "a0", "a9", "a-", "az-09", "a--", "end", "snapshot", strings.Repeat("a", 32), "b" + strings.Repeat("-", 31)}
	poor = []string{"", "0", "-", "9a", "-a", "A", "aA", "a b", " a", "a ", "a\n", "\na", "a_", "a.", "a`", "a{", "`a", "{", "a/", "a:", "a\x00", "é", "aé", "a\xff", "a,", strings.Repeat("a", 33), strings.Repeat("a", 1000)}
	return good, poor
}

// TestTag is P4.3.
func TestTag(t *testing.T) {
	b := condition.New()
	good, poor := names()
	for i, name := range good {
		tags(t, b, name, all{})
		if got := b.Tags(); !slices.Equal(got, good[:i+1]) {
			t.Error(got)
		}
	}
	for _, name := range poor {
		refusesTag(t, b, api.ErrArg, name, all{})
	}
	for _, name := range good {
		refusesTag(t, b, api.ErrThere, name, all{})
	}
}

// twoVersions returns a book in which each kind has a closed version, 1, and an open one, 2.
func twoVersions(t *testing.T) *condition.Book {
	t.Helper()
	b := condition.New()
	for kind := range api.Kinds {
		begin(t, b, kind, 0, 1)
		put(t, b, kind, 1, 10*kind, strconv.Itoa(kind)+" 100")
		closes(t, b, kind, 1)
		begin(t, b, kind, 1, 2)
	}
	return b
}

func TestTagVersions(t *testing.T) {
	b := twoVersions(t)
	tags(t, b, "none", all{})
	tags(t, b, "every", all{1, 1, 1, 1, 1, 1, 1})
	for kind := range api.Kinds {
		versions := all{}
		versions[kind] = 1
		tags(t, b, "a"+strconv.Itoa(kind), versions)
		if got, ok := b.Tagged("a" + strconv.Itoa(kind)); got != versions || !ok {
			t.Error(kind, got, ok)
		}
		versions[kind] = 2
		refusesTag(t, b, api.ErrState, "b", versions)
		for _, version := range []int{-1, 3, least, greatest} {
			versions[kind] = version
			refusesTag(t, b, api.ErrNone, "b", versions)
		}
	}
}

func TestTagTwoErrors(t *testing.T) {
	b := twoVersions(t)
	tags(t, b, "t", all{})
	for _, versions := range []all{{9}, {2}, {}} {
		refusesTag(t, b, api.ErrArg, "T", versions)   // before ErrNone and ErrState
		refusesTag(t, b, api.ErrThere, "t", versions) // before ErrNone and ErrState
	}
	refusesTag(t, b, api.ErrState, "u", all{0, 2, 9})             // in the order of kinds
	refusesTag(t, b, api.ErrNone, "u", all{0, 9, 2})              // in the order of kinds
	refusesTag(t, b, api.ErrState, "u", all{1, 1, 1, 1, 1, 2, 9}) // in the order of kinds
	refusesTag(t, b, api.ErrNone, "u", all{1, 1, 1, 1, 1, 9, 2})  // in the order of kinds
}

func TestTagFull(t *testing.T) {
	b := twoVersions(t)
	for i := range 64 {
		tags(t, b, "t"+strconv.Itoa(i), all{1})
	}
	refusesTag(t, b, api.ErrFull, "u", all{})
	refusesTag(t, b, api.ErrFull, "u", all{1})
	refusesTag(t, b, api.ErrArg, "U", all{})    // before ErrFull
	refusesTag(t, b, api.ErrThere, "t5", all{}) // before ErrFull
	refusesTag(t, b, api.ErrNone, "u", all{9})  // before ErrFull
	refusesTag(t, b, api.ErrState, "u", all{2}) // before ErrFull
}

// TestReading is P4.4, of what exists; and of what does not.
func TestReading(t *testing.T) {
	b := bookOf(t)
	for kind, want := range map[int]int{-1: 0, 0: 1, 1: 0, 3: 2, 6: 0, 7: 0, least: 0, greatest: 0} {
		if got := b.Versions(kind); got != want {
			t.Error(kind, got, want)
		}
	}
	for _, x := range [][2]int{{-1, 1}, {7, 1}, {least, 1}, {greatest, 1}, {3, 0}, {3, -1}, {3, 3}, {3, greatest}, {3, least}, {1, 1}} {
		if b.Closed(x[0], x[1]) {
			t.Error(x)
		}
		wantSpans(t, b, x[0], x[1])
		wantList(t, b, x[0], x[1], 15, "", false)
	}
	if !b.Closed(3, 1) || b.Closed(3, 2) || !b.Closed(0, 1) {
		t.Error(b.Closed(3, 1), b.Closed(3, 2), b.Closed(0, 1))
	}
	wantSpans(t, b, 0, 1, 0, 15, maxTime)
	wantSpans(t, b, 3, 2, 20)
	if got := b.Tags(); !slices.Equal(got, []string{"t", "none-0"}) {
		t.Error(got)
	}
	for _, name := range []string{"", "u", "T", "none", "t "} {
		if versions, ok := b.Tagged(name); versions != (all{}) || ok {
			t.Error(name, versions, ok)
		}
	}
	if versions, ok := b.Tagged("t"); versions != (all{1, 0, 0, 1}) || !ok {
		t.Error(versions, ok)
	}
	if versions, ok := b.Tagged("none-0"); versions != (all{}) || !ok {
		t.Error(versions, ok)
	}
}

// TestList is P4.4: the list of the greatest span that is not above the time, whatever number that is.
func TestList(t *testing.T) {
	b := bookOf(t)
	for _, x := range []struct {
		time int
		l    string
		ok   bool
	}{
		{least, "", false}, {-1, "", false}, {0, "37 100 67108863 1073741824", true}, {14, "37 100 67108863 1073741824", true}, {15, "", true}, {16, "", true},
		{maxTime - 1, "", true}, {maxTime, "1 -1073741824", true}, {maxTime + 1, "1 -1073741824", true}, {greatest, "1 -1073741824", true},
	} {
		wantList(t, b, 0, 1, x.time, x.l, x.ok)
	}
	wantList(t, b, 3, 1, 9, "", false)
	wantList(t, b, 3, 1, 10, "0 5", true)
	wantList(t, b, 3, 1, 19, "0 5", true)
	wantList(t, b, 3, 1, 20, "0 7 1 -2", true)
	wantList(t, b, 3, 1, 21, "0 7 1 -2", true)
}

// TestResolve is P4.5.
func TestResolve(t *testing.T) {
	b := bookOf(t)
	wantSnapshot(t, b, "t", 0, "0 37 100 0 67108863 1073741824")
	wantSnapshot(t, b, "t", 10, "0 37 100 0 67108863 1073741824 3 0 5")
	wantSnapshot(t, b, "t", 15, "3 0 5")
	wantSnapshot(t, b, "t", maxTime, "0 1 -1073741824 3 0 7 3 1 -2")
	wantSnapshot(t, b, "none-0", 15, "")
	every := twoVersions(t)
	tags(t, every, "every", all{1, 1, 1, 1, 1, 1, 1})
	wantSnapshot(t, every, "every", 60, "0 0 100 1 1 100 2 2 100 3 3 100 4 4 100 5 5 100 6 6 100")
	wantSnapshot(t, every, "every", 49, "0 0 100 1 1 100 2 2 100 3 3 100 4 4 100")
	for _, x := range []struct {
		name string
		time int
		e    api.Errno
	}{
		{"u", 15, api.ErrNone}, {"", 15, api.ErrNone}, {"T", 15, api.ErrNone}, {"u", -1, api.ErrNone}, {"u", maxTime + 1, api.ErrNone},
		{"t", -1, api.ErrArg}, {"t", maxTime + 1, api.ErrArg}, {"t", least, api.ErrArg}, {"t", greatest, api.ErrArg}, {"none-0", -1, api.ErrArg},
	} {
		if s, e := b.Resolve(x.name, x.time); e != x.e || !equal(s, api.Snapshot{}) {
			t.Error(x, s, e)
		}
	}
}

// TestChanges is P4.5.
func TestChanges(t *testing.T) {
	b := bookOf(t)
	wantChanges(t, b, "t", 0, 10, 15, 20, maxTime)
	wantChanges(t, b, "none-0")
	for _, name := range []string{"u", "", "T"} {
		if l, e := b.Changes(name); e != api.ErrNone || len(l) > 0 {
			t.Error(name, l, e)
		}
	}
	every := twoVersions(t)
	begin(t, every, 0, 1, 3)
	put(t, every, 0, 3, 60, "")
	put(t, every, 0, 3, 30, "")
	closes(t, every, 0, 3)
	tags(t, every, "some", all{3, 1, 0, 1, 0, 0, 1})
	wantChanges(t, every, "some", 0, 10, 30, 60)
}
