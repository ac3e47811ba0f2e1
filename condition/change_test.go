package condition_test

import (
	"testing"

	"hodoscope/api"
	"hodoscope/condition"
)

// TestUnmade is R3, of books that no call made: ErrNil comes before all other errors, and what returns none returns zero values.
func TestUnmade(t *testing.T) {
	t.Run("nil", func(t *testing.T) { testUnmade(t, nil) })
	t.Run("zero", func(t *testing.T) { testUnmade(t, &condition.Book{}) })
	made := bookOf(t)
	double := *made
	t.Run("copy", func(t *testing.T) { testUnmade(t, &double) })
	if got, want := state(made), state(bookOf(t)); got != want {
		t.Errorf("a call of a copy changed the book\n%s\n%s", got, want)
	}
}

func testUnmade(t *testing.T, b *condition.Book) {
	for _, kind := range []int{3, -1, 7} {
		refusesBegin(t, b, api.ErrNil, kind, 0)
		refusesPut(t, b, api.ErrNil, kind, 2, 5, nil)
		refusesDrop(t, b, api.ErrNil, kind, 2, 20)
		refusesClose(t, b, api.ErrNil, kind, 2)
	}
	for _, tag := range []string{"t", "u", ""} {
		refusesTag(t, b, api.ErrNil, tag, all{})
		for _, time := range []int{15, -1} {
			if s, e := b.Resolve(tag, time); e != api.ErrNil || !equal(s, api.Snapshot{}) {
				t.Error(tag, s, e)
			}
		}
		if l, e := b.Changes(tag); e != api.ErrNil || len(l) > 0 {
			t.Error(tag, l, e)
		}
		if versions, ok := b.Tagged(tag); ok || versions != (all{}) {
			t.Error(tag, versions)
		}
	}
	if b.Versions(3) != 0 || b.Closed(3, 1) || len(b.Tags()) > 0 || b.Log() != "" {
		t.Error(b.Versions(3), b.Closed(3, 1), b.Tags(), b.Log())
	}
	wantSpans(t, b, 3, 1)
	wantList(t, b, 3, 1, 15, "", false)
}

func TestNew(t *testing.T) {
	b := condition.New()
	if got, want := state(b), state(newPlain()); got != want {
		t.Errorf("%s\n%s", got, want)
	}
	if condition.New() == b {
		t.Error("one book for two calls")
	}
}

// TestBegin is P4.1.
func TestBegin(t *testing.T) {
	b := condition.New()
	for _, kind := range []int{0, 6, 3} {
		begin(t, b, kind, 0, 1)
		begin(t, b, kind, 1, 2)
		begin(t, b, kind, 0, 3)
		for version := 1; version <= 3; version++ {
			if b.Closed(kind, version) || len(b.Spans(kind, version)) > 0 {
				t.Error(kind, version)
			}
		}
	}
	for _, kind := range []int{-1, 7, least, greatest} {
		refusesBegin(t, b, api.ErrArg, kind, 0)
		refusesBegin(t, b, api.ErrArg, kind, 99) // before ErrNone
	}
	for _, from := range []int{-1, 4, least, greatest} {
		refusesBegin(t, b, api.ErrNone, 3, from)
	}
	refusesBegin(t, b, api.ErrNone, 1, 1) // a version of other kinds only
}

// TestBeginFrom is P4.1: a version has the spans of the one from which it was begun, and both go their own ways from then on.
func TestBeginFrom(t *testing.T) {
	b := condition.New()
	begin(t, b, 6, 0, 1)
	put(t, b, 6, 1, 10, "1 1")
	put(t, b, 6, 1, 20, "2 2")
	begin(t, b, 6, 1, 2)
	closes(t, b, 6, 1)
	begin(t, b, 6, 1, 3)
	if b.Closed(6, 2) || b.Closed(6, 3) {
		t.Error("a version that was begun from a closed one is closed")
	}
	put(t, b, 6, 2, 10, "1 9")
	put(t, b, 6, 2, 15, "3 3")
	drop(t, b, 6, 2, 20)
	put(t, b, 6, 3, 0, "")
	put(t, b, 6, 3, 20, "4 4")
	begin(t, b, 6, 2, 4)
	wantSpans(t, b, 6, 1, 10, 20)
	wantSpans(t, b, 6, 2, 10, 15)
	wantSpans(t, b, 6, 3, 0, 10, 20)
	wantSpans(t, b, 6, 4, 10, 15)
	wantList(t, b, 6, 1, 10, "1 1", true)
	wantList(t, b, 6, 1, 20, "2 2", true)
	wantList(t, b, 6, 2, 10, "1 9", true)
	wantList(t, b, 6, 2, 20, "3 3", true)
	wantList(t, b, 6, 3, 10, "1 1", true)
	wantList(t, b, 6, 3, 20, "4 4", true)
	wantList(t, b, 6, 4, 10, "1 9", true)
}

func TestBeginFull(t *testing.T) {
	b := condition.New()
	for i := range 64 {
		begin(t, b, 2, i, i+1)
	}
	for _, from := range []int{0, 1, 64} {
		refusesBegin(t, b, api.ErrFull, 2, from)
	}
	refusesBegin(t, b, api.ErrNone, 2, 65) // before ErrFull
	begin(t, b, 1, 0, 1)
	put(t, b, 2, 64, 0, "")
}

// poorLists are lists that are not valid.
func poorLists() [][]api.Entry {
	return [][]api.Entry{
		entries("-1 0"),
		entries("67108864 0"),
		{{Key: least}},
		{{Key: greatest}},
		entries("0 1073741825"),
		entries("0 -1073741825"),
		{{Value: least}},
		{{Value: greatest}},
		entries("4 0 5 0 5 0"),
		entries("4 0 6 0 5 0"),
		entries("4 0 6 0 7 1073741825"),
		rising(257),
	}
}

// TestPut is P4.2.
func TestPut(t *testing.T) {
	b := condition.New()
	begin(t, b, 0, 0, 1)
	begin(t, b, 6, 0, 1)
	for _, kind := range []int{0, 6} {
		put(t, b, kind, 1, 0, "0 1 67108863 -1")
		put(t, b, kind, 1, maxTime, "0 1073741824 5 -1073741824")
		put(t, b, kind, 1, 7, "")
		wantErrno(t, b.Put(kind, 1, 8, rising(256)), api.OK)
		wantSpans(t, b, kind, 1, 0, 7, 8, maxTime)
		wantList(t, b, kind, 1, 0, "0 1 67108863 -1", true)
		wantList(t, b, kind, 1, 7, "", true)
		wantList(t, b, kind, 1, maxTime, "0 1073741824 5 -1073741824", true)
		put(t, b, kind, 1, 7, "1 2")
		put(t, b, kind, 1, 8, "")
		wantSpans(t, b, kind, 1, 0, 7, 8, maxTime)
		wantList(t, b, kind, 1, 7, "1 2", true)
		wantList(t, b, kind, 1, 8, "", true)
	}
}

func TestPutErrors(t *testing.T) {
	b := bookOf(t)
	for _, version := range []int{2, 1, 9} {
		// ErrArg comes before ErrNone and ErrState.
		for _, kind := range []int{-1, 7, least, greatest} {
			refusesPut(t, b, api.ErrArg, kind, version, 5, nil)
		}
		for _, time := range []int{-1, maxTime + 1, least, greatest} {
			refusesPut(t, b, api.ErrArg, 3, version, time, nil)
		}
		for _, l := range poorLists() {
			refusesPut(t, b, api.ErrArg, 3, version, 5, l)
		}
	}
	for _, version := range []int{-1, 0, 3, least, greatest} {
		refusesPut(t, b, api.ErrNone, 3, version, 5, nil)
	}
	refusesPut(t, b, api.ErrNone, 1, 1, 5, nil) // a version of other kinds only
	refusesPut(t, b, api.ErrState, 3, 1, 5, nil)
	refusesPut(t, b, api.ErrState, 3, 1, 10, nil) // a span that is there
}

func TestPutFull(t *testing.T) {
	b := condition.New()
	begin(t, b, 4, 0, 1)
	for i := range 64 {
		put(t, b, 4, 1, 100-i, "0 1")
	}
	for _, time := range []int{0, 36, 101, maxTime} {
		refusesPut(t, b, api.ErrFull, 4, 1, time, nil)
	}
	refusesPut(t, b, api.ErrArg, 4, 1, 36, rising(257)) // before ErrFull
	refusesPut(t, b, api.ErrNone, 4, 2, 36, nil)        // before ErrFull
	for _, time := range []int{37, 60, 100} {
		put(t, b, 4, 1, time, "0 2")
		wantList(t, b, 4, 1, time, "0 2", true)
	}
	begin(t, b, 4, 1, 2)
	refusesPut(t, b, api.ErrFull, 4, 2, 36, nil) // with the spans of another version
	drop(t, b, 4, 1, 60)
	put(t, b, 4, 1, 36, "")
	refusesPut(t, b, api.ErrFull, 4, 1, 60, nil)
	closes(t, b, 4, 1)
	refusesPut(t, b, api.ErrState, 4, 1, 60, nil) // before ErrFull
}

// TestDrop is P4.2.
func TestDrop(t *testing.T) {
	b := condition.New()
	begin(t, b, 5, 0, 1)
	for _, time := range []int{0, 5, 10, maxTime} {
		put(t, b, 5, 1, time, "1 1")
	}
	drop(t, b, 5, 1, 5)
	wantSpans(t, b, 5, 1, 0, 10, maxTime)
	drop(t, b, 5, 1, maxTime)
	drop(t, b, 5, 1, 0)
	wantSpans(t, b, 5, 1, 10)
	wantList(t, b, 5, 1, 9, "", false)
	refusesDrop(t, b, api.ErrNone, 5, 1, 5) // a span that was removed
	drop(t, b, 5, 1, 10)
	wantSpans(t, b, 5, 1)
	put(t, b, 5, 1, 5, "2 2")
	wantList(t, b, 5, 1, 5, "2 2", true)
}

func TestDropErrors(t *testing.T) {
	b := bookOf(t)
	for _, version := range []int{2, 1, 9} {
		// ErrArg comes before ErrNone and ErrState.
		for _, kind := range []int{-1, 7, least, greatest} {
			refusesDrop(t, b, api.ErrArg, kind, version, 20)
		}
		for _, time := range []int{-1, maxTime + 1, least, greatest} {
			refusesDrop(t, b, api.ErrArg, 3, version, time)
		}
	}
	for _, version := range []int{-1, 0, 3, least, greatest} {
		refusesDrop(t, b, api.ErrNone, 3, version, 20)
	}
	refusesDrop(t, b, api.ErrNone, 1, 1, 20) // a version of other kinds only
	refusesDrop(t, b, api.ErrState, 3, 1, 20)
	refusesDrop(t, b, api.ErrState, 3, 1, 15) // before ErrNone of the span
	for _, time := range []int{0, 10, 19, 21, maxTime} {
		refusesDrop(t, b, api.ErrNone, 3, 2, time)
	}
}

// TestClose is P4.2.
func TestClose(t *testing.T) {
	b := bookOf(t)
	for _, kind := range []int{-1, 7, least, greatest} {
		for _, version := range []int{1, 2, 9} {
			refusesClose(t, b, api.ErrArg, kind, version)
		}
	}
	for _, version := range []int{-1, 0, 3, least, greatest} {
		refusesClose(t, b, api.ErrNone, 3, version)
	}
	refusesClose(t, b, api.ErrNone, 1, 1) // a version of other kinds only
	refusesClose(t, b, api.ErrState, 3, 1)
	closes(t, b, 3, 2)
	refusesClose(t, b, api.ErrState, 3, 2)
	for _, kind := range []int{0, 6} {
		begin(t, b, kind, 0, b.Versions(kind)+1)
		closes(t, b, kind, b.Versions(kind))
	}
	if !b.Closed(3, 2) || !b.Closed(6, 1) || !b.Closed(0, 2) || b.Closed(1, 1) {
		t.Error(state(b))
	}
}
