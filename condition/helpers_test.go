package condition_test

import (
	"fmt"
	"math/rand"
	"slices"
	"strconv"
	"strings"
	"testing"

	"hodoscope/api"
	"hodoscope/condition"
)

// The tests hold package condition against what the chapter says, word by word, by the package's exported functions only: see oracle_test.go.

const (
	least    = -1 << 63
	greatest = 1<<63 - 1

	maxTime  = 1099511627776
	maxValue = 1073741824
	maxKey   = 67108863
)

// all is the kinds of a tag, or of a snapshot.
type all = [api.Kinds]int

// keeper is what a book, and a plain one of oracle_test.go, can do.
type keeper interface {
	Begin(kind, from int) (version int, e api.Errno)
	Put(kind, version, time int, l []api.Entry) api.Errno
	Drop(kind, version, time int) api.Errno
	Close(kind, version int) api.Errno
	Tag(name string, versions [api.Kinds]int) api.Errno
	Versions(kind int) int
	Closed(kind, version int) bool
	Spans(kind, version int) []int
	List(kind, version, time int) ([]api.Entry, bool)
	Tags() []string
	Tagged(name string) ([api.Kinds]int, bool)
	Resolve(name string, time int) (api.Snapshot, api.Errno)
	Changes(name string) ([]int, api.Errno)
	Log() string
}

// entries reads keys and values in turn, with spaces between them.
func entries(s string) []api.Entry {
	var n []int
	for _, word := range strings.Fields(s) {
		i, err := strconv.Atoi(word)
		if err != nil {
			panic(s)
		}
		n = append(n, i)
	}
	var l []api.Entry
	for i := 0; i < len(n); i += 2 {
		l = append(l, api.Entry{Key: n[i], Value: n[i+1]})
	}
	return l
}

// rising returns a valid list of n entries.
func rising(n int) []api.Entry {
	var l []api.Entry
	for i := range n {
		l = append(l, api.Entry{Key: 7 * i, Value: 1000 - i})
	}
	return l
}

// state returns all that a book says of itself.
func state(k keeper) string {
	var b strings.Builder
	for kind := -1; kind <= api.Kinds; kind++ {
		fmt.Fprintln(&b, "kind", kind, k.Versions(kind))
		for version := -1; version <= k.Versions(kind)+1; version++ {
			times := k.Spans(kind, version)
			fmt.Fprintln(&b, "version", version, k.Closed(kind, version), times)
			for _, time := range around(times) {
				l, ok := k.List(kind, version, time)
				fmt.Fprintln(&b, "list", time, l, ok)
			}
		}
	}
	names := k.Tags()
	fmt.Fprintln(&b, "tags", len(names), names)
	for _, name := range append(names, "none", "") {
		versions, ok := k.Tagged(name)
		times, e := k.Changes(name)
		fmt.Fprintln(&b, "tag", name, versions, ok, times, e)
		for _, time := range around(times) {
			s, e := k.Resolve(name, time)
			fmt.Fprintln(&b, "snapshot", s, e)
		}
	}
	fmt.Fprintf(&b, "%q", k.Log())
	return b.String()
}

// around returns times, those beside them, and the ends of all times.
func around(times []int) []int {
	l := []int{-1, 0, 1, maxTime - 1, maxTime, maxTime + 1}
	for _, time := range times {
		l = append(l, time-1, time, time+1)
	}
	slices.Sort(l)
	return slices.Compact(l)
}

func wantErrno(t *testing.T, got, want api.Errno, of ...any) {
	t.Helper()
	if got != want {
		t.Errorf("%v: error %d, want %d", of, got, want)
	}
}

// wantRefused calls something that is to return an error, and to change nothing.
func wantRefused(t *testing.T, b *condition.Book, want api.Errno, call func() api.Errno, of ...any) {
	t.Helper()
	before := state(b)
	wantErrno(t, call(), want, of...)
	if after := state(b); after != before {
		t.Errorf("%v: changed\n%s\nto\n%s", of, before, after)
	}
}

// The calls that are to return an error.

func refusesBegin(t *testing.T, b *condition.Book, want api.Errno, kind, from int) {
	t.Helper()
	wantRefused(t, b, want, func() api.Errno {
		version, e := b.Begin(kind, from)
		if version != 0 {
			t.Errorf("Begin %d %d: version %d with an error", kind, from, version)
		}
		return e
	}, "Begin", kind, from)
}

func refusesPut(t *testing.T, b *condition.Book, want api.Errno, kind, version, time int, l []api.Entry) {
	t.Helper()
	wantRefused(t, b, want, func() api.Errno { return b.Put(kind, version, time, l) }, "Put", kind, version, time, l)
}

func refusesDrop(t *testing.T, b *condition.Book, want api.Errno, kind, version, time int) {
	t.Helper()
	wantRefused(t, b, want, func() api.Errno { return b.Drop(kind, version, time) }, "Drop", kind, version, time)
}

func refusesClose(t *testing.T, b *condition.Book, want api.Errno, kind, version int) {
	t.Helper()
	wantRefused(t, b, want, func() api.Errno { return b.Close(kind, version) }, "Close", kind, version)
}

func refusesTag(t *testing.T, b *condition.Book, want api.Errno, name string, versions all) {
	t.Helper()
	wantRefused(t, b, want, func() api.Errno { return b.Tag(name, versions) }, "Tag", name, versions)
}

// The calls that are to succeed.

func begin(t *testing.T, k keeper, kind, from, want int) {
	t.Helper()
	if version, e := k.Begin(kind, from); version != want || e != api.OK {
		t.Fatalf("Begin %d %d: %d %d, want %d", kind, from, version, e, want)
	}
}

func put(t *testing.T, k keeper, kind, version, time int, l string) {
	t.Helper()
	if e := k.Put(kind, version, time, entries(l)); e != api.OK {
		t.Fatalf("Put %d %d %d: %d", kind, version, time, e)
	}
}

func drop(t *testing.T, k keeper, kind, version, time int) {
	t.Helper()
	if e := k.Drop(kind, version, time); e != api.OK {
		t.Fatalf("Drop %d %d %d: %d", kind, version, time, e)
	}
}

func closes(t *testing.T, k keeper, kind, version int) {
	t.Helper()
	if e := k.Close(kind, version); e != api.OK {
		t.Fatalf("Close %d %d: %d", kind, version, e)
	}
}

func tags(t *testing.T, k keeper, name string, versions all) {
	t.Helper()
	if e := k.Tag(name, versions); e != api.OK {
		t.Fatalf("Tag %s %v: %d", name, versions, e)
	}
}

// What a book says, held against what it is to say.

func wantSpans(t *testing.T, b *condition.Book, kind, version int, want ...int) {
	t.Helper()
	if got := b.Spans(kind, version); !slices.Equal(got, want) {
		t.Errorf("Spans %d %d: %v, want %v", kind, version, got, want)
	}
}

func wantList(t *testing.T, b *condition.Book, kind, version, time int, want string, ok bool) {
	t.Helper()
	got, is := b.List(kind, version, time)
	if !slices.Equal(got, entries(want)) || is != ok {
		t.Errorf("List %d %d %d: %v %v, want %q %v", kind, version, time, got, is, want, ok)
	}
}

func wantChanges(t *testing.T, b *condition.Book, name string, want ...int) {
	t.Helper()
	if got, e := b.Changes(name); !slices.Equal(got, want) || e != api.OK {
		t.Errorf("Changes %s: %v %d, want %v", name, got, e, want)
	}
}

// wantSnapshot holds Resolve against the text of a snapshot, without its first line and its last one.
func wantSnapshot(t *testing.T, b *condition.Book, name string, time int, want string) {
	t.Helper()
	s, e := b.Resolve(name, time)
	got, _ := strings.CutPrefix(condition.Print(s), fmt.Sprintf("snapshot %s %d\n", name, time))
	got, _ = strings.CutSuffix(got, "end\n")
	if e != api.OK || s.Tag != name || s.Time != time || strings.Join(strings.Fields(got), " ") != want {
		t.Errorf("Resolve %s %d: %v %d, want %s", name, time, s, e, want)
	}
}

// equal reports whether two snapshots are equal, a nil list and an empty one the same.
func equal(a, b api.Snapshot) bool {
	return a.Tag == b.Tag && a.Time == b.Time && haveEqualLists(a, b)
}

func haveEqualLists(a, b api.Snapshot) bool {
	for kind := range a.Kinds {
		if !slices.Equal(a.Kinds[kind], b.Kinds[kind]) {
			return false
		}
	}
	return true
}

// small makes a book with open and closed versions of some kinds, spans, and two tags.
func small(t *testing.T, k keeper) {
	t.Helper()
	begin(t, k, 3, 0, 1)
	put(t, k, 3, 1, 10, "0 5")
	put(t, k, 3, 1, 20, "0 7 1 -2")
	closes(t, k, 3, 1)
	begin(t, k, 0, 0, 1)
	put(t, k, 0, 1, 0, "37 100 67108863 1073741824")
	put(t, k, 0, 1, 15, "")
	put(t, k, 0, 1, maxTime, "1 -1073741824")
	closes(t, k, 0, 1)
	tags(t, k, "t", all{1, 0, 0, 1})
	begin(t, k, 3, 1, 2)
	drop(t, k, 3, 2, 10)
	tags(t, k, "none-0", all{})
}

// bookOf returns the small book.
func bookOf(t *testing.T) *condition.Book {
	t.Helper()
	b := condition.New()
	small(t, b)
	return b
}

// source makes the same values in every run.
type source struct{ *rand.Rand }

func newSource() source {
	return source{rand.New(rand.NewSource(1))}
}

// from returns a number from a to b.
func (s source) from(a, b int) int {
	return a + s.Intn(b-a+1)
}

// one returns one of some numbers.
func (s source) one(l ...int) int {
	return l[s.Intn(len(l))]
}

// list returns a list of entries, which is valid but for one in thirty or so.
func (s source) list() []api.Entry {
	var l []api.Entry
	key := -1
	for range s.Intn(4) {
		key += s.from(1, 3)
		if s.Intn(50) == 0 {
			key -= 3
		}
		l = append(l, api.Entry{Key: key, Value: s.one(0, 1, -1, s.from(-99, 99), maxValue, -maxValue)})
	}
	if s.Intn(20) == 0 {
		l = append(l, api.Entry{Key: maxKey})
	}
	return l
}

// snapshot returns a valid snapshot.
func (s source) snapshot() api.Snapshot {
	r := api.Snapshot{Tag: []string{"t", "a-0", strings.Repeat("z", 32)}[s.Intn(3)], Time: s.one(0, 7, s.from(0, maxTime), maxTime)}
	for kind := range r.Kinds {
		l := s.list()
		if condition.Check(api.Snapshot{Tag: "a", Kinds: [api.Kinds][]api.Entry{l}}) {
			r.Kinds[kind] = l
		}
	}
	return r
}
