package condition

import (
	"strconv"
	"strings"

	"hodoscope/api"
)

// The words with which the first and the last line of a snapshot's text begin.
const (
	wordSnapshot = "snapshot"
	wordEnd      = "end"
)

// Check reports whether a snapshot is valid.
func Check(s api.Snapshot) bool {
	if !isName(s.Tag) || !isTime(s.Time) {
		return false
	}
	for _, l := range s.Kinds {
		if !isList(l) {
			return false
		}
	}
	return true
}

// Value returns the value of the first entry that has a key in the list of a kind, or otherwise.
func Value(s api.Snapshot, kind, key, otherwise int) int {
	if !isKind(kind) {
		return otherwise
	}
	for _, x := range s.Kinds[kind] {
		if x.Key == key {
			return x.Value
		}
	}
	return otherwise
}

// Print writes a valid snapshot as text.
func Print(s api.Snapshot) string {
	if !Check(s) {
		return ""
	}
	var b strings.Builder
	b.WriteString(join(wordSnapshot+" "+s.Tag, s.Time) + "\n")
	for kind, l := range s.Kinds {
		for _, x := range l {
			b.WriteString(join(strconv.Itoa(kind), x.Key, x.Value) + "\n")
		}
	}
	b.WriteString(wordEnd + "\n")
	return b.String()
}

// Read reads the text of a snapshot.
func Read(s string) (api.Snapshot, api.Errno) {
	var r api.Snapshot
	isRead := reads(func() { r = readSnapshot(s) })
	// A valid snapshot has one text, so this finds every fault that readSnapshot passed over.
	if !isRead || Print(r) != s {
		return api.Snapshot{}, api.ErrForm
	}
	return r, api.OK
}

// readSnapshot returns the snapshot that a text says. It passes over faults that make no difference to that: words behind the others of a line, and lines in another order.
func readSnapshot(s string) (r api.Snapshot) {
	line, rest := cutLine(s)
	w := wordsOf(line)
	demand(w.next() == wordSnapshot)
	r.Tag = strings.Clone(w.next())
	r.Time = w.number()
	for rest != wordEnd+"\n" {
		line, rest = cutLine(rest)
		w = wordsOf(line)
		kind, x := w.number(), w.entry()
		// Lists that are too long are not read to their ends, however long the text is.
		demand(isKind(kind) && len(r.Kinds[kind]) < api.MaxEntries)
		r.Kinds[kind] = append(r.Kinds[kind], x)
	}
	return r
}
