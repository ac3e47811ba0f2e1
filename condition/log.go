package condition

import (
	"strings"

	"hodoscope/api"
)

// The words with which the lines of a log begin.
const (
	wordBegin = "begin"
	wordPut   = "put"
	wordDrop  = "drop"
	wordClose = "close"
	wordTag   = "tag"
)

// Log returns the book's log.
func (b *Book) Log() string {
	if !b.isMade() {
		return ""
	}
	return string(b.log)
}

// record adds the line of a call to the log.
func (b *Book) record(first string, numbers ...int) {
	text := join(first, numbers...)
	b.sum = b.sumOf(text)
	b.log = append(b.log, text+" "+Hex(b.sum)+"\n"...)
}

// sumOf returns the sum that the log's next line has if this is its text.
func (b *Book) sumOf(text string) uint64 {
	return Digest(Hex(b.sum) + text)
}

// Load returns the book whose log is the longest beginning of s, and how many bytes that has.
func Load(s string) (b *Book, used int) {
	b = New()
	reads(func() {
		for rest := s; rest != ""; {
			rest = b.replay(rest)
		}
	})
	return b, len(b.log)
}

// replay makes the call whose line s begins with, and returns what follows the line.
func (b *Book) replay(s string) (rest string) {
	line, rest := cutLine(s)
	end := strings.LastIndexByte(line, ' ')
	demand(end >= 0)
	text := line[:end]
	demand(line[end+1:] == Hex(b.sumOf(text)))
	w := wordsOf(text)
	demand(callOf(w.next())(b, w) == api.OK)
	return rest
}

// command is what the lines that begin with a word stand for: a call, whose arguments are the other words. It reads all of them before it changes the book.
type command struct {
	word string
	call func(b *Book, w *words) api.Errno
}

func callOf(word string) func(b *Book, w *words) api.Errno {
	for _, c := range []command{
		{wordBegin, callBegin},
		{wordPut, callPut},
		{wordDrop, callDrop},
		{wordClose, callClose},
		{wordTag, callTag},
	} {
		if c.word == word {
			return c.call
		}
	}
	panic(api.ErrForm)
}

func callBegin(b *Book, w *words) api.Errno {
	kind, from := w.number(), w.number()
	w.end()
	_, e := b.Begin(kind, from)
	return e
}

func callPut(b *Book, w *words) api.Errno {
	kind, version, time := w.number(), w.number(), w.number()
	n := w.number()
	// A negative number of entries would be read as an empty list, which is written in another way.
	demand(n >= 0)
	var l []api.Entry
	for range n {
		l = append(l, w.entry())
	}
	w.end()
	return b.Put(kind, version, time, l)
}

func callDrop(b *Book, w *words) api.Errno {
	kind, version, time := w.number(), w.number(), w.number()
	w.end()
	return b.Drop(kind, version, time)
}

func callClose(b *Book, w *words) api.Errno {
	kind, version := w.number(), w.number()
	w.end()
	return b.Close(kind, version)
}

func callTag(b *Book, w *words) api.Errno {
	name := w.next()
	var versions [api.Kinds]int
	for kind := range versions {
		versions[kind] = w.number()
	}
	w.end()
	return b.Tag(name, versions)
}
