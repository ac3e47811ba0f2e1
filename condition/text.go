package condition

import (
	"strconv"
	"strings"

	"hodoscope/api"
)

// The number with which a digest begins, and the one by which each byte multiplies it.
const (
	digestFirst  = 14695981039346656037
	digestFactor = 1099511628211
)

// hexDigits is how many digits the hexadecimal form of a number has.
const hexDigits = 16

// Digest returns the digest of a string.
func Digest(s string) uint64 {
	n := uint64(digestFirst)
	for i := range len(s) {
		n = (n ^ uint64(s[i])) * digestFactor
	}
	return n
}

// Hex returns the hexadecimal form of a number.
func Hex(n uint64) string {
	digits := strconv.FormatUint(n, 16)
	return strings.Repeat("0", hexDigits-len(digits)) + digits
}

// join returns a text, and numbers behind it, with one space between each two.
func join(first string, numbers ...int) string {
	b := []byte(first)
	for _, n := range numbers {
		b = strconv.AppendInt(append(b, ' '), int64(n), 10)
	}
	return string(b)
}

// reads reports whether read came to its end: what finds that a text does not have its form panics.
func reads(read func()) (isRead bool) {
	defer func() { isRead = recover() == nil }()
	read()
	return isRead
}

// demand ends the reading unless the text has what it is asked for.
func demand(isThere bool) {
	if !isThere {
		panic(api.ErrForm)
	}
}

// cutLine returns the first line of a text without its line feed, and what follows.
func cutLine(s string) (line, rest string) {
	line, rest, isEnded := strings.Cut(s, "\n")
	demand(isEnded)
	return line, rest
}

// words are those of a line that are still to be read.
type words struct {
	line string
	more bool
}

func wordsOf(line string) *words {
	return &words{line: line, more: true}
}

func (w *words) next() string {
	demand(w.more)
	var word string
	word, w.line, w.more = strings.Cut(w.line, " ")
	return word
}

// number reads a number, in the form in which it is written.
func (w *words) number() int {
	word := w.next()
	n, err := strconv.Atoi(word)
	demand(err == nil && strconv.Itoa(n) == word)
	return n
}

func (w *words) entry() api.Entry {
	return api.Entry{Key: w.number(), Value: w.number()}
}

func (w *words) end() {
	demand(!w.more)
}
