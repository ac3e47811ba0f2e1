package condition_test

import (
	"slices"
	"strconv"
	"strings"
	"testing"

	"hodoscope/api"
	"hodoscope/condition"
)

// smallLines are the lines of the small book's log, without their sums.
func smallLines() []string {
	return []string{
		"begin 3 0",
		"put 3 1 10 1 0 5",
		"put 3 1 20 2 0 7 1 -2",
		"close 3 1",
		"begin 0 0",
		"put 0 1 0 2 37 100 67108863 1073741824",
		"put 0 1 15 0",
		"put 0 1 1099511627776 1 1 -1073741824",
		"close 0 1",
		"tag t 1 0 0 1 0 0 0",
		"begin 3 1",
		"drop 3 2 10",
		"tag none-0 0 0 0 0 0 0 0",
	}
}

// TestLog is P4.6, of a log: a line for each call that returned OK, and none for others.
func TestLog(t *testing.T) {
	if got := condition.New().Log(); got != "" {
		t.Errorf("%q", got)
	}
	if got, want := bookOf(t).Log(), seal(smallLines()...); got != want {
		t.Errorf("%s\n%s", got, want)
	}
	b := condition.New()
	for _, call := range []func(){
		func() { b.Begin(7, 0) },
		func() { begin(t, b, 6, 0, 1) },
		func() { b.Put(6, 2, 0, nil) },
		func() {
			b.Versions(6)
			b.Spans(6, 1)
			b.List(6, 1, 0)
			b.Closed(6, 1)
			b.Tags()
			b.Log()
		},
		func() { closes(t, b, 6, 1) },
		func() { b.Close(6, 1) },
		func() { tags(t, b, "a", all{6: 1}) },
		func() { b.Resolve("a", 5); b.Changes("a"); b.Tagged("a"); b.Drop(6, 1, 5); b.Tag("a", all{}) },
	} {
		call()
	}
	if got, want := b.Log(), seal("begin 6 0", "close 6 1", "tag a 0 0 0 0 0 0 1"); got != want {
		t.Errorf("%s\n%s", got, want)
	}
}

// states returns the small book's states, by how many of its lines have been read.
func states(t *testing.T) []string {
	t.Helper()
	lines := smallLines()
	var l []string
	for n := range len(lines) + 1 {
		b, used := condition.Load(seal(lines[:n]...))
		if used != len(seal(lines[:n]...)) {
			t.Fatal(n, used)
		}
		l = append(l, state(b))
	}
	if p := newPlain(); l[0] != state(p) {
		t.Error(l[0])
	} else if small(t, p); l[len(lines)] != state(p) {
		t.Errorf("%s\n%s", l[len(lines)], state(p))
	}
	return l
}

// wantLoad loads a log, of which the beginning up to used is good.
func wantLoad(t *testing.T, s string, used int, want string, of ...any) {
	t.Helper()
	b, got := condition.Load(s)
	if got != used || b.Log() != s[:used] {
		t.Errorf("%v: Load %q uses %d of %d, want %d", of, s, got, len(s), used)
		return
	}
	if is := state(b); is != want {
		t.Errorf("%v: Load %q\n%s\n%s", of, s, is, want)
	}
}

// TestLoadTorn is P4.12: a log that ends anywhere.
func TestLoadTorn(t *testing.T) {
	log, l := seal(smallLines()...), states(t)
	for end := range len(log) + 1 {
		used := strings.LastIndexByte(log[:end], '\n') + 1
		wantLoad(t, log[:end], used, l[strings.Count(log[:end], "\n")], end)
	}
}

// TestLoadChanged is P4.12: a log of which any byte is any other one.
func TestLoadChanged(t *testing.T) {
	log, l := seal(smallLines()...), states(t)
	for at := range len(log) {
		used := strings.LastIndexByte(log[:at], '\n') + 1
		for c := range 256 {
			if byte(c) == log[at] {
				continue
			}
			changed := log[:at] + string([]byte{byte(c)}) + log[at+1:]
			if b, got := condition.Load(changed); got != used || b.Log() != log[:used] {
				t.Fatalf("byte %d made %d: uses %d, want %d", at, c, got, used)
			}
		}
		wantLoad(t, log[:at]+"~"+log[at+1:], used, l[strings.Count(log[:at], "\n")], at)
	}
}

// TestLoadFollowed is P4.6: what follows a log, and is no line, is not read.
func TestLoadFollowed(t *testing.T) {
	log, l := seal(smallLines()...), states(t)
	want := l[len(l)-1]
	for _, rest := range []string{"\n", " ", "\x00", "end\n", "begin 1 0\n", "begin 1 0", log, " " + plainSum("") + "\n", "\xff\n", strings.Repeat("begin 1 0 ", 1000), strings.Repeat("\n", 1000)} {
		wantLoad(t, log+rest, len(log), want)
		wantLoad(t, rest[:0]+"x"+rest, 0, l[0])
	}
	for _, rest := range []string{"\n", " ", "0", "begin", "begin 3 0\n", "begin 3 0 \n", " begin 3 0"} {
		wantLoad(t, rest, 0, l[0])
		wantLoad(t, rest+log, 0, l[0])
	}
}

// refused are texts of lines that no call has, of a new book or of the small one.
func refused() []string {
	return []string{
		"", " ", "begin", "begin ", "begin 3", "begin 3 ", "begin 3 0 0", "begin 3 0 ", " begin 3 0", "begin  3 0", "begin 3  0",
		"begin 03 0", "begin 3 00", "begin +3 0", "begin 3 +0", "begin 3 -0", "begin 3 0x0", "begin 3 0.0", "begin 3 1e0", "begin 3 1_0", "begin 3 a", "begin 3 ٠",
		"begin 3 18446744073709551616", "begin 3 18446744073709551617", "begin 3 99999999999999999999999", "begin 4294967299 0",
		"begin\t3 0", "begin 3\t0", "begin 3 0\r", "\rbegin 3 0", "Begin 3 0", "BEGIN 3 0", "begins 3 0", "begi 3 0", "log 3 0", "3 0", "begin, 3 0",
		"begin 7 0", "begin -1 0", "begin 3 3", "begin 3 -1", "begin 1 1",
		"put", "put 3", "put 3 2", "put 3 2 30", "put 3 2 30 ", "put 3 2 30 -1", "put 3 2 30 -1 0 5", "put 3 2 30 00", "put 3 2 30 0 0", "put 3 2 30 0 0 5", "put 3 2 30 0 ",
		"put 3 2 30 1", "put 3 2 30 1 0", "put 3 2 30 1 0 5 1", "put 3 2 30 1 0 5 1 5", "put 3 2 30 2 0 5", "put 3 2 30 2 0 5 1", "put 3 2 30 2 1 5 1 5", "put 3 2 30 2 1 5 0 5",
		"put 3 2 30 1 00 5", "put 3 2 30 1 0 05", "put 3 2 30 1 0 +5", "put 3 2 30 1 0 -05", "put 3 2 30 1 0 -0", "put 3 2 30 1 0  5", "put 3 2 30 9223372036854775807", "put 3 2 30 9223372036854775807 0 5",
		"put 3 2 30 -9223372036854775808", "put 3 2 030 0", "put 3 02 30 0", "put 03 2 30 0", "put 3 2 +30 0",
		"put 3 2 30 1 -1 5", "put 3 2 30 1 67108864 5", "put 3 2 30 1 0 1073741825", "put 3 2 30 1 0 -1073741825", "put 3 2 -1 0", "put 3 2 1099511627777 0",
		"put 7 1 30 0", "put -1 1 30 0", "put 3 3 30 0", "put 3 0 30 0", "put 3 -1 30 0", "put 3 1 30 0", "put 1 1 30 0",
		"drop", "drop 3", "drop 3 2", "drop 3 2 20 0", "drop 3 2 020", "drop 3 2 +20", "drop 3 2  20", "drop 3 2 20 ", "drop 3 2 10", "drop 3 2 30", "drop 3 1 20", "drop 3 3 20", "drop 7 1 20", "drop -1 1 20", "drop 3 2 -1", "drop 3 2 1099511627777",
		"close", "close 3", "close 3 2 0", "close 3 02", "close 3 +2", "close 3 2 ", "close 3 1", "close 3 3", "close 3 0", "close 3 -1", "close 7 1", "close -1 1",
		"tag", "tag u", "tag u 0 0 0 0 0 0", "tag u 0 0 0 0 0 0 0 0", "tag u 0 0 0 0 0 0 0 ", "tag u 0 0 0 00 0 0 0", "tag u 0 0 0 +1 0 0 0", "tag u 0 0 0 -0 0 0 0", "tag  0 0 0 0 0 0 0", "tag 0 0 0 0 0 0 0", "tag U 0 0 0 0 0 0 0",
		"tag u 0 0 0 2 0 0 0", "tag u 0 0 0 3 0 0 0", "tag u 0 0 0 -1 0 0 0", "tag u 1 0 0 1 0 0 1", "tag -u 0 0 0 0 0 0 0", "tag 0u 0 0 0 0 0 0 0", "tag " + strings.Repeat("u", 33) + " 0 0 0 0 0 0 0",
	}
}

// TestLoadForged is P4.6: lines whose sums are right, but which no call has.
func TestLoadForged(t *testing.T) {
	lines, l := smallLines(), states(t)
	log, want := seal(lines...), l[len(l)-1]
	next, _ := strings.CutPrefix(seal(append(lines, "begin 1 0")...), log)
	for _, text := range refused() {
		wantLoad(t, seal(append(lines, text)...), len(log), want)
		wantLoad(t, seal(append(lines, text, "begin 1 0")...), len(log), want)
		wantLoad(t, seal(append(lines, text)...)+next, len(log), want) // a line that could follow the log, but for the one before it
		wantLoad(t, seal(text), 0, l[0])
	}
	for _, text := range []string{"tag t 0 0 0 0 0 0 0", "tag none-0 0 0 0 0 0 0 0"} {
		wantLoad(t, seal(append(lines, text)...), len(log), want)
	}
	tooLong := "put 3 2 30 257"
	for _, x := range rising(257) {
		tooLong += " " + strconv.Itoa(x.Key) + " " + strconv.Itoa(x.Value)
	}
	wantLoad(t, seal(append(lines, tooLong)...), len(log), want)
}

// TestLoadSums is P4.6: a line of which the sum is not right.
func TestLoadSums(t *testing.T) {
	lines, l := smallLines(), states(t)
	log, want := seal(lines...), l[len(l)-1]
	next, _ := strings.CutPrefix(seal(append(lines, "begin 1 0")...), log)
	sum := next[len("begin 1 0 ") : len(next)-1]
	if upper := strings.ToUpper(sum); upper == sum {
		t.Fatal("a sum without letters", sum)
	}
	for _, x := range []string{strings.ToUpper(sum), sum[:15], sum[1:], sum + "0", "0" + sum, "0x" + sum, sum + " ", " " + sum, "", strings.Repeat("0", 16), plainSum("begin 1 0"), plainSum(strings.Repeat("0", 16) + "begin 1 0"), sum + "\r", sum + " " + sum} {
		wantLoad(t, log+"begin 1 0 "+x+"\n", len(log), want)
	}
	wantLoad(t, log+"begin 1 0"+sum+"\n", len(log), want)
	wantLoad(t, log+"begin 1 0 "+sum, len(log), want)
	wantLoad(t, log+next[:len(next)-1]+"\r\n", len(log), want)
	if b, used := condition.Load(log + next); used != len(log+next) || b.Versions(1) != 1 {
		t.Error(used, state(b))
	}
}

// TestLoadLimits is P4.6: all that a book can have, and the lines of one more of each.
func TestLoadLimits(t *testing.T) {
	p := newPlain()
	for i := range 64 {
		begin(t, p, 5, i, i+1)
		put(t, p, 5, i+1, 3*i, "67108863 -1073741824")
		tags(t, p, "t"+strconv.Itoa(i), all{})
	}
	if e := p.Put(5, 64, 9, rising(256)); e != api.OK {
		t.Fatal(e)
	}
	log, want := p.Log(), state(p)
	wantLoad(t, log, len(log), want)
	for _, text := range []string{"begin 5 0", "begin 5 7", "put 5 64 1 0", "tag u 0 0 0 0 0 0 0"} {
		wantLoad(t, seal(append(slices.Clone(p.lines), text)...), len(log), want, text)
	}
}

// TestLoadGoesOn is P4.6: what Load returns goes on as the book would whose log it is.
func TestLoadGoesOn(t *testing.T) {
	lines := smallLines()
	more := []string{"begin 6 0", "put 6 1 5 1 3 4", "close 6 1", "drop 3 2 20", "close 3 2", "tag v 1 0 0 2 0 0 1"}
	want, used := condition.Load(seal(append(lines, more...)...))
	if used != len(want.Log()) || len(want.Tags()) != 3 {
		t.Fatal(used, state(want))
	}
	for n := range len(more) + 1 {
		b, _ := condition.Load(seal(append(lines, more[:n]...)...) + "begin 4 0\n")
		for _, call := range []func(){
			func() { begin(t, b, 6, 0, 1) },
			func() { put(t, b, 6, 1, 5, "3 4") },
			func() { closes(t, b, 6, 1) },
			func() { drop(t, b, 3, 2, 20) },
			func() { closes(t, b, 3, 2) },
			func() { tags(t, b, "v", all{1, 0, 0, 2, 0, 0, 1}) },
		}[n:] {
			call()
		}
		if state(b) != state(want) {
			t.Errorf("%d\n%s\n%s", n, state(b), state(want))
		}
	}
	one, _ := condition.Load("")
	two, _ := condition.Load("")
	begin(t, one, 0, 0, 1)
	begin(t, two, 0, 0, 1)
}
