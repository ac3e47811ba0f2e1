package condition_test

import (
	"slices"
	"strconv"
	"strings"
	"testing"

	"hodoscope/api"
	"hodoscope/condition"
)

// snapshotOf returns a snapshot with a list of a kind.
func snapshotOf(kind int, l []api.Entry) api.Snapshot {
	s := api.Snapshot{Tag: "t", Time: 15}
	s.Kinds[kind] = l
	return s
}

// wantValid holds Check against whether a snapshot is valid, and Print and Read against its text.
func wantValid(t *testing.T, s api.Snapshot, valid bool) {
	t.Helper()
	if got := condition.Check(s); got != valid || got != plainSnapshot(s) {
		t.Errorf("Check %v: %v, want %v", s, got, valid)
	}
	text := condition.Print(s)
	if !valid {
		if text != "" {
			t.Errorf("Print %v: %q", s, text)
		}
		if _, e := condition.Read(plainText(s)); e != api.ErrForm {
			t.Errorf("Read %q: %d", plainText(s), e)
		}
		return
	}
	if text != plainText(s) {
		t.Errorf("Print %v: %q, want %q", s, text, plainText(s))
	}
	if got, e := condition.Read(text); !equal(got, s) || e != api.OK {
		t.Errorf("Read %q: %v %d, want %v", text, got, e, s)
	}
}

// TestCheck is P4.7 and P4.8: each part of a snapshot at the ends of what is valid, and beyond.
func TestCheck(t *testing.T) {
	good, poor := names()
	for _, name := range good {
		wantValid(t, api.Snapshot{Tag: name}, true)
	}
	for _, name := range poor {
		wantValid(t, api.Snapshot{Tag: name}, false)
	}
	for _, time := range []int{0, 1, maxTime} {
		wantValid(t, api.Snapshot{Tag: "t", Time: time}, true)
	}
	for _, time := range []int{-1, maxTime + 1, least, greatest} {
		wantValid(t, api.Snapshot{Tag: "t", Time: time}, false)
	}
	for kind := range api.Kinds {
		for _, l := range [][]api.Entry{nil, {}, entries("0 0"), entries("67108863 1073741824"), entries("0 -1073741824 67108863 1"), rising(256)} {
			wantValid(t, snapshotOf(kind, l), true)
		}
		for _, l := range poorLists() {
			wantValid(t, snapshotOf(kind, l), false)
		}
	}
	wantValid(t, api.Snapshot{}, false)
	full := snapshotOf(0, rising(256))
	for kind := range full.Kinds {
		full.Kinds[kind] = rising(256)
	}
	wantValid(t, full, true)
}

// TestValue is P4.7.
func TestValue(t *testing.T) {
	s := bookOf(t)
	r, _ := s.Resolve("t", 10)
	twice := snapshotOf(6, entries("5 1 3 2 5 3 3 4"))
	twice.Tag, twice.Time = "", -1
	for _, x := range []struct {
		s                          api.Snapshot
		kind, key, otherwise, want int
	}{
		{r, 0, 37, 9, 100}, {r, 0, 67108863, 9, 1073741824}, {r, 3, 0, 9, 5},
		{r, 0, 0, 9, 9}, {r, 0, 36, 9, 9}, {r, 0, 38, 9, 9}, {r, 3, 37, -9, -9}, {r, 1, 0, 9, 9}, {r, 6, 0, greatest, greatest}, {r, 6, 0, least, least},
		{r, -1, 0, 9, 9}, {r, 7, 0, 9, 9}, {r, least, 37, 9, 9}, {r, greatest, 37, 9, 9}, {r, 0, -1, 9, 9}, {r, 0, least, 9, 9}, {r, 0, greatest, 9, 9},
		{twice, 6, 5, 9, 1}, {twice, 6, 3, 9, 2}, {twice, 6, 4, 9, 9}, {twice, 0, 5, 9, 9},
		{snapshotOf(2, []api.Entry{{Key: least, Value: greatest}, {Key: -1, Value: 7}}), 2, least, 9, greatest},
		{snapshotOf(2, []api.Entry{{Key: least, Value: greatest}, {Key: -1, Value: 7}}), 2, -1, 9, 7},
		{api.Snapshot{}, 0, 0, 9, 9},
	} {
		if got := condition.Value(x.s, x.kind, x.key, x.otherwise); got != x.want {
			t.Errorf("Value %v %d %d %d: %d, want %d", x.s, x.kind, x.key, x.otherwise, got, x.want)
		}
	}
	for i, x := range rising(256) {
		if got := condition.Value(snapshotOf(1, rising(256)), 1, x.Key, 9999); got != 1000-i {
			t.Error(x, got)
		}
	}
}

// TestPrint is P4.8.
func TestPrint(t *testing.T) {
	s := api.Snapshot{Tag: "a-0", Time: maxTime}
	if got := condition.Print(s); got != "snapshot a-0 1099511627776\nend\n" {
		t.Errorf("%q", got)
	}
	s.Kinds[0] = entries("0 0 10 -1")
	s.Kinds[6] = entries("67108863 1073741824")
	s.Kinds[2] = entries("5 -1073741824")
	if got := condition.Print(s); got != "snapshot a-0 1099511627776\n0 0 0\n0 10 -1\n2 5 -1073741824\n6 67108863 1073741824\nend\n" {
		t.Errorf("%q", got)
	}
}

// wantRead holds Read against the oracle.
func wantRead(t *testing.T, s string) (isText bool) {
	t.Helper()
	want, isText := plainRead(s)
	code := api.ErrForm
	if isText {
		code = api.OK
	}
	got, e := condition.Read(s)
	if e != code || !equal(got, want) {
		t.Errorf("Read %q: %v %d, want %v %d", s, got, e, want, code)
	}
	return isText
}

// TestReadErrors is P4.8: texts that no valid snapshot has.
func TestReadErrors(t *testing.T) {
	if !wantRead(t, "snapshot t 15\n0 1 2\n0 2 3\n3 0 5\nend\n") {
		t.Error("the text of which the others are variations is none")
	}
	for _, s := range []string{
		"", "\n", "end\n", "snapshot t 15\n", "snapshot t 15\nend", "snapshot t 15\nend\n\n", "snapshot t 15\nend\nend\n", "snapshot t 15\nend\nsnapshot t 15\nend\n", "snapshot t 15\n\nend\n", "\nsnapshot t 15\nend\n",
		"snapshot t 15\nend ", "snapshot t 15\nend \n", "snapshot t 15\n end\n", "snapshot t 15\nEnd\n", "snapshot t 15\nends\n", "snapshot t 15\nend\r\n", "snapshot t 15\r\nend\n", "snapshot t 15 end\n",
		" snapshot t 15\nend\n", "snapshot  t 15\nend\n", "snapshot t  15\nend\n", "snapshot t 15 \nend\n", "snapshot t\nend\n", "snapshot 15\nend\n", "snapshot  15\nend\n", "snapshot t 15 0\nend\n", "snapshot\nend\n", "Snapshot t 15\nend\n", "snap t 15\nend\n", "t 15\nend\n",
		"snapshot T 15\nend\n", "snapshot -t 15\nend\n", "snapshot 0t 15\nend\n", "snapshot " + strings.Repeat("t", 33) + " 15\nend\n",
		"snapshot t -1\nend\n", "snapshot t -0\nend\n", "snapshot t +1\nend\n", "snapshot t 01\nend\n", "snapshot t 1099511627777\nend\n", "snapshot t 18446744073709551616\nend\n", "snapshot t x\nend\n", "snapshot t \nend\n",
		"snapshot t 15\n0 1\nend\n", "snapshot t 15\n0 1 2 3\nend\n", "snapshot t 15\n0  1 2\nend\n", "snapshot t 15\n0 1  2\nend\n", "snapshot t 15\n 0 1 2\nend\n", "snapshot t 15\n0 1 2 \nend\n", "snapshot t 15\n0 1 \nend\n", "snapshot t 15\n0\nend\n",
		"snapshot t 15\n7 1 2\nend\n", "snapshot t 15\n-1 1 2\nend\n", "snapshot t 15\n-0 1 2\nend\n", "snapshot t 15\n00 1 2\nend\n", "snapshot t 15\n+0 1 2\nend\n", "snapshot t 15\n0 01 2\nend\n", "snapshot t 15\n0 1 02\nend\n", "snapshot t 15\n0 1 +2\nend\n", "snapshot t 15\n0 1 -0\nend\n", "snapshot t 15\n0 +1 2\nend\n", "snapshot t 15\n0 -1 2\nend\n",
		"snapshot t 15\n0 67108864 2\nend\n", "snapshot t 15\n0 1 1073741825\nend\n", "snapshot t 15\n0 1 -1073741825\nend\n", "snapshot t 15\n0 1 a\nend\n", "snapshot t 15\n0 1 2\n0 1 2\nend\n", "snapshot t 15\n0 1 2\n0 1 3\nend\n", "snapshot t 15\n0 2 2\n0 1 2\nend\n", "snapshot t 15\n3 0 5\n0 1 2\nend\n", "snapshot t 15\n0 1 2\n3 0 5\n0 2 3\nend\n",
		"0 1 2\nsnapshot t 15\nend\n", "end\nsnapshot t 15\n", "end\nsnapshot t 15\nend\n", "snapshot t 15\nend\n0 1 2\n", "snapshot t 15\nend\n0 1 2\nend\n", "snapshot t 15\nsnapshot t 15\nend\n", "snapshot t 15\n0 1 2\n", "snapshot t 15\n0 1 2", "snapshot t 15\x00\nend\n", "snapshot t 15\n0 1 2\nend\n\x00",
	} {
		if wantRead(t, s) {
			t.Errorf("%q is a text", s)
		}
	}
	text := "snapshot t 15\n"
	for i := range 257 {
		text += "4 " + strconv.Itoa(i) + " 1\n"
	}
	wantRead(t, text+"end\n")
	wantRead(t, strings.Replace(text, "4 256 1\n", "", 1)+"end\n")
	wantRead(t, strings.Replace(text, "4 256 1\n", "5 256 1\n", 1)+"end\n")
	wantRead(t, text+strings.Repeat("4 999 1\n", 1<<16)+"end\n")
}

// TestRead is P4.8 and P4.13: Read of what Print returns is the snapshot, and of a text that is changed it is that of the oracle.
func TestRead(t *testing.T) {
	s := newSource()
	read := 0
	for range 300 {
		r := s.snapshot()
		wantValid(t, r, true)
		text := condition.Print(r)
		for range 20 {
			changed := []byte(text)
			at := s.Intn(len(changed))
			c := "0123456789 -+\naz\x00\xff"[s.Intn(18)]
			switch s.Intn(4) {
			case 0:
				changed[at] = c
			case 1:
				changed = slices.Insert(changed, at, c)
			case 2:
				changed = slices.Delete(changed, at, at+1)
			case 3:
				changed = changed[:at]
			}
			if wantRead(t, string(changed)) {
				read++
			}
		}
		lines := strings.SplitAfter(text, "\n")
		i, j := s.Intn(len(lines)), s.Intn(len(lines))
		lines[i], lines[j] = lines[j], lines[i]
		wantRead(t, strings.Join(lines, ""))
	}
	if read < 100 {
		t.Error("few texts", read)
	}
}

// TestDigest is P4.9, against what the library has, and by the chapter's words.
func TestDigest(t *testing.T) {
	s := newSource()
	for i := range 2000 {
		b := make([]byte, i%70)
		for j := range b {
			b[j] = byte(s.Intn(256))
		}
		if got, want := condition.Hex(condition.Digest(string(b))), plainSum(string(b)); got != want {
			t.Errorf("%q: %s, want %s", b, got, want)
		}
	}
	if got := condition.Digest(""); got != 14695981039346656037 {
		t.Error(got)
	}
	first := uint64(14695981039346656037)
	for c := range 256 {
		want := (first ^ uint64(c)) * 1099511628211
		if got := condition.Digest(string([]byte{byte(c)})); got != want {
			t.Error(c, got, want)
		}
	}
	if got, want := condition.Digest(strings.Repeat("é", 1<<16)), plainSum(strings.Repeat("é", 1<<16)); condition.Hex(got) != want {
		t.Error(got, want)
	}
}

// TestDigestsDiffer is P4.13: strings of one length that differ in one byte have different digests.
func TestDigestsDiffer(t *testing.T) {
	s := "snapshot t 15\n\x00\xff 0 5"
	for at := range len(s) {
		seen := map[uint64]bool{}
		for c := range 256 {
			seen[condition.Digest(s[:at]+string([]byte{byte(c)})+s[at+1:])] = true
		}
		if len(seen) != 256 {
			t.Error(at, len(seen))
		}
	}
}

// TestHex is P4.9.
func TestHex(t *testing.T) {
	for n, want := range map[uint64]string{
		0: "0000000000000000", 1: "0000000000000001", 9: "0000000000000009", 10: "000000000000000a", 15: "000000000000000f", 16: "0000000000000010",
		1<<60 - 1: "0fffffffffffffff", 1 << 60: "1000000000000000", 1 << 63: "8000000000000000", 1<<64 - 1: "ffffffffffffffff", 0x0123456789abcdef: "0123456789abcdef", 0xfedcba9876543210: "fedcba9876543210",
	} {
		if got := condition.Hex(n); got != want {
			t.Error(n, got, want)
		}
	}
}
