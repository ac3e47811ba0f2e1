package condition_test

import (
	"testing"

	"hodoscope/api"
	"hodoscope/condition"
)

// TestExamples has the examples of the chapter, and that of DOC.md.
func TestExamples(t *testing.T) {
	b := condition.New()
	begin(t, b, 3, 0, 1)
	put(t, b, 3, 1, 10, "0 5")
	put(t, b, 3, 1, 20, "0 7 1 -2")
	closes(t, b, 3, 1)
	tags(t, b, "t", all{0, 0, 0, 1, 0, 0, 0})
	wantSnapshot(t, b, "t", 15, "3 0 5")
	wantSnapshot(t, b, "t", 5, "")
	refusesPut(t, b, api.ErrState, 3, 1, 30, nil)
	begin(t, b, 3, 1, 2)
	wantList(t, b, 3, 2, 20, "0 7 1 -2", true)
	wantChanges(t, b, "t", 10, 20)
	refusesTag(t, b, api.ErrThere, "t", all{0, 0, 0, 1, 0, 0, 0})
	refusesTag(t, b, api.ErrState, "u", all{0, 0, 0, 2, 0, 0, 0})
	s, e := b.Resolve("t", 15)
	if text := condition.Print(s); text != "snapshot t 15\n3 0 5\nend\n" || e != api.OK {
		t.Errorf("%q %d", text, e)
	}
	if got := condition.Hex(condition.Digest("")); got != "cbf29ce484222325" {
		t.Error(got)
	}
	if got := condition.Hex(condition.Digest("a")); got != "af63dc4c8601ec8c" {
		t.Error(got)
	}
}

func TestExampleLog(t *testing.T) {
	b := condition.New()
	begin(t, b, 3, 0, 1)
	if got := b.Log(); got != seal("begin 3 0") {
		t.Errorf("%q", got)
	}
}
