package pattern_test

import (
	"testing"

	"hodoscope/api"
	"hodoscope/pattern"
)

// TestExamples has the examples of the chapter, and that of DOC.md.
func TestExamples(t *testing.T) {
	d, q := plain(), steady()
	l := samples("0 1 1 4  0 1 2 4  0 2 1 8  0 3 2 1")
	clusters := []api.Cluster{cluster(0, 16, "0 1 1 4  0 1 2 4  0 2 1 8"), cluster(0, 1, "0 3 2 1")}
	wanted(t, clusters)(pattern.Clusters(d, l))
	wanted(t, []api.Point{{Plane: 0, X: -20, Y: -23, VX: 4, VY: 4}})(pattern.Points(d, api.Snapshot{}, clusters[:1]))
	p := points("0 0 0  1 5 0  2 10 0  1 30 0")
	wanted(t, segments("0 1  1 2  3 2"))(pattern.Segments(d, q, p, 0))
	wanted(t, numbers("1 2 1"))(pattern.Lengths(d, q, p, 0))
	wanted(t, numbers("1 1 1"))(pattern.Evolve(d, q, p, 0, 0))
	wanted(t, numbers("1 2 1"))(pattern.Evolve(d, q, p, 0, 1))
	wantBends(t, d, p[0], p[1], p[2], 0, 0)
	found := []api.Candidate{candidate(3000, "0 1 2")}
	wanted(t, found)(pattern.Candidates(d, q, p, 0))
	wanted(t, found)(pattern.Follow(d, q, p, 0))
	wanted(t, numbers("0"))(pattern.Choose(found, 0))
	wanted(t, numbers("0 2"))(pattern.Choose([]api.Candidate{candidate(5, "1 2"), candidate(6, "2 3"), candidate(5, "3 4")}, 0))
}
