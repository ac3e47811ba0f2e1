package vertex_test

import (
	"testing"

	"hodoscope/api"
	"hodoscope/vertex"
)

// TestExamples has the examples of the chapter.
func TestExamples(t *testing.T) {
	r := ray(0, "2 3 5 7")
	h, y, e := vertex.Row(r)
	wantOK(t, e)
	wantMatrix(t, h, matrix("-3 1 0, -7 0 1"))
	wantMatrix(t, y, column("2 5"))
	off, chi, e := vertex.Distance(r, column("1 5 12"))
	wantOK(t, e)
	wantMatrix(t, off, column("0 0"))
	wantRatio(t, chi, ratio("0"))
	off, chi, e = vertex.Distance(r, column("0 0 0"))
	wantOK(t, e)
	wantMatrix(t, off, column("2 5"))
	wantRatio(t, chi, ratio("29"))

	a, b := ray(0, "0 1 0 0"), ray(0, "2 -1 0 0")
	v, e := vertex.Fit(blank(), []api.Ray{a, b})
	wantOK(t, e)
	wantMatrix(t, v.P, column("1 1 0"))
	wantRatio(t, v.Chi, ratio("0"))
	wantNumber(t, v.Free, 1)

	p, e := vertex.Momentum(a, ratio("-1/2"))
	wantOK(t, e)
	wantMatrix(t, p, column("2 2 0"))
	q, e := vertex.Momentum(b, ratio("1"))
	wantOK(t, e)
	wantMatrix(t, q, column("1 -1 0"))
	alpha, square, e := vertex.Pair(p, q)
	wantOK(t, e)
	wantRatio(t, alpha, ratio("3/5"))
	wantRatio(t, square, ratio("8/5"))

	best, f, e := vertex.Kind(ratio("0"), ratio("4"), []api.Ellipse{ellipse("0", "1", "3"), ellipse("1", "1", "2")})
	wantOK(t, e)
	wantNumber(t, best, 0)
	wantRatio(t, f, ratio("4/9"))
}
