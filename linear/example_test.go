package linear_test

import (
	"slices"
	"testing"

	"hodoscope/api"
	"hodoscope/linear"
)

// TestExamples has the examples of the chapter.
func TestExamples(t *testing.T) {
	ok := first[api.Matrix](t)
	m := ok(linear.Make(2, 3, 1, 2, 3, 2, 4, 7))
	form, pivots, e := linear.Reduce(m)
	wantOK(t, e)
	wantMatrix(t, form, matrix("1 2 0, 0 0 1"))
	if !slices.Equal(pivots, []int{0, 2}) {
		t.Error(pivots)
	}
	wantMatrix(t, ok(linear.Null(m)), column("-2 1 0"))
	m = ok(linear.Make(2, 2, 1, 2, 3, 4))
	d, e := linear.Det(m)
	wantOK(t, e)
	wantRatio(t, d, ratio("-2"))
	wantMatrix(t, ok(linear.Inverse(m)), matrix("-2 1, 3/2 -1/2"))
	wantMatrix(t, ok(linear.Solve(column("1 2 3"), column("2 4 6"))), column("2"))
	x, e := linear.Solve(column("1 2 3"), column("2 4 7"))
	wantMatrixError(t, x, e, api.ErrSingular)
	for s, kind := range map[string]int{"2 1, 1 2": 2, "1 1, 1 1": 1, "1 2, 2 1": 0} {
		if got, e := linear.Definite(matrix(s)); got != kind || e != api.OK {
			t.Error(s, got, e)
		}
	}
	result(linear.LeastSquares(matrix("1 0, 1 1, 1 2"), column("0 1 5"), ratios("1 1 1"))).want(t, column("-1/2 5/2"), matrix("5/6 -1/2, -1/2 1/2"), ratio("3/2"))
}

func TestExamplesOfInformation(t *testing.T) {
	ok := first[api.Info](t)
	one := matrix("1")
	f := ok(linear.Measure(ok(linear.Blank(1)), one, column("3"), matrix("2")))
	f = ok(linear.Measure(f, one, column("5"), matrix("2")))
	wantInfo(t, f, info("1", "4", "17", 2))
	result(linear.Estimate(f)).want(t, column("4"), one, ratio("1"))
	f = ok(linear.Move(f, matrix("2"), one))
	result(linear.Estimate(f)).want(t, column("8"), matrix("5"), ratio("1"))
	g := ok(linear.Measure(ok(linear.Blank(2)), identity(2), column("1 2"), identity(2)))
	result(linear.Constrain(g, matrix("1 1"), column("1"))).want(t, column("0 1"), column("1"), ratio("2"))
}
