package track_test

import (
	"testing"

	"hodoscope/api"
	"hodoscope/track"
)

// TestExamples has the examples of the chapter, and that of the document.
func TestExamples(t *testing.T) {
	ok := first[api.Track](t)
	fit := ok(track.Fit([]api.Site{hit(0, 0, 0), hit(1, 1, 1), hit(2, 4, 2)}))
	wantMatrix(t, fit.P, column("0 0 1 0 1"))
	wantRatio(t, fit.Chi, ratio("0"))
	other := ok(track.Fit([]api.Site{hit(0, 0, 0), hit(1, 1, 1), hit(2, 4, 5)}))
	wantMatrix(t, other.P, column("0 0 1 -1/2 5/2"))
	wantRatio(t, other.Chi, ratio("3/2"))
	wantNumbers(t, []int{fit.Free, other.Free}, []int{1, 1})
	point, cov, e := track.At(fit, hit(3, 0, 0))
	wantOK(t, e)
	wantMatrix(t, point, column("9 3"))
	wantRatio(t, cov.Cells[3], ratio("7/3"))
	h, e := track.Row(hit(2, 0, 0))
	wantOK(t, e)
	wantMatrix(t, h, matrix("1 2 4 0 0, 0 0 0 1 2"))
	s := hit(2, 0, 0)
	s.Kick, s.Loss = 3, 500
	turn, noise, e := track.Cross(s)
	wantOK(t, e)
	wantMatrix(t, turn, matrix("1 0 2 0 0, 0 1 -2 0 0, 0 0 3/2 0 0, 0 0 0 1 0, 0 0 0 0 1"))
	wantMatrix(t, noise, matrix("12 -6 0 0 0, -6 3 0 0 0, 0 0 0 0 0, 0 0 0 12 -6, 0 0 0 -6 3"))
	bits, e := track.Bits(hit(2, 0, 0), ratio("1/8"))
	wantOK(t, e)
	wantNumbers(t, []int{bits}, []int{5})
	none, e := track.Fit([]api.Site{hit(0, 0, 0), hit(1, 1, 1)})
	wantError(t, api.ErrSingular, e, all(none))
}
