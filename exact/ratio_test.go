package exact_test

import (
	"math"
	"math/big"
	"testing"

	"hodoscope/api"
	"hodoscope/exact"
)

// withoutDen returns ratios whose Den is 0: they stand for 0.
func withoutDen() []api.Ratio {
	return []api.Ratio{{}, {Num: exact.Of(5)}, {Num: exact.Of(-5)}, {Num: exact.Of(5), Den: api.Int{Neg: true, Words: []uint32{0, 0}}}}
}

func TestMake(t *testing.T) {
	for _, a := range numbers() {
		for _, b := range numbers() {
			for _, den := range []api.Int{b, loose(b)} {
				r, e := exact.Make(loose(a), den)
				if bigInt(b).Sign() == 0 {
					wantRatioError(t, r, e, api.ErrZero, "Make", a, den)
					continue
				}
				wantOK(t, e, "Make", a, den)
				wantRatio(t, r, new(big.Rat).SetFrac(bigInt(a), bigInt(b)), "Make", a, den)
			}
		}
		wantRatio(t, exact.Whole(loose(a)), new(big.Rat).SetInt(bigInt(a)), "Whole", a)
	}
}

func TestOver(t *testing.T) {
	l := []int64{0, 1, -1, 2, -2, 6, -9, 1 << 32, math.MaxInt64, math.MinInt64, math.MinInt64 + 1}
	for _, a := range l {
		for _, b := range l {
			r, e := exact.Over(a, b)
			if b == 0 {
				wantRatioError(t, r, e, api.ErrZero, "Over", a, b)
				continue
			}
			wantOK(t, e, "Over", a, b)
			wantRatio(t, r, new(big.Rat).SetFrac(big.NewInt(a), big.NewInt(b)), "Over", a, b)
		}
	}
}

func TestLowest(t *testing.T) {
	for _, r := range ratios() {
		for _, s := range []api.Ratio{r, looseRatio(r), {Num: loose(r.Num), Den: loose(r.Den)}, {Num: exact.Neg(r.Num), Den: exact.Neg(r.Den)}} {
			wantRatio(t, exact.Lowest(s), bigRat(r), "Lowest", s)
			if n := exact.Signum(s); n != bigRat(r).Sign() {
				t.Error("Signum", s, n)
			}
		}
	}
	for _, r := range withoutDen() {
		wantRatio(t, exact.Lowest(r), new(big.Rat), "Lowest", r)
		if n := exact.Signum(r); n != 0 {
			t.Error("Signum", r, n)
		}
	}
	wantRatio(t, exact.Lowest(api.Ratio{Num: exact.Of(6), Den: exact.Of(-4)}), big.NewRat(-3, 2), "Lowest of 6 over -4")
}

// checkRatios checks what is said of two ratios.
func checkRatios(t *testing.T, r, s api.Ratio) {
	t.Helper()
	x, y := bigRat(r), bigRat(s)
	if c := exact.Compare(r, s); c != x.Cmp(y) {
		t.Error("Compare", r, s, c)
	}
	wantRatio(t, exact.Plus(r, s), new(big.Rat).Add(x, y), "Plus", r, s)
	wantRatio(t, exact.Minus(r, s), new(big.Rat).Sub(x, y), "Minus", r, s)
	wantRatio(t, exact.Times(r, s), new(big.Rat).Mul(x, y), "Times", r, s)
	wantRatio(t, exact.Total(r, s), new(big.Rat).Add(x, y), "Total", r, s)
	q, e := exact.Quotient(r, s)
	if y.Sign() == 0 {
		wantRatioError(t, q, e, api.ErrZero, "Quotient", r, s)
		return
	}
	wantOK(t, e, "Quotient", r, s)
	wantRatio(t, q, new(big.Rat).Quo(x, y), "Quotient", r, s)
}

func TestRatioPairs(t *testing.T) {
	l := append(ratios(), withoutDen()...)
	for _, r := range l {
		for _, s := range l {
			checkRatios(t, r, s)
			checkRatios(t, looseRatio(r), s)
			checkRatios(t, r, looseRatio(s))
			checkRatios(t, looseRatio(r), looseRatio(s))
		}
	}
	s := newSource()
	for range 1500 {
		checkRatios(t, s.ratio(6), s.ratio(6))
		checkRatios(t, s.small(), s.small())
	}
	for range 20 {
		checkRatios(t, s.ratio(120), s.ratio(120))
	}
}

func TestTotalAndDot(t *testing.T) {
	wantRatio(t, exact.Total(), new(big.Rat), "Total of none")
	wantRatio(t, exact.Total([]api.Ratio{}...), new(big.Rat), "Total of none")
	s := newSource()
	for n := range 12 {
		var l, m []api.Ratio
		total, dot := new(big.Rat), new(big.Rat)
		for range n {
			r, q := looseRatio(s.ratio(3)), looseRatio(s.small())
			l, m = append(l, r), append(m, q)
			total.Add(total, bigRat(r))
			dot.Add(dot, new(big.Rat).Mul(bigRat(r), bigRat(q)))
		}
		wantRatio(t, exact.Total(l...), total, "Total", l)
		d, e := exact.Dot(l, m)
		wantOK(t, e, "Dot")
		wantRatio(t, d, dot, "Dot", l, m)
		d, e = exact.Dot(l, append(m, api.Ratio{}))
		wantRatioError(t, d, e, api.ErrArg, "Dot of different lengths")
		d, e = exact.Dot(append(l, api.Ratio{}), m)
		wantRatioError(t, d, e, api.ErrArg, "Dot of different lengths")
	}
	for _, l := range [][]api.Ratio{nil, {}} {
		for _, m := range [][]api.Ratio{nil, {}} {
			d, e := exact.Dot(l, m)
			wantOK(t, e, "Dot of none")
			wantRatio(t, d, new(big.Rat), "Dot of none")
		}
	}
}
