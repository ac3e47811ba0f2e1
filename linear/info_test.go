package linear_test

import (
	"math/big"
	"testing"

	"hodoscope/api"
	"hodoscope/linear"
)

func badInfos() []api.Info {
	zero := ratio("0")
	l := []api.Info{
		{N: matrix("1 2, 3 4"), R: column("0 0"), C: zero}, {N: matrix("1 0 0, 0 1 0, 0 1 1"), R: column("0 0 0"), C: zero},
		{N: matrix("1 2"), R: column("0"), C: zero}, {N: api.Matrix{Rows: 2}, R: column("0 0"), C: zero}, {N: api.Matrix{Cols: 2}, R: api.Matrix{Cols: 1}, C: zero},
		{N: matrix("1"), R: column("0 0"), C: zero}, {N: matrix("1"), R: api.Matrix{Cols: 1}, C: zero}, {N: matrix("1 0, 0 1"), R: matrix("0 0"), C: zero}, {N: matrix("1"), R: matrix("0 0"), C: zero}, {N: matrix("1"), C: zero},
		{R: column("0"), C: zero}, {C: zero},
	}
	for _, b := range badMatrices() {
		l = append(l, api.Info{N: b, R: api.Matrix{Rows: b.Rows, Cols: 1}, C: zero}, api.Info{N: matrix("1"), R: b, C: zero}, api.Info{R: b, C: zero})
	}
	return l
}

func goodInfos() []api.Info {
	return []api.Info{
		{R: api.Matrix{Cols: 1}}, {R: api.Matrix{Cols: 1}, C: ratio("-2/3"), Count: -1 << 63}, info("1", "0", "0", 0), info("-1 2, 2 -7/3", "1 2", "3", 1<<63-1),
		looseInfo(info("0 1/2, 1/2 0", "0 1", "5", 7)), {N: zeros(64, 64), R: zeros(64, 1), C: ratio("1")}, {N: matrix("3"), R: column("1")},
	}
}

func TestCheckInfo(t *testing.T) {
	for _, f := range goodInfos() {
		wantOK(t, linear.CheckInfo(f), text(f.N))
	}
	for _, f := range badInfos() {
		if e := linear.CheckInfo(f); e != api.ErrShape {
			t.Errorf("%v: %v", f, e)
		}
	}
}

func TestBlank(t *testing.T) {
	for _, n := range []int{0, 1, 3, 64} {
		f, e := linear.Blank(n)
		wantOK(t, e)
		wantInfo(t, f, api.Info{N: zeros(n, n), R: zeros(n, 1), C: ratio("0")}, n)
	}
	for _, n := range []int{-1, 65, 1 << 62, -1 << 63} {
		f, e := linear.Blank(n)
		wantInfoError(t, f, e, api.ErrShape, n)
	}
}

// measured is Measure as the document says it.
func measured(f api.Info, h, y, v api.Matrix) api.Info {
	w, _ := inverse(v)
	heavy := times(turned(h), w)
	c := new(big.Rat).Add(bigRat(f.C), weightedSum(y, w))
	return api.Info{N: plus(f.N, times(heavy, h)), R: plus(f.R, times(heavy, y)), C: ofRat(c), Count: f.Count + h.Rows}
}

func TestMeasure(t *testing.T) {
	s := newSource()
	for range 60 {
		n, rows := s.Intn(5), s.Intn(4)
		f, h, y, v := s.info(n), s.matrix(rows, n), s.matrix(rows, 1), s.definite(rows)
		want := measured(f, h, y, v)
		for range 2 {
			got, e := linear.Measure(f, h, y, v)
			wantOK(t, e)
			wantInfo(t, got, want, n, rows)
			f, h, y, v = looseInfo(f), looseMatrix(h), looseMatrix(y), looseMatrix(v)
		}
		x := s.matrix(n, 1)
		d := minus(y, times(h, x))
		w, _ := inverse(v)
		if sum := new(big.Rat).Add(sumOf(f, x), weightedSum(d, w)); sum.Cmp(sumOf(want, x)) != 0 {
			t.Error("not the sum of squares")
		}
	}
	most := info("1", "1", "1", 1<<63-1)
	got, e := linear.Measure(most, column("1 1"), column("2 3"), identity(2))
	wantOK(t, e)
	wantInfo(t, got, info("3", "6", "14", -1<<63+1))
	f, _ := linear.Blank(64)
	got, e = linear.Measure(f, identity(64), sized(64, 1), identity(64))
	wantOK(t, e)
	wantMatrix(t, got.N, identity(64))
	wantMatrix(t, got.R, sized(64, 1))
}

func TestMeasureErrors(t *testing.T) {
	f := info("1 0, 0 1", "1 2", "5", 2)
	h, y, v := matrix("1 1, 0 3"), column("4 5"), matrix("2 1, 1 2")
	for _, x := range []struct {
		h, y, v api.Matrix
		e       api.Errno
	}{
		{h, y, v, api.OK}, {api.Matrix{Cols: 2}, api.Matrix{Cols: 1}, api.Matrix{}, api.OK},
		{matrix("1, 0"), y, v, api.ErrShape}, {matrix("1 1 1, 0 3 1"), y, v, api.ErrShape}, {matrix("1 1"), y, v, api.ErrShape}, {api.Matrix{Rows: 2}, y, v, api.ErrShape},
		{h, column("4"), v, api.ErrShape}, {h, column("4 5 6"), v, api.ErrShape}, {h, matrix("4 5"), v, api.ErrShape}, {h, matrix("4 5, 6 7"), v, api.ErrShape}, {h, api.Matrix{Rows: 2}, v, api.ErrShape},
		{h, y, matrix("1"), api.ErrShape}, {h, y, identity(3), api.ErrShape}, {h, y, matrix("1 0"), api.ErrShape}, {h, y, matrix("1 0 0, 0 1 0"), api.ErrShape}, {h, y, api.Matrix{}, api.ErrShape}, {api.Matrix{Cols: 2}, api.Matrix{}, api.Matrix{}, api.ErrShape},
		{h, y, matrix("2 1, 0 2"), api.ErrWeight}, {h, y, matrix("1 1, 1 1"), api.ErrWeight}, {h, y, matrix("1 2, 2 1"), api.ErrWeight}, {h, y, zeros(2, 2), api.ErrWeight}, {h, y, diagonal(2, "-1"), api.ErrWeight}, {h, y, matrix("1 0, 0 0"), api.ErrWeight},
		{h, column("4"), matrix("1 2, 2 1"), api.ErrShape},
	} {
		got, e := linear.Measure(f, x.h, x.y, x.v)
		if x.e == api.OK {
			wantOK(t, e)
			continue
		}
		wantInfoError(t, got, e, x.e, text(x.h), text(x.y), text(x.v))
	}
	for _, b := range badMatrices() {
		for _, x := range [][3]api.Matrix{{b, y, v}, {h, b, v}, {h, y, b}, {b, b, b}, {b, y, zeros(2, 2)}, {h, b, zeros(2, 2)}} {
			got, e := linear.Measure(f, x[0], x[1], x[2])
			wantInfoError(t, got, e, api.ErrShape, b)
		}
	}
	for _, b := range badInfos() {
		got, e := linear.Measure(b, matrix("1"), column("1"), matrix("0"))
		wantInfoError(t, got, e, api.ErrShape, b)
		got, e = linear.Measure(b, h, y, v)
		wantInfoError(t, got, e, api.ErrShape, b)
	}
}

func TestCombine(t *testing.T) {
	s := newSource()
	for range 40 {
		n := s.Intn(5)
		f, g := s.info(n), s.info(n)
		want := api.Info{N: plus(f.N, g.N), R: plus(f.R, g.R), C: ofRat(new(big.Rat).Add(bigRat(f.C), bigRat(g.C))), Count: f.Count + g.Count}
		for range 2 {
			got, e := linear.Combine(f, g)
			wantOK(t, e)
			wantInfo(t, got, want, n)
			f, g = looseInfo(f), looseInfo(g)
		}
	}
	least := info("1", "1", "1", -1<<63)
	got, e := linear.Combine(least, least)
	wantOK(t, e)
	wantInfo(t, got, info("2", "2", "2", 0))
	one, two := info("1", "1", "1", 1), info("1 0, 0 1", "1 1", "1", 1)
	for _, x := range [][2]api.Info{{one, two}, {two, one}, {{R: api.Matrix{Cols: 1}}, one}} {
		got, e := linear.Combine(x[0], x[1])
		wantInfoError(t, got, e, api.ErrShape)
	}
	for _, b := range badInfos() {
		for _, x := range [][2]api.Info{{b, one}, {one, b}, {two, b}, {b, two}, {b, b}} {
			got, e := linear.Combine(x[0], x[1])
			wantInfoError(t, got, e, api.ErrShape, b)
		}
	}
}

func TestEstimate(t *testing.T) {
	s := newSource()
	for range 80 {
		f := s.info(s.Intn(5))
		cov, is := inverse(f.N)
		if !is {
			result(linear.Estimate(f)).wantError(t, api.ErrSingular, text(f.N))
			continue
		}
		x := times(cov, f.R)
		for _, g := range []api.Info{f, looseInfo(f)} {
			result(linear.Estimate(g)).want(t, x, cov, ofRat(sumOf(f, x)), text(f.N))
		}
	}
	none := api.Info{R: api.Matrix{Cols: 1}, C: looseRatio(ratio("2/3")), Count: 5}
	result(linear.Estimate(none)).want(t, api.Matrix{Cols: 1}, api.Matrix{}, ratio("2/3"))
	result(linear.Estimate(info("0 1, 1 0", "3 4", "1", 0))).want(t, column("4 3"), matrix("0 1, 1 0"), ratio("-23"))
	result(linear.Estimate(info("1 1, 1 1", "1 1", "1", 2))).wantError(t, api.ErrSingular)
	blank, _ := linear.Blank(64)
	result(linear.Estimate(blank)).wantError(t, api.ErrSingular)
	blank.N = diagonal(64, "2")
	blank.R = sized(64, 1)
	got := result(linear.Estimate(blank))
	wantMatrix(t, got.y, diagonal(64, "1/2"))
	wantMatrix(t, got.x, times(diagonal(64, "1/2"), sized(64, 1)))
	for _, b := range badInfos() {
		result(linear.Estimate(b)).wantError(t, api.ErrShape, b)
	}
}

// marginal is Marginal as the document says it; false if D has no inverse.
func marginal(f api.Info, keep []int) (api.Info, bool) {
	others := without(f.N.Rows, keep...)
	d, is := inverse(part(f.N, others, others))
	if !is {
		return api.Info{}, false
	}
	b := part(f.N, keep, others)
	r, s := part(f.R, keep, []int{0}), part(f.R, others, []int{0})
	through := times(b, d)
	c := new(big.Rat).Sub(bigRat(f.C), weightedSum(s, d))
	return api.Info{N: minus(part(f.N, keep, keep), times(through, turned(b))), R: minus(r, times(through, s)), C: ofRat(c), Count: f.Count - len(others)}, true
}

func TestMarginal(t *testing.T) {
	s := newSource()
	for range 200 {
		f := s.info(s.Intn(6))
		keep := s.choice(f.N.Rows)
		want, is := marginal(f, keep)
		for _, g := range []api.Info{f, looseInfo(f)} {
			got, e := linear.Marginal(g, keep)
			if !is {
				wantInfoError(t, got, e, api.ErrSingular, text(f.N), keep)
				continue
			}
			wantOK(t, e, text(f.N), keep)
			wantInfo(t, got, want, text(f.N), keep)
		}
	}
}

func TestMarginalCases(t *testing.T) {
	f := info("1 2 0, 2 5 1, 0 1 0", "1 2 3", "7", 9)
	for _, x := range []struct {
		keep []int
		want api.Info
		e    api.Errno
	}{
		{[]int{0, 1, 2}, f, api.OK}, {[]int{2, 0, 1}, info("0 0 1, 0 1 2, 1 2 5", "3 1 2", "7", 9), api.OK},
		{nil, api.Info{R: api.Matrix{Cols: 1}, C: ratio("15"), Count: 6}, api.OK},
		{[]int{}, api.Info{R: api.Matrix{Cols: 1}, C: ratio("15"), Count: 6}, api.OK},
		{[]int{1, 2}, info("1 1, 1 0", "0 3", "6", 8), api.OK},
		{[]int{0}, info("1", "-5", "40", 7), api.OK},
		{[]int{0, 1}, api.Info{}, api.ErrSingular}, {[]int{1}, api.Info{}, api.ErrSingular},
		{[]int{0, 0}, api.Info{}, api.ErrRange}, {[]int{0, 1, 2, 0}, api.Info{}, api.ErrRange}, {[]int{3}, api.Info{}, api.ErrRange}, {[]int{-1}, api.Info{}, api.ErrRange}, {[]int{0, 1, 3}, api.Info{}, api.ErrRange}, {[]int{1, 1}, api.Info{}, api.ErrRange}, {[]int{1 << 62}, api.Info{}, api.ErrRange}, {[]int{-1 << 63}, api.Info{}, api.ErrRange},
	} {
		got, e := linear.Marginal(f, x.keep)
		if x.e != api.OK {
			wantInfoError(t, got, e, x.e, x.keep)
			continue
		}
		wantOK(t, e, x.keep)
		wantInfo(t, got, x.want, x.keep)
	}
	// D's inverse needs its rows in another order.
	got, e := linear.Marginal(info("0 1 0, 1 0 0, 0 0 1", "1 2 3", "0", 0), []int{2})
	wantOK(t, e)
	wantInfo(t, got, info("1", "3", "-4", -2))
	// A row of those that are kept may not take the part of one of the others.
	got, e = linear.Marginal(info("0 1, 1 0", "1 2", "0", 0), []int{1})
	wantInfoError(t, got, e, api.ErrSingular)
	got, e = linear.Marginal(info("1", "1", "1", -1<<63), nil)
	wantOK(t, e)
	wantInfo(t, got, api.Info{R: api.Matrix{Cols: 1}, C: ratio("0"), Count: 1<<63 - 1})
	for _, b := range badInfos() {
		got, e := linear.Marginal(b, []int{0, 0})
		wantInfoError(t, got, e, api.ErrShape, b)
	}
}

func TestCondition(t *testing.T) {
	s := newSource()
	for range 120 {
		f := s.info(s.Intn(6))
		given := s.choice(f.N.Rows)
		a := s.matrix(len(given), 1)
		others := without(f.N.Rows, given...)
		want := api.Info{
			N:     part(f.N, others, others),
			R:     minus(part(f.R, others, []int{0}), times(part(f.N, others, given), a)),
			C:     ofRat(sumOf(api.Info{N: part(f.N, given, given), R: part(f.R, given, []int{0}), C: f.C}, a)),
			Count: f.Count,
		}
		for range 2 {
			got, e := linear.Condition(f, given, a)
			wantOK(t, e)
			wantInfo(t, got, want, text(f.N), given)
			f, a = looseInfo(f), looseMatrix(a)
		}
		// What is left has the sum of squares of the whole vector.
		x := s.matrix(len(others), 1)
		whole := laid(f.N.Rows, 1, func(i, j int) *big.Rat {
			for k, p := range given {
				if p == i {
					return at(a, k, 0)
				}
			}
			for k, p := range others {
				if p == i {
					return at(x, k, 0)
				}
			}
			return nil
		})
		if sumOf(f, whole).Cmp(sumOf(want, x)) != 0 {
			t.Error(text(f.N), given, text(a))
		}
	}
}

func TestConditionCases(t *testing.T) {
	f := info("1 2 0, 2 5 1, 0 1 0", "1 2 3", "7", 9)
	none := api.Matrix{Cols: 1}
	for _, x := range []struct {
		at     []int
		values api.Matrix
		want   api.Info
		e      api.Errno
	}{
		{nil, none, f, api.OK}, {[]int{}, none, f, api.OK},
		{[]int{1}, column("2"), info("1 0, 0 0", "-3 1", "19", 9), api.OK},
		{[]int{2, 0}, column("1 -1"), info("5", "3", "4", 9), api.OK},
		{[]int{0, 1, 2}, column("1 1 1"), api.Info{R: none, C: ratio("7"), Count: 9}, api.OK},
		{[]int{1}, none, api.Info{}, api.ErrShape}, {[]int{1}, column("1 2"), api.Info{}, api.ErrShape}, {[]int{1, 2}, matrix("1 2"), api.Info{}, api.ErrShape}, {[]int{1}, matrix("1 2"), api.Info{}, api.ErrShape}, {nil, api.Matrix{}, api.Info{}, api.ErrShape}, {nil, column("1"), api.Info{}, api.ErrShape},
		{[]int{1, 1}, column("1 1"), api.Info{}, api.ErrRange}, {[]int{3}, column("1"), api.Info{}, api.ErrRange}, {[]int{-1}, column("1"), api.Info{}, api.ErrRange}, {[]int{0, 1, 2, 0}, column("1 1 1 1"), api.Info{}, api.ErrRange}, {[]int{0, 3}, column("1 1"), api.Info{}, api.ErrRange},
		{[]int{3}, column("1 1"), api.Info{}, api.ErrShape}, {[]int{1, 1}, none, api.Info{}, api.ErrShape}, {make([]int, 65), sized(65, 1), api.Info{}, api.ErrShape}, {make([]int, 64), sized(64, 1), api.Info{}, api.ErrRange},
	} {
		got, e := linear.Condition(f, x.at, x.values)
		if x.e != api.OK {
			wantInfoError(t, got, e, x.e, x.at, text(x.values))
			continue
		}
		wantOK(t, e, x.at)
		wantInfo(t, got, x.want, x.at)
	}
	for _, b := range badInfos() {
		got, e := linear.Condition(b, []int{9}, column("1"))
		wantInfoError(t, got, e, api.ErrShape, b)
	}
	for _, b := range badMatrices() {
		for _, l := range [][]int{nil, {0}, {9, 9}} {
			got, e := linear.Condition(f, l, b)
			wantInfoError(t, got, e, api.ErrShape, b)
		}
	}
}
