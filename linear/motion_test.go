package linear_test

import (
	"math/big"
	"testing"

	"hodoscope/api"
	"hodoscope/linear"
)

// moved is Move as the document says it, without its checks; false if an inverse is missing.
func moved(f api.Info, t, q api.Matrix) (api.Info, bool) {
	u, is := inverse(t)
	if !is {
		return api.Info{}, false
	}
	m, s := times(turned(u), times(f.N, u)), times(turned(u), f.R)
	p, is := inverse(plus(identity(f.N.Rows), times(m, q)))
	if !is {
		return api.Info{}, false
	}
	r := times(p, s)
	c := new(big.Rat).Sub(bigRat(f.C), scalar(times(turned(s), times(q, r))))
	return api.Info{N: times(p, m), R: r, C: ofRat(c), Count: f.Count}, true
}

func TestMove(t *testing.T) {
	s := newSource()
	for range 150 {
		n := s.Intn(5)
		f, a, q := s.info(n), s.matrix(n, n), s.semidefinite(n, s.Intn(n+1))
		if s.Intn(4) > 0 {
			a = plus(a, diagonal(n, "11"))
		}
		want, is := moved(f, a, q)
		for range 2 {
			got, e := linear.Move(f, a, q)
			if !is {
				wantInfoError(t, got, e, api.ErrSingular, text(f.N), text(a), text(q))
			} else {
				wantOK(t, e, text(f.N), text(a), text(q))
				wantInfo(t, got, want, text(f.N), text(a), text(q))
				wantOK(t, linear.CheckInfo(got))
			}
			f, a, q = looseInfo(f), looseMatrix(a), looseMatrix(q)
		}
	}
}

func TestMoveCases(t *testing.T) {
	one, two := info("1", "4", "17", 2), info("2 1, 1 2", "3 4", "5", 6)
	none := api.Info{R: api.Matrix{Cols: 1}, C: ratio("3"), Count: 4}
	down := info("-1 0, 0 1", "1 1", "0", 0)
	for _, x := range []struct {
		f    api.Info
		t, q api.Matrix
		want api.Info
		e    api.Errno
	}{
		{one, matrix("2"), matrix("1"), info("1/5", "8/5", "69/5", 2), api.OK},
		{one, matrix("2"), matrix("0"), info("1/4", "2", "17", 2), api.OK},
		{one, matrix("-1"), matrix("0"), info("1", "-4", "17", 2), api.OK},
		{two, identity(2), zeros(2, 2), two, api.OK},
		{none, api.Matrix{}, api.Matrix{}, none, api.OK},
		{info("0 0, 0 0", "0 0", "1", 3), matrix("1 5, 0 1"), matrix("1 1, 1 1"), info("0 0, 0 0", "0 0", "1", 3), api.OK},
		{down, identity(2), matrix("0 0, 0 1"), info("-1 0, 0 1/2", "1 1/2", "-1/2", 0), api.OK},
		{down, identity(2), matrix("2 0, 0 0"), info("1 0, 0 1", "-1 1", "2", 0), api.OK},
		{two, matrix("1"), zeros(2, 2), api.Info{}, api.ErrShape}, {two, identity(2), matrix("1"), api.Info{}, api.ErrShape}, {two, identity(3), identity(3), api.Info{}, api.ErrShape}, {two, sized(2, 3), zeros(2, 2), api.Info{}, api.ErrShape}, {two, identity(2), sized(3, 2), api.Info{}, api.ErrShape}, {two, api.Matrix{}, zeros(2, 2), api.Info{}, api.ErrShape}, {none, matrix("1"), api.Matrix{}, api.Info{}, api.ErrShape},
		{two, matrix("1 2, 2 4"), zeros(2, 2), api.Info{}, api.ErrSingular}, {two, zeros(2, 2), identity(2), api.Info{}, api.ErrSingular},
		{two, identity(2), matrix("1 2, 2 1"), api.Info{}, api.ErrWeight}, {two, identity(2), matrix("1 1, 0 1"), api.Info{}, api.ErrWeight}, {two, identity(2), diagonal(2, "-1"), api.Info{}, api.ErrWeight}, {one, matrix("1"), matrix("-1"), api.Info{}, api.ErrWeight},
		{down, identity(2), identity(2), api.Info{}, api.ErrSingular}, {down, diagonal(2, "2"), diagonal(2, "4"), api.Info{}, api.ErrSingular},
		{two, matrix("1 2, 2 4"), matrix("1 2, 2 1"), api.Info{}, api.ErrSingular}, {two, matrix("1 2, 2 4"), matrix("1"), api.Info{}, api.ErrShape}, {down, identity(2), matrix("1 1, 0 1"), api.Info{}, api.ErrWeight},
	} {
		got, e := linear.Move(x.f, x.t, x.q)
		if x.e != api.OK {
			wantInfoError(t, got, e, x.e, text(x.f.N), text(x.t), text(x.q))
			continue
		}
		wantOK(t, e, text(x.t), text(x.q))
		wantInfo(t, got, x.want, text(x.f.N), text(x.t), text(x.q))
	}
	for _, b := range badMatrices() {
		for _, x := range [][2]api.Matrix{{b, matrix("1")}, {matrix("0"), b}, {matrix("1"), b}, {b, b}} {
			got, e := linear.Move(one, x[0], x[1])
			wantInfoError(t, got, e, api.ErrShape, b)
		}
	}
	for _, b := range badInfos() {
		for _, m := range []api.Matrix{{}, matrix("0"), zeros(2, 2)} {
			got, e := linear.Move(b, m, m)
			wantInfoError(t, got, e, api.ErrShape, b)
		}
	}
	long := api.Info{N: diagonal(64, "1"), R: sized(64, 1), C: ratio("0")}
	got, e := linear.Move(long, diagonal(64, "2"), diagonal(64, "1"))
	wantOK(t, e)
	wantMatrix(t, got.N, diagonal(64, "1/5"))
}

// block returns the matrix of the equations of Constrain.
func block(n, a api.Matrix) api.Matrix {
	return turned(joined(turned(joined(n, turned(a))), turned(joined(a, zeros(a.Rows, a.Rows)))))
}

func TestConstrain(t *testing.T) {
	s := newSource()
	for range 150 {
		n, rows := s.Intn(4), s.Intn(4)
		f, a, b := s.info(n), s.ranked(rows, n, s.Intn(4)), s.matrix(rows, 1)
		right := turned(joined(turned(f.R), turned(b)))
		m, is := inverse(block(f.N, a))
		if !is {
			result(linear.Constrain(f, a, b)).wantError(t, api.ErrSingular, text(f.N), text(a), text(b))
			continue
		}
		both := times(m, right)
		x, factors := part(both, upTo(n), []int{0}), part(both, upTo(n + rows)[n:], []int{0})
		for range 2 {
			result(linear.Constrain(f, a, b)).want(t, x, factors, ofRat(sumOf(f, x)), text(f.N), text(a), text(b))
			f, a, b = looseInfo(f), looseMatrix(a), looseMatrix(b)
		}
	}
}

func TestConstrainCases(t *testing.T) {
	plain := info("1 0, 0 1", "1 2", "5", 2)
	nothing := info("0 0, 0 0", "0 0", "3", 0)
	none := api.Matrix{Cols: 1}
	result(linear.Constrain(plain, matrix("1 1"), column("1"))).want(t, column("0 1"), column("1"), ratio("2"))
	result(linear.Constrain(plain, api.Matrix{Cols: 2}, none)).want(t, column("1 2"), none, ratio("0"))
	result(linear.Constrain(nothing, identity(2), column("4 5"))).want(t, column("4 5"), column("0 0"), ratio("3"))
	result(linear.Constrain(api.Info{R: none, C: ratio("3")}, api.Matrix{}, none)).want(t, none, none, ratio("3"))
	for _, x := range []struct {
		f    api.Info
		a, b api.Matrix
		e    api.Errno
	}{
		{plain, matrix("1 1, 1 1"), column("1 2"), api.ErrSingular}, {plain, matrix("1 1, 1 1"), column("1 1"), api.ErrSingular}, {plain, matrix("1 1, 2 2"), column("1 2"), api.ErrSingular}, {plain, matrix("0 0"), column("0"), api.ErrSingular}, {plain, matrix("0 0"), column("1"), api.ErrSingular}, {plain, sized(3, 2), column("1 2 3"), api.ErrSingular},
		{nothing, matrix("1 1"), column("1"), api.ErrSingular}, {nothing, api.Matrix{Cols: 2}, none, api.ErrSingular}, {api.Info{R: none}, api.Matrix{Rows: 1}, column("0"), api.ErrSingular},
		{plain, matrix("1"), column("1"), api.ErrShape}, {plain, matrix("1 1 1"), column("1"), api.ErrShape}, {plain, matrix("1, 1"), column("1 1"), api.ErrShape}, {plain, matrix("1 1"), column("1 2"), api.ErrShape}, {plain, matrix("1 1"), none, api.ErrShape}, {plain, matrix("1 1"), matrix("1 2"), api.ErrShape}, {plain, matrix("1 1, 1 1"), matrix("1 2"), api.ErrShape}, {plain, matrix("1 1"), api.Matrix{Rows: 1}, api.ErrShape}, {plain, api.Matrix{Rows: 1}, column("1"), api.ErrShape}, {plain, api.Matrix{Cols: 2}, api.Matrix{}, api.ErrShape},
		{plain, sized(63, 2), sized(63, 1), api.ErrShape}, {plain, sized(62, 2), sized(62, 1), api.ErrSingular}, {api.Info{R: none}, api.Matrix{Rows: 64}, zeros(64, 1), api.ErrSingular},
	} {
		result(linear.Constrain(x.f, x.a, x.b)).wantError(t, x.e, text(x.f.N), text(x.a), text(x.b))
	}
	for _, b := range badMatrices() {
		result(linear.Constrain(plain, b, column("1"))).wantError(t, api.ErrShape, b)
		result(linear.Constrain(plain, matrix("0 0"), b)).wantError(t, api.ErrShape, b)
		result(linear.Constrain(plain, api.Matrix{Cols: 2}, b)).wantError(t, api.ErrShape, b)
		result(linear.Constrain(plain, b, b)).wantError(t, api.ErrShape, b)
	}
	for _, b := range badInfos() {
		result(linear.Constrain(b, matrix("0"), column("1"))).wantError(t, api.ErrShape, b)
		result(linear.Constrain(b, api.Matrix{Cols: b.N.Rows}, none)).wantError(t, api.ErrShape, b)
	}
	// 32 parameters and 32 constraints are as many as may be.
	long := api.Info{N: identity(32), R: zeros(32, 1), C: ratio("0")}
	result(linear.Constrain(long, identity(32), sized(32, 1))).want(t, sized(32, 1), minus(zeros(32, 1), sized(32, 1)), ofRat(sumOf(long, sized(32, 1))))
	result(linear.Constrain(api.Info{N: diagonal(64, "2"), R: sized(64, 1), C: ratio("0")}, api.Matrix{Cols: 64}, none)).want(t, times(diagonal(64, "1/2"), sized(64, 1)), none, ofRat(big.NewRat(-44720, 1)))
}
