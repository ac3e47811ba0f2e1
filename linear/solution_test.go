package linear_test

import (
	"math/big"
	"slices"
	"testing"

	"hodoscope/api"
	"hodoscope/linear"
)

// isEchelon reports whether form is a reduced echelon form with these pivots.
func isEchelon(form api.Matrix, pivots []int) bool {
	last := -1
	for i := range form.Rows {
		if i >= len(pivots) {
			for j := range form.Cols {
				if at(form, i, j).Sign() != 0 {
					return false
				}
			}
			continue
		}
		p := pivots[i]
		if p <= last || p >= form.Cols {
			return false
		}
		last = p
		for j := range p {
			if at(form, i, j).Sign() != 0 {
				return false
			}
		}
		column := part(form, upTo(form.Rows), []int{p})
		if text(column) != text(part(identity(form.Rows), upTo(form.Rows), []int{i})) {
			return false
		}
	}
	return len(pivots) <= form.Rows
}

// small returns matrices of all sizes up to 4 by 5, many of them of a low rank, and with columns of zeros.
func small(s source) []api.Matrix {
	var l []api.Matrix
	for rows := range 5 {
		for cols := range 6 {
			for rank := range 5 {
				m := s.ranked(rows, cols, rank)
				l = append(l, m, s.matrix(rows, cols))
				if cols > 1 {
					m := s.matrix(rows, cols)
					for i := range rows {
						m.Cells[i*cols] = ratio("0")
						m.Cells[i*cols+cols/2] = ratio("0")
					}
					l = append(l, m)
				}
			}
		}
	}
	return l
}

func TestReduce(t *testing.T) {
	for _, m := range small(newSource()) {
		form, pivots, e := linear.Reduce(m)
		wantOK(t, e)
		if form.Rows != m.Rows || form.Cols != m.Cols || len(form.Cells) != len(m.Cells) || !isEchelon(form, pivots) {
			t.Error(text(m), "to", text(form), pivots)
			continue
		}
		rank := rankOf(m)
		n, e := linear.Rank(m)
		if len(pivots) != rank || n != rank || e != api.OK {
			t.Error(text(m), pivots, n, rank)
		}
		// m is its columns of the pivots, times the form: so both have the same solutions.
		base := part(m, upTo(m.Rows), pivots)
		wantMatrix(t, times(base, part(form, upTo(rank), upTo(m.Cols))), m, text(m), text(form))
		wantMatrix(t, form, form, text(m))
		again, more, e := linear.Reduce(looseMatrix(m))
		wantOK(t, e)
		wantMatrix(t, again, form, "loose", text(m))
		if !slices.Equal(more, pivots) {
			t.Error(text(m), pivots, more)
		}
	}
}

func TestReduceCases(t *testing.T) {
	for _, x := range []struct {
		m, form string
		pivots  []int
	}{
		{"1 2 3, 2 4 7", "1 2 0, 0 0 1", []int{0, 2}},
		{"0 0 2 4, 0 0 1 3", "0 0 1 0, 0 0 0 1", []int{2, 3}},
		{"0 0, 0 0", "0 0, 0 0", nil},
		{"0 0, 0 3, 0 0", "0 1, 0 0, 0 0", []int{1}},
		{"0 -2, 0 3, 5 0", "1 0, 0 1, 0 0", []int{0, 1}},
		{"-2 4", "1 -2", []int{0}},
		{"1/2 1/3 0, 1/4 1/6 1/7", "1 2/3 0, 0 0 1", []int{0, 2}},
		{"0", "0", nil},
		{"7", "1", []int{0}},
		{"", "", nil},
	} {
		form, pivots, e := linear.Reduce(matrix(x.m))
		wantOK(t, e)
		wantMatrix(t, form, matrix(x.form), x.m)
		if !slices.Equal(pivots, x.pivots) {
			t.Error(x.m, pivots)
		}
	}
	for _, m := range []api.Matrix{{Rows: 3}, {Cols: 3}, {Rows: 64}, {Cols: 64}} {
		form, pivots, e := linear.Reduce(m)
		wantOK(t, e)
		wantMatrix(t, form, m)
		if len(pivots) > 0 {
			t.Error(m, pivots)
		}
	}
}

func TestNull(t *testing.T) {
	for _, m := range small(newSource()) {
		null, e := linear.Null(m)
		wantOK(t, e)
		_, pivots, _ := linear.Reduce(m)
		free := without(m.Cols, pivots...)
		if null.Rows != m.Cols || null.Cols != len(free) {
			t.Error(text(m), null.Rows, null.Cols)
			continue
		}
		wantMatrix(t, part(null, free, upTo(len(free))), identity(len(free)), text(m))
		wantMatrix(t, times(m, null), zeros(m.Rows, len(free)), text(m))
		wantMatrix(t, null, null, text(m))
		again, e := linear.Null(looseMatrix(m))
		wantOK(t, e)
		wantMatrix(t, again, null, "loose", text(m))
	}
	for _, x := range []struct{ m, want api.Matrix }{
		{matrix("1 2 3, 2 4 7"), column("-2 1 0")},
		{matrix("1 0, 0 1"), api.Matrix{Rows: 2}},
		{matrix("0 0"), identity(2)},
		{api.Matrix{Cols: 3}, identity(3)},
		{api.Matrix{Rows: 3}, api.Matrix{}},
		{api.Matrix{}, api.Matrix{}},
		{api.Matrix{Cols: 64}, identity(64)},
		{matrix("0 2 0 4 1"), matrix("1 0 0 0, 0 0 -2 -1/2, 0 1 0 0, 0 0 1 0, 0 0 0 1")},
	} {
		null, e := linear.Null(x.m)
		wantOK(t, e)
		wantMatrix(t, null, x.want, text(x.m))
	}
}

// squares returns matrices up to 4 by 4 of all kinds.
func squares(s source) []api.Matrix {
	var l []api.Matrix
	for n := range 5 {
		for rank := range 5 {
			l = append(l, s.ranked(n, n, rank), s.matrix(n, n), s.symmetric(n), s.semidefinite(n, rank), s.definite(n))
		}
	}
	return l
}

func TestSquare(t *testing.T) {
	for _, m := range squares(newSource()) {
		for _, n := range []api.Matrix{m, looseMatrix(m)} {
			d, e := linear.Det(n)
			wantOK(t, e)
			wantRatio(t, d, ofRat(determinant(m)), text(m))
			got, e := linear.Inverse(n)
			if want, is := inverse(m); is {
				wantOK(t, e, text(m))
				wantMatrix(t, got, want, text(m))
			} else {
				wantMatrixError(t, got, e, api.ErrSingular, text(m))
			}
			kind, e := linear.Definite(n)
			if want := definiteness(m); kind != want || e != api.OK {
				t.Error(text(m), kind, e, want)
			}
		}
	}
}

func TestDet(t *testing.T) {
	for _, x := range []struct{ m, d string }{
		{"", "1"}, {"0", "0"}, {"-3", "-3"}, {"1 2, 3 4", "-2"}, {"0 1, 1 0", "-1"}, {"0 0 1, 1 0 0, 0 1 0", "1"}, {"0 0 1, 0 1 0, 1 0 0", "-1"},
		{"0 0 0 1, 0 0 1 0, 0 1 0 0, 1 0 0 0", "1"}, {"0 1 0 0, 0 0 1 0, 0 0 0 1, 1 0 0 0", "-1"}, {"1 2, 2 4", "0"}, {"0 1, 0 2", "0"}, {"1 2 3, 4 5 6, 7 8 9", "0"}, {"1/2 0, 0 -1/3", "-1/6"}, {"1 1 1, 1 1 2, 1 2 1", "-1"},
	} {
		d, e := linear.Det(matrix(x.m))
		wantOK(t, e)
		wantRatio(t, d, ratio(x.d), x.m)
	}
}

func TestDefinite(t *testing.T) {
	for _, x := range []struct {
		m    string
		kind int
	}{
		{"", 2}, {"0", 1}, {"1", 2}, {"-1", 0}, {"2 1, 1 2", 2}, {"1 1, 1 1", 1}, {"1 2, 2 1", 0}, {"1 0, 1 1", 0}, {"0 1, 1 0", 0}, {"0 0, 0 0", 1}, {"0 0, 0 1", 1}, {"0 0, 0 -1", 0}, {"0 1, 1 5", 0}, {"5 1, 1 0", 0}, {"0 0 0, 0 1 1, 0 1 1", 1}, {"0 0 0, 0 1 2, 0 2 1", 0}, {"1 0 1, 0 0 0, 1 0 1", 1}, {"1 0 1, 0 0 1, 1 1 1", 0}, {"1 0 0, 0 0 1, 0 1 0", 0}, {"0 0 1, 0 1 0, 1 0 0", 0}, {"0 0 0, 0 0 1, 0 1 0", 0}, {"1/3 1/2, 1/2 3/4", 1}, {"1/3 1/2, 1/2 4/5", 2}, {"-1 0, 0 -1", 0}, {"2 1, 1 2/4", 1}, {"1 1 0, 1 1 1, 0 1 1", 0}, {"4 2 0, 2 1 0, 0 0 3", 1},
	} {
		kind, e := linear.Definite(matrix(x.m))
		if kind != x.kind || e != api.OK {
			t.Error(x.m, kind, e)
		}
	}
}

func TestSolve(t *testing.T) {
	s := newSource()
	for range 300 {
		rows, cols, right := s.Intn(5), s.Intn(4), s.Intn(4)
		a, b := s.ranked(rows, cols, s.Intn(5)), s.matrix(rows, right)
		if s.Intn(3) > 0 {
			b = times(a, s.matrix(cols, right))
		}
		x, e := linear.Solve(a, b)
		if rank := rankOf(a); rank != cols || rankOf(joined(a, b)) != rank {
			wantMatrixError(t, x, e, api.ErrSingular, text(a), text(b))
			continue
		}
		wantOK(t, e, text(a), text(b))
		if x.Rows != cols || x.Cols != right {
			t.Fatal(x)
		}
		wantMatrix(t, x, x)
		wantMatrix(t, times(a, x), b, text(a), text(b))
		again, e := linear.Solve(looseMatrix(a), looseMatrix(b))
		wantOK(t, e)
		wantMatrix(t, again, x, "loose")
	}
}

func TestSolveCases(t *testing.T) {
	for _, x := range []struct {
		a, b, x api.Matrix
		e       api.Errno
	}{
		{column("1 2 3"), column("2 4 6"), column("2"), api.OK},
		{column("1 2 3"), column("2 4 7"), api.Matrix{}, api.ErrSingular},
		{column("1 2 3"), matrix("2 0, 4 0, 6 1"), api.Matrix{}, api.ErrSingular},
		{column("1 2 3"), matrix("2 1, 4 2, 6 3"), matrix("2 1"), api.OK},
		{matrix("1 1"), column("3"), api.Matrix{}, api.ErrSingular},
		{matrix("0 1, 0 2"), column("1 2"), api.Matrix{}, api.ErrSingular},
		{matrix("1 2, 2 4"), column("1 2"), api.Matrix{}, api.ErrSingular},
		{matrix("1 2, 2 4"), column("1 3"), api.Matrix{}, api.ErrSingular},
		{matrix("0 2, 3 0"), column("4 9"), column("3 2"), api.OK},
		{matrix("1 2 0, 2 4 0, 0 0 1"), column("1 2 3"), api.Matrix{}, api.ErrSingular},
		{matrix("1 0, 0 0, 0 1"), column("5 0 6"), column("5 6"), api.OK},
		{matrix("1 0, 0 0, 0 1"), column("5 1 6"), api.Matrix{}, api.ErrSingular},
		{api.Matrix{}, api.Matrix{}, api.Matrix{}, api.OK},
		{api.Matrix{}, api.Matrix{Cols: 4}, api.Matrix{Cols: 4}, api.OK},
		{api.Matrix{Cols: 1}, api.Matrix{Cols: 1}, api.Matrix{}, api.ErrSingular},
		{api.Matrix{Rows: 2}, zeros(2, 3), api.Matrix{Cols: 3}, api.OK},
		{api.Matrix{Rows: 2}, matrix("0 0 0, 0 0 1"), api.Matrix{}, api.ErrSingular},
		{api.Matrix{Rows: 2}, api.Matrix{Rows: 2}, api.Matrix{}, api.OK},
		{matrix("2 0, 0 1"), api.Matrix{Rows: 2}, api.Matrix{Rows: 2}, api.OK},
		{matrix("1 1, 1 1"), api.Matrix{Rows: 2}, api.Matrix{}, api.ErrSingular},
		{identity(64), sized(64, 64), sized(64, 64), api.OK},
		{diagonal(64, "-1/3"), sized(64, 1), times(diagonal(64, "-3"), sized(64, 1)), api.OK},
		{matrix("1 2, 3 4"), matrix("1 2"), api.Matrix{}, api.ErrShape},
		{matrix("1 1, 1 1"), column("1 2 3"), api.Matrix{}, api.ErrShape},
		{api.Matrix{Rows: 2}, api.Matrix{Rows: 3}, api.Matrix{}, api.ErrShape},
	} {
		got, e := linear.Solve(x.a, x.b)
		if x.e != api.OK {
			wantMatrixError(t, got, e, x.e, text(x.a), text(x.b))
			continue
		}
		wantOK(t, e, text(x.a), text(x.b))
		wantMatrix(t, got, x.x, text(x.a), text(x.b))
	}
}

// leastSum returns the sum of w[i] times the square of row i of a x - b.
func leastSum(a, x, b api.Matrix, w []api.Ratio) *big.Rat {
	d := minus(times(a, x), b)
	sum := new(big.Rat)
	for i, r := range w {
		square := new(big.Rat).Mul(at(d, i, 0), at(d, i, 0))
		sum.Add(sum, square.Mul(square, bigRat(r)))
	}
	return sum
}

func TestLeastSquares(t *testing.T) {
	s := newSource()
	for range 150 {
		rows, cols := s.Intn(6), s.Intn(4)
		a, b := s.ranked(rows, cols, s.Intn(5)), s.matrix(rows, 1)
		var w []api.Ratio
		for range rows {
			w = append(w, s.positive())
		}
		diagonal := laid(rows, rows, func(i, j int) *big.Rat {
			if i == j {
				return bigRat(w[i])
			}
			return new(big.Rat)
		})
		heavy := times(turned(a), diagonal)
		cov, is := inverse(times(heavy, a))
		got := result(linear.LeastSquares(a, b, w))
		if !is {
			got.wantError(t, api.ErrSingular, text(a))
			continue
		}
		x := times(cov, times(heavy, b))
		got.want(t, x, cov, ofRat(leastSum(a, x, b, w)), text(a), text(b))
		result(linear.LeastSquares(looseMatrix(a), looseMatrix(b), looseRatios(w))).want(t, x, cov, got.chi, "loose", text(a))
		other := plus(x, s.matrix(cols, 1))
		if text(other) != text(x) && leastSum(a, other, b, w).Cmp(bigRat(got.chi)) <= 0 {
			t.Error(text(a), text(b), text(x), "not least")
		}
	}
}

func TestLeastSquaresCases(t *testing.T) {
	none, ones := api.Matrix{}, ratios("1 1 1")
	line := matrix("1 0, 1 1, 1 2")
	result(linear.LeastSquares(line, column("0 1 5"), ones)).want(t, column("-1/2 5/2"), matrix("5/6 -1/2, -1/2 1/2"), ratio("3/2"))
	result(linear.LeastSquares(column("1 1"), column("0 3"), ratios("2 1"))).want(t, column("1"), matrix("1/3"), ratio("6"))
	result(linear.LeastSquares(none, api.Matrix{Cols: 1}, nil)).want(t, api.Matrix{Cols: 1}, none, ratio("0"))
	result(linear.LeastSquares(api.Matrix{Rows: 2}, column("1 3"), ratios("1 1/3"))).want(t, api.Matrix{Cols: 1}, none, ratio("4"))
	result(linear.LeastSquares(identity(64), sized(64, 1), looseRatios(make([]api.Ratio, 64)))).wantError(t, api.ErrWeight)
	for _, x := range []struct {
		a, b api.Matrix
		w    []api.Ratio
		e    api.Errno
	}{
		{line, column("0 1"), ones, api.ErrShape}, {line, column("0 1 5 6"), ones, api.ErrShape}, {line, matrix("0 1 5"), ones, api.ErrShape}, {line, sized(3, 2), ones, api.ErrShape}, {line, api.Matrix{Rows: 3}, ones, api.ErrShape},
		{line, column("0 1 5"), ones[:2], api.ErrShape}, {line, column("0 1 5"), ratios("1 1 1 1"), api.ErrShape}, {line, column("0 1 5"), nil, api.ErrShape}, {none, none, nil, api.ErrShape},
		{line, column("0 1 5"), ratios("1 0 1"), api.ErrWeight}, {line, column("0 1 5"), ratios("1 1 -1"), api.ErrWeight}, {line, column("0 1 5"), ratios("-1/2 1 1"), api.ErrWeight},
		{line, column("0 1 5"), append(ratios("1 1"), api.Ratio{Num: ratio("1").Num}), api.ErrWeight}, {line, column("0 1 5"), append(ratios("1 1"), looseRatio(ratio("-3"))), api.ErrWeight},
		{line, column("0 1"), ratios("1 0 1"), api.ErrShape}, {matrix("1 1, 2 2, 3 3"), column("0 1 5"), ratios("1 0 1"), api.ErrWeight},
		{matrix("1 1, 2 2, 3 3"), column("0 1 5"), ones, api.ErrSingular}, {matrix("1 1"), column("0"), ones[:1], api.ErrSingular}, {api.Matrix{Cols: 1}, api.Matrix{Cols: 1}, nil, api.ErrSingular}, {matrix("0, 0, 0"), column("0 0 0"), ones, api.ErrSingular},
	} {
		result(linear.LeastSquares(x.a, x.b, x.w)).wantError(t, x.e, text(x.a), text(x.b))
	}
	for _, b := range badMatrices() {
		result(linear.LeastSquares(b, column("0"), ratios("0"))).wantError(t, api.ErrShape, b)
		result(linear.LeastSquares(matrix("0"), b, ratios("0"))).wantError(t, api.ErrShape, b)
		result(linear.LeastSquares(none, b, nil)).wantError(t, api.ErrShape, b)
		result(linear.LeastSquares(b, b, nil)).wantError(t, api.ErrShape, b)
	}
}

// TestLargest solves what has MaxOrder rows and columns.
func TestLargest(t *testing.T) {
	n := api.MaxOrder
	// The matrix of the least of two numbers has a known inverse, and the determinant 1.
	m := laid(n, n, func(i, j int) *big.Rat { return big.NewRat(int64(min(i, j)+1), 1) })
	want := laid(n, n, func(i, j int) *big.Rat {
		switch {
		case i == j && i == n-1:
			return big.NewRat(1, 1)
		case i == j:
			return big.NewRat(2, 1)
		case i-j == 1 || j-i == 1:
			return big.NewRat(-1, 1)
		}
		return new(big.Rat)
	})
	got, e := linear.Inverse(m)
	wantOK(t, e)
	wantMatrix(t, got, want)
	d, e := linear.Det(m)
	wantOK(t, e)
	wantRatio(t, d, ratio("1"))
	kind, e := linear.Definite(m)
	rank, _ := linear.Rank(m)
	if kind != 2 || e != api.OK || rank != n {
		t.Error(kind, e, rank)
	}
	var ones []api.Ratio
	for range n {
		ones = append(ones, ratio("1"))
	}
	b := sized(n, 1)
	result(linear.LeastSquares(m, b, ones)).want(t, times(want, b), times(want, want), ratio("0"))
	low := sized(n, n)
	if rank, e := linear.Rank(low); rank != 2 || e != api.OK {
		t.Error(rank, e)
	}
	null, e := linear.Null(low)
	wantOK(t, e)
	if null.Rows != n || null.Cols != n-2 {
		t.Error(null.Rows, null.Cols)
	}
	wantMatrix(t, times(low, null), zeros(n, n-2))
	_, e = linear.Inverse(low)
	if e != api.ErrSingular {
		t.Error(e)
	}
}

// TestLargestOrdinary has a matrix without any pattern: it takes too long if numbers grow by more than they must with each step.
func TestLargestOrdinary(t *testing.T) {
	n, s := api.MaxOrder, newSource()
	m := laid(n, n, func(i, j int) *big.Rat { return big.NewRat(s.Int63n(201)-100, 1+s.Int63n(3)) })
	got, e := linear.Inverse(m)
	wantOK(t, e)
	one, e := linear.Mul(m, got)
	wantOK(t, e)
	wantMatrix(t, one, identity(n))
	d, e := linear.Det(m)
	wantOK(t, e)
	back, e := linear.Det(got)
	wantOK(t, e)
	wantRatio(t, ofRat(new(big.Rat).Inv(bigRat(d))), back)
}

// TestLong inverts matrices of ratios with long numerators and denominators.
func TestLong(t *testing.T) {
	n := 12
	hilbert := laid(n, n, func(i, j int) *big.Rat { return big.NewRat(1, int64(i+j+1)) })
	got, e := linear.Inverse(hilbert)
	wantOK(t, e)
	wantMatrix(t, times(hilbert, got), identity(n))
	s := newSource()
	long := laid(n, n, func(i, j int) *big.Rat {
		return new(big.Rat).SetFrac(new(big.Int).Lsh(big.NewInt(s.Int63()-1<<62), uint(s.Intn(100))), new(big.Int).Lsh(big.NewInt(s.Int63()|1), uint(s.Intn(100))))
	})
	got, e = linear.Inverse(long)
	wantOK(t, e)
	wantMatrix(t, times(long, got), identity(n))
	wantMatrix(t, got, got)
}
