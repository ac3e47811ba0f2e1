package linear_test

import (
	"math/big"
	"testing"

	"hodoscope/api"
	"hodoscope/linear"
)

func goodMatrices() []api.Matrix {
	return []api.Matrix{{}, {Cells: []api.Ratio{}}, {Rows: 64}, {Cols: 64}, sized(1, 1), sized(2, 3), sized(64, 1), sized(1, 64), sized(64, 64), looseMatrix(sized(3, 2))}
}

func TestCheck(t *testing.T) {
	for _, m := range goodMatrices() {
		wantOK(t, linear.Check(m), m.Rows, m.Cols)
	}
	for _, m := range badMatrices() {
		if e := linear.Check(m); e != api.ErrShape {
			t.Errorf("%v: %v", m, e)
		}
	}
}

func TestMake(t *testing.T) {
	m, e := linear.Make(2, 3, 1, -2, 0, 1<<63-1, -1<<63, 6)
	wantOK(t, e)
	wantMatrix(t, m, matrix("1 -2 0, 9223372036854775807 -9223372036854775808 6"))
	for _, size := range [][2]int{{0, 0}, {0, 64}, {64, 0}, {0, 3}, {1, 64}, {64, 64}} {
		cells := make([]int64, size[0]*size[1])
		m, e := linear.Make(size[0], size[1], cells...)
		wantOK(t, e)
		wantMatrix(t, m, zeros(size[0], size[1]), size)
	}
	for _, x := range []struct {
		rows, cols int
		cells      []int64
	}{
		{1, 1, nil}, {1, 1, []int64{1, 2}}, {2, 2, []int64{1, 2, 3}}, {0, 0, []int64{1}}, {0, 2, []int64{1, 2}},
		{-1, -1, []int64{1}}, {-1, 0, nil}, {0, -1, nil}, {65, 0, nil}, {0, 65, nil}, {65, 1, make([]int64, 65)}, {1, 65, make([]int64, 65)},
		{1 << 32, 1 << 32, nil}, {1 << 62, 4, nil}, {-1 << 63, 2, nil},
	} {
		m, e := linear.Make(x.rows, x.cols, x.cells...)
		wantMatrixError(t, m, e, api.ErrShape, x.rows, x.cols)
	}
}

func TestIdentity(t *testing.T) {
	for _, n := range []int{0, 1, 2, 5, 64} {
		m, e := linear.Identity(n)
		wantOK(t, e)
		wantMatrix(t, m, identity(n), n)
	}
	for _, n := range []int{-1, 65, 1 << 40, -1 << 63, 1 << 32} {
		m, e := linear.Identity(n)
		wantMatrixError(t, m, e, api.ErrShape, n)
	}
}

func TestCell(t *testing.T) {
	m := newSource().matrix(3, 4)
	for i := range 3 {
		for j := range 4 {
			for _, n := range []api.Matrix{m, looseMatrix(m)} {
				r, e := linear.Cell(n, i, j)
				wantOK(t, e)
				wantRatio(t, r, ofRat(at(m, i, j)), i, j)
			}
		}
	}
	for _, x := range [][2]int{{-1, 0}, {0, -1}, {3, 0}, {0, 4}, {2, 4}, {3, 3}, {1 << 62, 4}, {-1 << 63, 0}, {1, -1}} {
		r, e := linear.Cell(m, x[0], x[1])
		if e != api.ErrRange || !isZeroRatio(r) {
			t.Error(x, r, e)
		}
	}
	for _, m := range []api.Matrix{{}, {Rows: 2}, {Cols: 2}} {
		if r, e := linear.Cell(m, 0, 0); e != api.ErrRange || !isZeroRatio(r) {
			t.Error(m, r, e)
		}
	}
	for _, m := range badMatrices() {
		for _, i := range []int{0, 7} {
			if r, e := linear.Cell(m, i, 0); e != api.ErrShape || !isZeroRatio(r) {
				t.Error(m, r, e)
			}
		}
	}
}

func TestSame(t *testing.T) {
	m := matrix("1 0, 1/2 -3")
	for _, x := range []struct {
		a, b api.Matrix
		is   bool
	}{
		{m, m, true}, {m, looseMatrix(m), true}, {looseMatrix(m), m, true}, {api.Matrix{}, api.Matrix{Cells: []api.Ratio{}}, true},
		{api.Matrix{Cols: 3}, api.Matrix{Cols: 3}, true}, {api.Matrix{Cols: 3}, api.Matrix{Rows: 3}, false}, {api.Matrix{Cols: 3}, api.Matrix{Cols: 2}, false},
		{m, matrix("1 0, 1/2 3"), false}, {m, matrix("1 0, 1/2 -4"), false}, {m, matrix("2 0, 1/2 -3"), false}, {m, matrix("1 0 1/2 -3"), false}, {m, matrix("1 0"), false}, {matrix("1 0"), m, false},
		{sized(64, 64), sized(64, 64), true}, {turned(m), m, false},
	} {
		if linear.Same(x.a, x.b) != x.is {
			t.Error(text(x.a), "and", text(x.b))
		}
	}
	for _, b := range badMatrices() {
		for _, good := range []api.Matrix{m, matrix("1"), matrix("1 1, 1 1"), {}} {
			if linear.Same(b, b) || linear.Same(b, good) || linear.Same(good, b) {
				t.Error(b, text(good))
			}
		}
	}
}

// pairs are sizes at which sums and products begin and end.
func pairs() [][3]int {
	return [][3]int{{0, 0, 0}, {0, 3, 2}, {3, 0, 2}, {3, 2, 0}, {1, 1, 1}, {2, 3, 4}, {4, 3, 2}, {5, 1, 5}, {1, 5, 1}, {64, 2, 64}, {2, 64, 2}}
}

func TestAddScale(t *testing.T) {
	s := newSource()
	for _, size := range pairs() {
		a, b, r := s.matrix(size[0], size[1]), s.matrix(size[0], size[1]), ofRat(s.number())
		want := laid(a.Rows, a.Cols, func(i, j int) *big.Rat { return new(big.Rat).Mul(at(a, i, j), bigRat(r)) })
		for range 2 {
			sum, e := linear.Add(a, b)
			wantOK(t, e)
			wantMatrix(t, sum, plus(a, b), size)
			m, e := linear.Scale(a, r)
			wantOK(t, e)
			wantMatrix(t, m, want, size)
			a, b, r = looseMatrix(a), looseMatrix(b), looseRatio(r)
		}
	}
	for _, x := range [][2]api.Matrix{{sized(2, 3), sized(3, 2)}, {sized(2, 3), sized(2, 2)}, {sized(2, 3), sized(1, 3)}, {sized(6, 1), sized(2, 3)}, {{Rows: 2}, {Rows: 3}}, {{Rows: 2}, {Cols: 2}}} {
		m, e := linear.Add(x[0], x[1])
		wantMatrixError(t, m, e, api.ErrShape, text(x[0]), text(x[1]))
	}
}

func TestMul(t *testing.T) {
	s := newSource()
	for _, size := range pairs() {
		a, b := s.matrix(size[0], size[1]), s.matrix(size[1], size[2])
		for range 2 {
			m, e := linear.Mul(a, b)
			wantOK(t, e)
			wantMatrix(t, m, times(a, b), size)
			a, b = looseMatrix(a), looseMatrix(b)
		}
	}
	for _, x := range [][2]api.Matrix{{sized(2, 3), sized(2, 3)}, {sized(2, 3), sized(2, 2)}, {{Rows: 2}, {Cols: 3, Rows: 1, Cells: ratios("1 1 1")}}, {sized(3, 2), sized(3, 2)}} {
		m, e := linear.Mul(x[0], x[1])
		wantMatrixError(t, m, e, api.ErrShape, text(x[0]), text(x[1]))
	}
}

func TestTranspose(t *testing.T) {
	s := newSource()
	for _, size := range pairs() {
		m := s.matrix(size[0], size[1])
		for _, n := range []api.Matrix{m, looseMatrix(m)} {
			got, e := linear.Transpose(n)
			wantOK(t, e)
			wantMatrix(t, got, turned(m), size)
		}
	}
}

func TestPick(t *testing.T) {
	m := newSource().matrix(3, 4)
	long := make([]int, 64)
	for _, x := range [][2][]int{{{0, 1, 2}, {0, 1, 2, 3}}, {{2, 0}, {3, 1, 1}}, {{1, 1, 1, 1}, {0}}, {nil, {1, 2}}, {{2}, nil}, {nil, nil}, {{}, {}}, {long, long}} {
		for _, n := range []api.Matrix{m, looseMatrix(m)} {
			got, e := linear.Pick(n, x[0], x[1])
			wantOK(t, e)
			wantMatrix(t, got, part(m, x[0], x[1]), x)
		}
	}
	for _, x := range []struct {
		rows, cols []int
		e          api.Errno
	}{
		{[]int{3}, nil, api.ErrRange}, {[]int{-1}, nil, api.ErrRange}, {nil, []int{4}, api.ErrRange}, {nil, []int{-1}, api.ErrRange}, {[]int{0, 3}, []int{0}, api.ErrRange}, {[]int{0}, []int{3, 4}, api.ErrRange}, {[]int{0}, []int{-1 << 63}, api.ErrRange}, {[]int{1<<63 - 1}, []int{0}, api.ErrRange},
		{append(long, 0), nil, api.ErrLong}, {nil, append(long, 0), api.ErrLong}, {append(long, 0), append(long, 0), api.ErrLong},
		{append(long, 3), nil, api.ErrRange}, {append(long, 0), []int{4}, api.ErrRange}, {[]int{-1}, append(long, 0), api.ErrRange},
	} {
		got, e := linear.Pick(m, x.rows, x.cols)
		wantMatrixError(t, got, e, x.e, x.rows, x.cols)
	}
	got, e := linear.Pick(api.Matrix{Cols: 2}, []int{0}, nil)
	wantMatrixError(t, got, e, api.ErrRange)
	for _, b := range badMatrices() {
		got, e := linear.Pick(b, []int{9}, append(long, 0))
		wantMatrixError(t, got, e, api.ErrShape, b)
	}
}

func TestStack(t *testing.T) {
	s := newSource()
	for _, x := range [][3]int{{1, 2, 3}, {0, 2, 3}, {2, 0, 3}, {0, 0, 3}, {0, 0, 0}, {2, 3, 0}, {32, 32, 2}, {64, 0, 1}, {0, 64, 1}, {60, 4, 0}} {
		a, b := s.matrix(x[0], x[2]), s.matrix(x[1], x[2])
		want := turned(joined(turned(a), turned(b)))
		for range 2 {
			got, e := linear.Stack(a, b)
			wantOK(t, e)
			wantMatrix(t, got, want, x)
			a, b = looseMatrix(a), looseMatrix(b)
		}
	}
	for _, x := range []struct {
		a, b api.Matrix
		e    api.Errno
	}{
		{sized(2, 3), sized(3, 2), api.ErrShape}, {api.Matrix{Cols: 1}, api.Matrix{}, api.ErrShape}, {sized(64, 1), sized(64, 2), api.ErrShape},
		{sized(33, 2), sized(32, 2), api.ErrLong}, {api.Matrix{Rows: 64}, api.Matrix{Rows: 1}, api.ErrLong}, {sized(1, 1), sized(64, 1), api.ErrLong},
	} {
		got, e := linear.Stack(x.a, x.b)
		wantMatrixError(t, got, e, x.e, x.a.Rows, x.b.Rows)
	}
}

// TestShapes calls all functions that take one matrix, or two, with matrices that are not valid.
func TestShapes(t *testing.T) {
	one := map[string]func(m api.Matrix) (api.Matrix, api.Errno){
		"Scale":     func(m api.Matrix) (api.Matrix, api.Errno) { return linear.Scale(m, ratio("2")) },
		"Transpose": linear.Transpose, "Inverse": linear.Inverse, "Null": linear.Null,
		"Reduce": func(m api.Matrix) (api.Matrix, api.Errno) {
			form, pivots, e := linear.Reduce(m)
			if len(pivots) > 0 {
				t.Error("Reduce", m, pivots)
			}
			return form, e
		},
		"Rank": func(m api.Matrix) (api.Matrix, api.Errno) {
			n, e := linear.Rank(m)
			return api.Matrix{Rows: n}, e
		},
		"Definite": func(m api.Matrix) (api.Matrix, api.Errno) {
			n, e := linear.Definite(m)
			return api.Matrix{Rows: n}, e
		},
		"Det": func(m api.Matrix) (api.Matrix, api.Errno) {
			r, e := linear.Det(m)
			if !isZeroRatio(r) {
				t.Error("Det", m, r)
			}
			return api.Matrix{}, e
		},
	}
	two := map[string]func(a, b api.Matrix) (api.Matrix, api.Errno){"Add": linear.Add, "Mul": linear.Mul, "Stack": linear.Stack, "Solve": linear.Solve}
	for _, b := range badMatrices() {
		for name, f := range one {
			m, e := f(b)
			wantMatrixError(t, m, e, api.ErrShape, name, b)
		}
		for name, f := range two {
			for _, good := range []api.Matrix{{}, {Rows: b.Rows & 63}, {Cols: b.Cols & 63}, sized(1, 1), sized(2, 2)} {
				m, e := f(b, good)
				wantMatrixError(t, m, e, api.ErrShape, name, b, "first")
				m, e = f(good, b)
				wantMatrixError(t, m, e, api.ErrShape, name, b, "second")
			}
			m, e := f(b, b)
			wantMatrixError(t, m, e, api.ErrShape, name, b, "both")
		}
	}
	for _, m := range []api.Matrix{sized(2, 3), sized(3, 2), {Rows: 1}, {Cols: 1}, sized(1, 64)} {
		for _, name := range []string{"Inverse", "Det", "Definite"} {
			got, e := one[name](m)
			wantMatrixError(t, got, e, api.ErrShape, name, m.Rows, m.Cols)
		}
	}
}
