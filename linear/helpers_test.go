package linear_test

import (
	"math/big"
	"math/rand"
	"slices"
	"strings"
	"testing"

	"hodoscope/api"
)

// The tests hold package linear against plain algebra of math/big's ratios, by the package's exported functions only.

func bigInt(a api.Int) *big.Int {
	n := new(big.Int)
	for i := len(a.Words) - 1; i >= 0; i-- {
		n.Lsh(n, 32)
		n.Or(n, big.NewInt(int64(a.Words[i])))
	}
	if a.Neg {
		n.Neg(n)
	}
	return n
}

func ofBig(n *big.Int) api.Int {
	a := api.Int{Neg: n.Sign() < 0}
	for m := new(big.Int).Abs(n); m.Sign() > 0; m.Rsh(m, 32) {
		a.Words = append(a.Words, uint32(m.Uint64()))
	}
	return a
}

// bigRat returns the number for which r stands.
func bigRat(r api.Ratio) *big.Rat {
	den := bigInt(r.Den)
	if den.Sign() == 0 {
		return new(big.Rat)
	}
	return new(big.Rat).SetFrac(bigInt(r.Num), den)
}

func ofRat(r *big.Rat) api.Ratio {
	return api.Ratio{Num: ofBig(r.Num()), Den: ofBig(r.Denom())}
}

func rat(s string) *big.Rat {
	r, ok := new(big.Rat).SetString(s)
	if !ok {
		panic(s)
	}
	return r
}

func ratio(s string) api.Ratio {
	return ofRat(rat(s))
}

func ratios(s string) []api.Ratio {
	var l []api.Ratio
	for _, f := range strings.Fields(s) {
		l = append(l, ratio(f))
	}
	return l
}

// matrix reads rows with commas between them; "" is the matrix without rows and columns.
func matrix(s string) api.Matrix {
	if s == "" {
		return api.Matrix{}
	}
	m := api.Matrix{}
	for _, line := range strings.Split(s, ",") {
		row := ratios(line)
		m.Rows, m.Cols, m.Cells = m.Rows+1, len(row), append(m.Cells, row...)
	}
	return m
}

// column reads a vector.
func column(s string) api.Matrix {
	l := ratios(s)
	return api.Matrix{Rows: len(l), Cols: 1, Cells: l}
}

func info(n, r, c string, count int) api.Info {
	return api.Info{N: matrix(n), R: column(r), C: ratio(c), Count: count}
}

// laid makes a matrix of what cell returns.
func laid(rows, cols int, cell func(i, j int) *big.Rat) api.Matrix {
	m := api.Matrix{Rows: rows, Cols: cols}
	for i := range rows {
		for j := range cols {
			m.Cells = append(m.Cells, ofRat(cell(i, j)))
		}
	}
	return m
}

// sized returns the matrix of these sizes that has i + 2 j + 1 in its cell (i, j).
func sized(rows, cols int) api.Matrix {
	return laid(rows, cols, func(i, j int) *big.Rat { return big.NewRat(int64(i+2*j+1), 1) })
}

// diagonal returns an n by n matrix with d in the cells (i, i).
func diagonal(n int, d string) api.Matrix {
	return laid(n, n, func(i, j int) *big.Rat {
		if i == j {
			return rat(d)
		}
		return new(big.Rat)
	})
}

func text(m api.Matrix) string {
	var lines []string
	for i := range m.Rows {
		var l []string
		for j := range m.Cols {
			l = append(l, bigRat(m.Cells[i*m.Cols+j]).RatString())
		}
		lines = append(lines, strings.Join(l, " "))
	}
	return strings.Join(lines, ", ")
}

func isNormal(a api.Int) bool {
	n := len(a.Words)
	if n == 0 {
		return !a.Neg
	}
	return a.Words[n-1] != 0
}

func isLowest(r api.Ratio) bool {
	if !isNormal(r.Num) || !isNormal(r.Den) || r.Den.Neg || len(r.Den.Words) == 0 {
		return false
	}
	divisor := new(big.Int).GCD(nil, nil, new(big.Int).Abs(bigInt(r.Num)), bigInt(r.Den))
	return divisor.Cmp(big.NewInt(1)) == 0
}

func isZeroRatio(r api.Ratio) bool {
	return len(r.Num.Words)+len(r.Den.Words) == 0 && !r.Num.Neg && !r.Den.Neg
}

func isZeroMatrix(m api.Matrix) bool {
	return m.Rows == 0 && m.Cols == 0 && len(m.Cells) == 0
}

func isZeroInfo(f api.Info) bool {
	return isZeroMatrix(f.N) && isZeroMatrix(f.R) && isZeroRatio(f.C) && f.Count == 0
}

// equal reports whether got has the sizes and the numbers of want, in normal form.
func equal(got, want api.Matrix) bool {
	if got.Rows != want.Rows || got.Cols != want.Cols || len(got.Cells) != got.Rows*got.Cols {
		return false
	}
	for k, r := range got.Cells {
		if !isLowest(r) || bigRat(r).Cmp(bigRat(want.Cells[k])) != 0 {
			return false
		}
	}
	return true
}

func wantOK(t *testing.T, e api.Errno, of ...any) {
	t.Helper()
	if e != api.OK {
		t.Fatalf("%v: error %v", of, e)
	}
}

func wantMatrix(t *testing.T, got, want api.Matrix, of ...any) {
	t.Helper()
	if !equal(got, want) {
		t.Errorf("%v: %d by %d: %s, want %d by %d: %s", of, got.Rows, got.Cols, text(got), want.Rows, want.Cols, text(want))
	}
}

func wantRatio(t *testing.T, got, want api.Ratio, of ...any) {
	t.Helper()
	if !isLowest(got) || bigRat(got).Cmp(bigRat(want)) != 0 {
		t.Errorf("%v: %v, want %v", of, bigRat(got), bigRat(want))
	}
}

func wantInfo(t *testing.T, got, want api.Info, of ...any) {
	t.Helper()
	wantMatrix(t, got.N, want.N, of, "N")
	wantMatrix(t, got.R, want.R, of, "R")
	wantRatio(t, got.C, want.C, of, "C")
	if got.Count != want.Count {
		t.Errorf("%v: Count %d, want %d", of, got.Count, want.Count)
	}
}

// wantMatrixError checks an error, and that the matrix beside it is the zero value.
func wantMatrixError(t *testing.T, got api.Matrix, e, want api.Errno, of ...any) {
	t.Helper()
	if e != want || !isZeroMatrix(got) {
		t.Errorf("%v: %v, %v, want the error %v", of, got, e, want)
	}
}

func wantInfoError(t *testing.T, got api.Info, e, want api.Errno, of ...any) {
	t.Helper()
	if e != want || !isZeroInfo(got) {
		t.Errorf("%v: %v, %v, want the error %v", of, got, e, want)
	}
}

// estimated is what Estimate, LeastSquares and Constrain return.
type estimated struct {
	x, y api.Matrix
	chi  api.Ratio
	e    api.Errno
}

func result(x, y api.Matrix, chi api.Ratio, e api.Errno) estimated {
	return estimated{x, y, chi, e}
}

func (s estimated) want(t *testing.T, x, y api.Matrix, chi api.Ratio, of ...any) {
	t.Helper()
	wantOK(t, s.e, of)
	wantMatrix(t, s.x, x, of, "first matrix")
	wantMatrix(t, s.y, y, of, "second matrix")
	wantRatio(t, s.chi, chi, of, "chi")
}

func (s estimated) wantError(t *testing.T, want api.Errno, of ...any) {
	t.Helper()
	if s.e != want || !isZeroMatrix(s.x) || !isZeroMatrix(s.y) || !isZeroRatio(s.chi) {
		t.Errorf("%v: %v, want the error %v", of, s, want)
	}
}

// loose returns a as other fields that stand for the same integer.
func loose(a api.Int) api.Int {
	return api.Int{Neg: a.Neg || len(a.Words) == 0, Words: append(slices.Clone(a.Words), 0, 0)}
}

// looseRatio returns r as other fields that stand for the same number: with a common divisor and a negative denominator; 0 as a number over 0.
func looseRatio(r api.Ratio) api.Ratio {
	n := bigRat(r)
	if n.Sign() == 0 {
		return api.Ratio{Num: loose(ofBig(big.NewInt(5))), Den: loose(api.Int{})}
	}
	by := big.NewInt(-6)
	return api.Ratio{Num: loose(ofBig(new(big.Int).Mul(n.Num(), by))), Den: loose(ofBig(new(big.Int).Mul(n.Denom(), by)))}
}

func looseRatios(l []api.Ratio) []api.Ratio {
	var m []api.Ratio
	for _, r := range l {
		m = append(m, looseRatio(r))
	}
	return m
}

func looseMatrix(m api.Matrix) api.Matrix {
	return api.Matrix{Rows: m.Rows, Cols: m.Cols, Cells: looseRatios(m.Cells)}
}

func looseInfo(f api.Info) api.Info {
	return api.Info{N: looseMatrix(f.N), R: looseMatrix(f.R), C: looseRatio(f.C), Count: f.Count}
}

// badMatrices are not valid; their numbers of rows and columns are also such that a product of them is not what it seems.
func badMatrices() []api.Matrix {
	one := ratio("1")
	many := make([]api.Ratio, 65)
	return []api.Matrix{
		{Rows: -1, Cols: 1}, {Rows: 1, Cols: -1}, {Rows: -1, Cols: -1, Cells: []api.Ratio{one}}, {Rows: 0, Cols: -1}, {Rows: -1, Cols: 0},
		{Rows: 65, Cols: 0}, {Rows: 0, Cols: 65}, {Rows: 65, Cols: 1, Cells: many}, {Rows: 1, Cols: 65, Cells: many},
		{Rows: 1, Cols: 1}, {Rows: 1, Cols: 1, Cells: []api.Ratio{one, one}}, {Rows: 2, Cols: 2, Cells: []api.Ratio{one, one, one}}, {Cells: []api.Ratio{one}},
		{Rows: 1 << 32, Cols: 1 << 32}, {Rows: 1 << 62, Cols: 4}, {Rows: -1 << 63, Cols: 2},
	}
}

// source makes the same matrices in every run.
type source struct{ *rand.Rand }

func newSource() source {
	return source{rand.New(rand.NewSource(1))}
}

// number is often 0 or 1, mostly small, and seldom long.
func (s source) number() *big.Rat {
	switch s.Intn(12) {
	case 0, 1, 2:
		return new(big.Rat)
	case 3, 4:
		return big.NewRat(1, 1)
	case 5:
		return new(big.Rat).SetFrac(new(big.Int).Lsh(big.NewInt(s.Int63()-1<<62), 70), big.NewInt(s.Int63()|1))
	}
	return big.NewRat(s.Int63n(19)-9, 1+s.Int63n(6))
}

func (s source) positive() api.Ratio {
	return ofRat(big.NewRat(1+s.Int63n(9), 1+s.Int63n(5)))
}

func (s source) matrix(rows, cols int) api.Matrix {
	return laid(rows, cols, func(i, j int) *big.Rat { return s.number() })
}

// ranked returns a matrix whose rank is at most rank.
func (s source) ranked(rows, cols, rank int) api.Matrix {
	return times(s.matrix(rows, rank), s.matrix(rank, cols))
}

// symmetric returns a symmetric matrix that may be anything else.
func (s source) symmetric(n int) api.Matrix {
	m := s.matrix(n, n)
	return plus(m, turned(m))
}

// semidefinite returns a positive semidefinite matrix whose rank is at most rank.
func (s source) semidefinite(n, rank int) api.Matrix {
	m := s.matrix(rank, n)
	return times(turned(m), m)
}

// definite returns a positive definite matrix.
func (s source) definite(n int) api.Matrix {
	return plus(s.semidefinite(n, n), diagonal(n, "1/2"))
}

// info returns an information whose N is often positive definite, and may be anything else.
func (s source) info(n int) api.Info {
	f := api.Info{N: s.definite(n), R: s.matrix(n, 1), C: ofRat(s.number()), Count: s.Intn(100) - 50}
	switch s.Intn(5) {
	case 0:
		f.N = s.semidefinite(n, s.Intn(n+1))
	case 1:
		f.N = s.symmetric(n)
	}
	return f
}

// choice returns some of the numbers from 0 to n - 1, in any order.
func (s source) choice(n int) []int {
	return s.Perm(n)[:s.Intn(n+1)]
}
