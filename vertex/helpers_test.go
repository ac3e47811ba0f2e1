package vertex_test

import (
	"math"
	"math/big"
	"math/rand"
	"slices"
	"strings"
	"testing"

	"hodoscope/api"
	"hodoscope/vertex"
)

// The tests hold package vertex against plain algebra of math/big's ratios, by the package's exported functions only.

func bigInt(a api.Int) *big.Int {
	n := new(big.Int)
	for i := len(a.Words) - 1; i >= 0; i-- {
		n.Lsh(n, 32)
		n.Or(n, big.NewInt(int64(a.Words[i])))
	}
	if a.Neg {
		n.Neg(n)
	}
	return n
}

func ofBig(n *big.Int) api.Int {
	a := api.Int{Neg: n.Sign() < 0}
	for m := new(big.Int).Abs(n); m.Sign() > 0; m.Rsh(m, 32) {
		a.Words = append(a.Words, uint32(m.Uint64()))
	}
	return a
}

// bigRat returns the number for which r stands.
func bigRat(r api.Ratio) *big.Rat {
	den := bigInt(r.Den)
	if den.Sign() == 0 {
		return new(big.Rat)
	}
	return new(big.Rat).SetFrac(bigInt(r.Num), den)
}

func ofRat(r *big.Rat) api.Ratio {
	return api.Ratio{Num: ofBig(r.Num()), Den: ofBig(r.Denom())}
}

func rat(s string) *big.Rat {
	r, ok := new(big.Rat).SetString(s)
	if !ok {
		panic(s)
	}
	return r
}

func ratOf(n int) *big.Rat {
	return big.NewRat(int64(n), 1)
}

func ratio(s string) api.Ratio {
	return ofRat(rat(s))
}

func ratios(s string) []api.Ratio {
	var l []api.Ratio
	for _, f := range strings.Fields(s) {
		l = append(l, ratio(f))
	}
	return l
}

// matrix reads rows with commas between them.
func matrix(s string) api.Matrix {
	m := api.Matrix{}
	for _, line := range strings.Split(s, ",") {
		row := ratios(line)
		m.Rows, m.Cols, m.Cells = m.Rows+1, len(row), append(m.Cells, row...)
	}
	return m
}

// column reads a vector.
func column(s string) api.Matrix {
	l := ratios(s)
	return api.Matrix{Rows: len(l), Cols: 1, Cells: l}
}

// laid makes a matrix of what cell returns.
func laid(rows, cols int, cell func(i, j int) *big.Rat) api.Matrix {
	m := api.Matrix{Rows: rows, Cols: cols}
	for i := range rows {
		for j := range cols {
			m.Cells = append(m.Cells, ofRat(cell(i, j)))
		}
	}
	return m
}

// diagonal returns the matrix with these numbers in the cells (i, i), and 0 in the others.
func diagonal(s string) api.Matrix {
	l := ratios(s)
	return laid(len(l), len(l), func(i, j int) *big.Rat {
		if i == j {
			return bigRat(l[i])
		}
		return new(big.Rat)
	})
}

func text(m api.Matrix) string {
	var lines []string
	for i := range m.Rows {
		var l []string
		for j := range m.Cols {
			l = append(l, bigRat(m.Cells[i*m.Cols+j]).RatString())
		}
		lines = append(lines, strings.Join(l, " "))
	}
	return strings.Join(lines, ", ")
}

func isNormal(a api.Int) bool {
	n := len(a.Words)
	if n == 0 {
		return !a.Neg
	}
	return a.Words[n-1] != 0
}

func isLowest(r api.Ratio) bool {
	if !isNormal(r.Num) || !isNormal(r.Den) || r.Den.Neg || len(r.Den.Words) == 0 {
		return false
	}
	divisor := new(big.Int).GCD(nil, nil, new(big.Int).Abs(bigInt(r.Num)), bigInt(r.Den))
	return divisor.Cmp(big.NewInt(1)) == 0
}

// isNothing reports whether a result is its zero value; a list may also be empty.
func isNothing(v any) bool {
	switch x := v.(type) {
	case int:
		return x == 0
	case []int:
		return len(x) == 0
	case api.Ratio:
		return len(x.Num.Words)+len(x.Den.Words) == 0 && !x.Num.Neg && !x.Den.Neg
	case api.Matrix:
		return x.Rows == 0 && x.Cols == 0 && len(x.Cells) == 0
	case api.Info:
		return isNothing(x.N) && isNothing(x.R) && isNothing(x.C) && x.Count == 0
	case api.Ray:
		return x.Face == 0 && isNothing(x.X0) && isNothing(x.X1) && isNothing(x.Y0) && isNothing(x.Y1) && isNothing(x.V)
	case api.Vertex:
		return isNothing(x.P) && isNothing(x.Cov) && isNothing(x.Chi) && x.Free == 0 && len(x.Rays) == 0
	case []api.Vertex:
		return len(x) == 0
	case api.Decay:
		return isNothing(x.P) && isNothing(x.Sum) && isNothing(x.Chi) && isNothing(x.Time) && isNothing(x.Alpha) && isNothing(x.Square)
	}
	panic(v)
}

func wantOK(t *testing.T, e api.Errno, of ...any) {
	t.Helper()
	if e != api.OK {
		t.Fatalf("%v: error %v", of, e)
	}
}

// wantError checks an error, and that each result beside it is its zero value.
func wantError(t *testing.T, want, e api.Errno, results []any, of ...any) {
	t.Helper()
	if e != want {
		t.Errorf("%v: error %v, want %v", of, e, want)
	}
	for _, v := range results {
		if !isNothing(v) {
			t.Errorf("%v: %v beside an error", of, v)
		}
	}
}

func all(l ...any) []any {
	return l
}

// wantRatio checks the number, and that it is in normal form.
func wantRatio(t *testing.T, got, want api.Ratio, of ...any) {
	t.Helper()
	if !isLowest(got) || bigRat(got).Cmp(bigRat(want)) != 0 {
		t.Errorf("%v: %v, want %v", of, bigRat(got), bigRat(want))
	}
}

func wantMatrix(t *testing.T, got, want api.Matrix, of ...any) {
	t.Helper()
	if got.Rows != want.Rows || got.Cols != want.Cols || len(got.Cells) != got.Rows*got.Cols {
		t.Fatalf("%v: %d by %d, want %d by %d", of, got.Rows, got.Cols, want.Rows, want.Cols)
	}
	for k, r := range got.Cells {
		if !isLowest(r) || bigRat(r).Cmp(bigRat(want.Cells[k])) != 0 {
			t.Errorf("%v: %s, want %s", of, text(got), text(want))
			return
		}
	}
}

func wantNumbers(t *testing.T, got, want []int, of ...any) {
	t.Helper()
	if !slices.Equal(got, want) {
		t.Errorf("%v: %v, want %v", of, got, want)
	}
}

func wantNumber(t *testing.T, got, want int, of ...any) {
	t.Helper()
	wantNumbers(t, []int{got}, []int{want}, of...)
}

func wantInfo(t *testing.T, got, want api.Info, of ...any) {
	t.Helper()
	wantMatrix(t, got.N, want.N, of, "N")
	wantMatrix(t, got.R, want.R, of, "R")
	wantRatio(t, got.C, want.C, of, "C")
	wantNumber(t, got.Count, want.Count, of, "Count")
}

func wantRay(t *testing.T, got, want api.Ray, of ...any) {
	t.Helper()
	wantNumber(t, got.Face, want.Face, of, "Face")
	wantRatio(t, got.X0, want.X0, of, "X0")
	wantRatio(t, got.X1, want.X1, of, "X1")
	wantRatio(t, got.Y0, want.Y0, of, "Y0")
	wantRatio(t, got.Y1, want.Y1, of, "Y1")
	wantMatrix(t, got.V, want.V, of, "V")
}

func wantVertex(t *testing.T, got, want api.Vertex, of ...any) {
	t.Helper()
	wantMatrix(t, got.P, want.P, of, "P")
	wantMatrix(t, got.Cov, want.Cov, of, "Cov")
	wantRatio(t, got.Chi, want.Chi, of, "Chi")
	wantNumber(t, got.Free, want.Free, of, "Free")
	wantNumbers(t, got.Rays, want.Rays, of, "Rays")
}

func wantVertices(t *testing.T, got, want []api.Vertex, of ...any) {
	t.Helper()
	if len(got) != len(want) {
		t.Fatalf("%v: %d vertices, want %d", of, len(got), len(want))
	}
	for i := range got {
		wantVertex(t, got[i], want[i], of, i)
	}
}

func wantDecay(t *testing.T, got, want api.Decay, of ...any) {
	t.Helper()
	wantMatrix(t, got.P, want.P, of, "P")
	wantMatrix(t, got.Sum, want.Sum, of, "Sum")
	wantRatio(t, got.Chi, want.Chi, of, "Chi")
	wantRatio(t, got.Time, want.Time, of, "Time")
	wantRatio(t, got.Alpha, want.Alpha, of, "Alpha")
	wantRatio(t, got.Square, want.Square, of, "Square")
}

// loose returns a as other fields that stand for the same integer.
func loose(a api.Int) api.Int {
	return api.Int{Neg: a.Neg || len(a.Words) == 0, Words: append(slices.Clone(a.Words), 0, 0)}
}

// looseRatio returns r as other fields that stand for the same number: with a common divisor and a negative denominator; 0 as a number over 0.
func looseRatio(r api.Ratio) api.Ratio {
	n := bigRat(r)
	if n.Sign() == 0 {
		return api.Ratio{Num: loose(ofBig(big.NewInt(5))), Den: loose(api.Int{})}
	}
	by := big.NewInt(-6)
	return api.Ratio{Num: loose(ofBig(new(big.Int).Mul(n.Num(), by))), Den: loose(ofBig(new(big.Int).Mul(n.Denom(), by)))}
}

func looseMatrix(m api.Matrix) api.Matrix {
	cells := make([]api.Ratio, len(m.Cells))
	for i, r := range m.Cells {
		cells[i] = looseRatio(r)
	}
	return api.Matrix{Rows: m.Rows, Cols: m.Cols, Cells: cells}
}

func looseInfo(f api.Info) api.Info {
	return api.Info{N: looseMatrix(f.N), R: looseMatrix(f.R), C: looseRatio(f.C), Count: f.Count}
}

func looseRay(r api.Ray) api.Ray {
	return api.Ray{Face: r.Face, X0: looseRatio(r.X0), X1: looseRatio(r.X1), Y0: looseRatio(r.Y0), Y1: looseRatio(r.Y1), V: looseMatrix(r.V)}
}

func looseRays(l []api.Ray) []api.Ray {
	m := make([]api.Ray, len(l))
	for i, r := range l {
		m[i] = looseRay(r)
	}
	return m
}

func looseVertex(v api.Vertex) api.Vertex {
	return api.Vertex{P: looseMatrix(v.P), Cov: looseMatrix(v.Cov), Chi: looseRatio(v.Chi), Free: v.Free, Rays: slices.Clone(v.Rays)}
}

// ray reads X0, X1, Y0, Y1; V is the identity.
func ray(face int, s string) api.Ray {
	l := ratios(s)
	return api.Ray{Face: face, X0: l[0], X1: l[1], Y0: l[2], Y1: l[3], V: diagonal("1 1")}
}

// wide returns a ray with another V.
func wide(r api.Ray, v string) api.Ray {
	r.V = matrix(v)
	return r
}

// blank is an information of zeros about three parameters.
func blank() api.Info {
	return api.Info{N: diagonal("0 0 0"), R: column("0 0 0"), C: ratio("0")}
}

// known returns an information about three parameters.
func known(n, r, c string, count int) api.Info {
	return api.Info{N: matrix(n), R: column(r), C: ratio(c), Count: count}
}

// beam returns what Beam does.
func beam(t *testing.T, place, variance [3]int) api.Info {
	t.Helper()
	f, e := vertex.Beam(place, variance)
	wantOK(t, e, place, variance)
	return f
}

func some() api.Vertex {
	return api.Vertex{P: column("1 1/2 -3"), Cov: matrix("2 1 0, 1 3 1/2, 0 1/2 4"), Chi: ratio("7/2"), Free: 9, Rays: []int{1, 4, 2}}
}

// extremes are ints at their ends, and such that a count of them may leave 64 bits.
func extremes() []int {
	return []int{math.MinInt, math.MinInt + 1, -1 << 32, -1, 1 << 32, math.MaxInt - 1, math.MaxInt}
}

// source makes the same numbers in every run.
type source struct{ *rand.Rand }

func newSource() source {
	return source{rand.New(rand.NewSource(1))}
}

// between returns a number from -n to n.
func (s source) between(n int) int {
	return s.Intn(2*n+1) - n
}

func (s source) number() api.Ratio {
	return ofRat(big.NewRat(int64(s.between(30)), int64(1+s.Intn(6))))
}

// point returns a vector of three numbers.
func (s source) point() api.Matrix {
	return laid(3, 1, func(i, j int) *big.Rat { return bigRat(s.number()) })
}

// covariance returns an n by n matrix that is symmetric and positive definite.
func (s source) covariance(n int) api.Matrix {
	m := laid(n, n, func(i, j int) *big.Rat { return big.NewRat(int64(s.between(3)), int64(1+s.Intn(3))) })
	return laid(n, n, func(i, j int) *big.Rat {
		sum := new(big.Rat)
		for k := range n {
			sum.Add(sum, new(big.Rat).Mul(at(m, i, k), at(m, j, k)))
		}
		if i == j {
			sum.Add(sum, big.NewRat(1, 2))
		}
		return sum
	})
}

// ray returns one that is valid.
func (s source) ray() api.Ray {
	return api.Ray{Face: s.Intn(6), X0: s.number(), X1: s.number(), Y0: s.number(), Y1: s.number(), V: s.covariance(2)}
}

func (s source) rays(n int) []api.Ray {
	var l []api.Ray
	for range n {
		l = append(l, s.ray())
	}
	return l
}

// vertex returns one that is valid.
func (s source) vertex() api.Vertex {
	v := api.Vertex{P: s.point(), Cov: s.covariance(3), Chi: s.number(), Free: s.between(50)}
	for range s.Intn(6) {
		v.Rays = append(v.Rays, s.between(5))
	}
	return v
}

// prior returns what is known of some of three numbers; seldom of none.
func (s source) prior(t *testing.T) api.Info {
	t.Helper()
	var place, variance [3]int
	for i := range 3 {
		place[i], variance[i] = s.between(20), s.Intn(4)
	}
	return beam(t, place, variance)
}
