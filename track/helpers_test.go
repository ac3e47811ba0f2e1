package track_test

import (
	"math/big"
	"math/rand"
	"slices"
	"strings"
	"testing"

	"hodoscope/api"
	"hodoscope/track"
)

// The tests hold package track against plain algebra of math/big's ratios, by the package's exported functions only.

func bigInt(a api.Int) *big.Int {
	n := new(big.Int)
	for i := len(a.Words) - 1; i >= 0; i-- {
		n.Lsh(n, 32)
		n.Or(n, big.NewInt(int64(a.Words[i])))
	}
	if a.Neg {
		n.Neg(n)
	}
	return n
}

func ofBig(n *big.Int) api.Int {
	a := api.Int{Neg: n.Sign() < 0}
	for m := new(big.Int).Abs(n); m.Sign() > 0; m.Rsh(m, 32) {
		a.Words = append(a.Words, uint32(m.Uint64()))
	}
	return a
}

// bigRat returns the number for which r stands.
func bigRat(r api.Ratio) *big.Rat {
	den := bigInt(r.Den)
	if den.Sign() == 0 {
		return new(big.Rat)
	}
	return new(big.Rat).SetFrac(bigInt(r.Num), den)
}

func ofRat(r *big.Rat) api.Ratio {
	return api.Ratio{Num: ofBig(r.Num()), Den: ofBig(r.Denom())}
}

func rat(s string) *big.Rat {
	r, ok := new(big.Rat).SetString(s)
	if !ok {
		panic(s)
	}
	return r
}

func ratOf(n int) *big.Rat {
	return big.NewRat(int64(n), 1)
}

func ratio(s string) api.Ratio {
	return ofRat(rat(s))
}

func ratios(s string) []api.Ratio {
	var l []api.Ratio
	for _, f := range strings.Fields(s) {
		l = append(l, ratio(f))
	}
	return l
}

// matrix reads rows with commas between them.
func matrix(s string) api.Matrix {
	m := api.Matrix{}
	for _, line := range strings.Split(s, ",") {
		row := ratios(line)
		m.Rows, m.Cols, m.Cells = m.Rows+1, len(row), append(m.Cells, row...)
	}
	return m
}

// column reads a vector.
func column(s string) api.Matrix {
	l := ratios(s)
	return api.Matrix{Rows: len(l), Cols: 1, Cells: l}
}

// laid makes a matrix of what cell returns.
func laid(rows, cols int, cell func(i, j int) *big.Rat) api.Matrix {
	m := api.Matrix{Rows: rows, Cols: cols}
	for i := range rows {
		for j := range cols {
			m.Cells = append(m.Cells, ofRat(cell(i, j)))
		}
	}
	return m
}

// diagonal returns an n by n matrix with d in the cells (i, i).
func diagonal(n int, d string) api.Matrix {
	return laid(n, n, func(i, j int) *big.Rat {
		if i == j {
			return rat(d)
		}
		return new(big.Rat)
	})
}

func text(m api.Matrix) string {
	var lines []string
	for i := range m.Rows {
		var l []string
		for j := range m.Cols {
			l = append(l, bigRat(m.Cells[i*m.Cols+j]).RatString())
		}
		lines = append(lines, strings.Join(l, " "))
	}
	return strings.Join(lines, ", ")
}

func isNormal(a api.Int) bool {
	n := len(a.Words)
	if n == 0 {
		return !a.Neg
	}
	return a.Words[n-1] != 0
}

func isLowest(r api.Ratio) bool {
	if !isNormal(r.Num) || !isNormal(r.Den) || r.Den.Neg || len(r.Den.Words) == 0 {
		return false
	}
	divisor := new(big.Int).GCD(nil, nil, new(big.Int).Abs(bigInt(r.Num)), bigInt(r.Den))
	return divisor.Cmp(big.NewInt(1)) == 0
}

// isNothing reports whether a result is its zero value; a list may also be empty.
func isNothing(v any) bool {
	switch x := v.(type) {
	case int:
		return x == 0
	case []int:
		return len(x) == 0
	case api.Ratio:
		return len(x.Num.Words)+len(x.Den.Words) == 0 && !x.Num.Neg && !x.Den.Neg
	case api.Matrix:
		return x.Rows == 0 && x.Cols == 0 && len(x.Cells) == 0
	case api.Track:
		return isNothing(x.P) && isNothing(x.Cov) && isNothing(x.Chi) && x.Free == 0
	case []api.Int:
		return len(x) == 0
	case []api.Ratio:
		return len(x) == 0
	case []api.Info:
		return len(x) == 0
	case []api.Track:
		return len(x) == 0
	}
	panic(v)
}

func wantOK(t *testing.T, e api.Errno, of ...any) {
	t.Helper()
	if e != api.OK {
		t.Fatalf("%v: error %v", of, e)
	}
}

// wantError checks an error, and that each result beside it is its zero value.
func wantError(t *testing.T, want, e api.Errno, results []any, of ...any) {
	t.Helper()
	if e != want {
		t.Errorf("%v: error %v, want %v", of, e, want)
	}
	for _, v := range results {
		if !isNothing(v) {
			t.Errorf("%v: %v beside an error", of, v)
		}
	}
}

func all(l ...any) []any {
	return l
}

// wantRatio checks the number, and that it is in normal form.
func wantRatio(t *testing.T, got, want api.Ratio, of ...any) {
	t.Helper()
	if !isLowest(got) || bigRat(got).Cmp(bigRat(want)) != 0 {
		t.Errorf("%v: %v, want %v", of, bigRat(got), bigRat(want))
	}
}

func wantRatios(t *testing.T, got, want []api.Ratio, of ...any) {
	t.Helper()
	if len(got) != len(want) {
		t.Fatalf("%v: %d ratios, want %d", of, len(got), len(want))
	}
	for i := range got {
		wantRatio(t, got[i], want[i], of, i)
	}
}

func wantMatrix(t *testing.T, got, want api.Matrix, of ...any) {
	t.Helper()
	if got.Rows != want.Rows || got.Cols != want.Cols || len(got.Cells) != got.Rows*got.Cols {
		t.Fatalf("%v: %d by %d, want %d by %d", of, got.Rows, got.Cols, want.Rows, want.Cols)
	}
	for k, r := range got.Cells {
		if !isLowest(r) || bigRat(r).Cmp(bigRat(want.Cells[k])) != 0 {
			t.Errorf("%v: %s, want %s", of, text(got), text(want))
			return
		}
	}
}

func wantInfo(t *testing.T, got, want api.Info, of ...any) {
	t.Helper()
	wantMatrix(t, got.N, want.N, of, "N")
	wantMatrix(t, got.R, want.R, of, "R")
	wantRatio(t, got.C, want.C, of, "C")
	if got.Count != want.Count {
		t.Errorf("%v: Count %d, want %d", of, got.Count, want.Count)
	}
}

func wantTrack(t *testing.T, got, want api.Track, of ...any) {
	t.Helper()
	wantMatrix(t, got.P, want.P, of, "P")
	wantMatrix(t, got.Cov, want.Cov, of, "Cov")
	wantRatio(t, got.Chi, want.Chi, of, "Chi")
	if got.Free != want.Free {
		t.Errorf("%v: Free %d, want %d", of, got.Free, want.Free)
	}
}

func wantNumbers(t *testing.T, got, want []int, of ...any) {
	t.Helper()
	if !slices.Equal(got, want) {
		t.Errorf("%v: %v, want %v", of, got, want)
	}
}

// first returns what a call returned that must not have an error.
func first[T any](t *testing.T) func(v T, e api.Errno) T {
	return func(v T, e api.Errno) T {
		t.Helper()
		wantOK(t, e)
		return v
	}
}

// loose returns a as other fields that stand for the same integer.
func loose(a api.Int) api.Int {
	return api.Int{Neg: a.Neg || len(a.Words) == 0, Words: append(slices.Clone(a.Words), 0, 0)}
}

// looseRatio returns r as other fields that stand for the same number: with a common divisor and a negative denominator; 0 as a number over 0.
func looseRatio(r api.Ratio) api.Ratio {
	n := bigRat(r)
	if n.Sign() == 0 {
		return api.Ratio{Num: loose(ofBig(big.NewInt(5))), Den: loose(api.Int{})}
	}
	by := big.NewInt(-6)
	return api.Ratio{Num: loose(ofBig(new(big.Int).Mul(n.Num(), by))), Den: loose(ofBig(new(big.Int).Mul(n.Denom(), by)))}
}

func looseRatios(l []api.Ratio) []api.Ratio {
	var m []api.Ratio
	for _, r := range l {
		m = append(m, looseRatio(r))
	}
	return m
}

func looseMatrix(m api.Matrix) api.Matrix {
	return api.Matrix{Rows: m.Rows, Cols: m.Cols, Cells: looseRatios(m.Cells)}
}

func looseTrack(t api.Track) api.Track {
	return api.Track{P: looseMatrix(t.P), Cov: looseMatrix(t.Cov), Chi: looseRatio(t.Chi), Free: t.Free}
}

// hit returns a site of a field whose bend is the square of the depth, without kicks and losses.
func hit(depth, x, y int) api.Site {
	return api.Site{Depth: depth, Bend: depth * depth, Turn: 2 * depth, Hit: true, X: x, Y: y, VX: 1, VY: 1}
}

// with returns a copy of a list with site i changed.
func with(l []api.Site, i int, change func(s *api.Site)) []api.Site {
	l = slices.Clone(l)
	change(&l[i])
	return l
}

// without returns a copy of a list in which these sites have no hit.
func without(l []api.Site, indices ...int) []api.Site {
	for _, i := range indices {
		l = with(l, i, func(s *api.Site) { s.Hit = false })
	}
	return slices.Clone(l)
}

// parabola returns n sites whose hits are on a track, but for the last one.
func parabola(n int) []api.Site {
	var l []api.Site
	for d := range n {
		l = append(l, hit(d, d*d, d))
	}
	l[n-1].Y += 3
	return l
}

// some returns a track that is valid.
func some() api.Track {
	return api.Track{
		P:    column("1 1/2 -3 0 2"),
		Cov:  matrix("2 1 0 0 1/3, 1 3 1/2 0 0, 0 1/2 4 1 0, 0 0 1 5 -1, 1/3 0 0 -1 6"),
		Chi:  ratio("7/2"),
		Free: 9,
	}
}

// source makes the same numbers in every run.
type source struct{ *rand.Rand }

func newSource() source {
	return source{rand.New(rand.NewSource(1))}
}

// between returns a number from -n to n.
func (s source) between(n int) int {
	return s.Intn(2*n+1) - n
}

// site returns one that is valid, at a depth; it often has no kick, or no loss, and seldom no hit.
func (s source) site(depth int) api.Site {
	x := api.Site{
		Depth: depth, Bend: s.between(9), Turn: s.between(5), Kick: s.Intn(4), Loss: s.Intn(3) * s.Intn(401),
		Hit: s.Intn(6) > 0, X: s.between(20), Y: s.between(20), VX: 1 + s.Intn(4), VY: 1 + s.Intn(4),
	}
	if s.Intn(2) == 0 {
		x.Kick = 0
	}
	if s.Intn(8) == 0 {
		x.Bend, x.Turn, x.X, x.Y = s.between(api.MaxSpan), s.between(api.MaxSpan), s.between(api.MaxSpan), s.between(api.MaxSpan)
		x.Kick, x.VX, x.VY = s.Intn(api.MaxSpan+1), 1+s.Intn(api.MaxSpan), 1+s.Intn(api.MaxSpan)
	}
	return x
}

// sites returns a list of n sites that is valid.
func (s source) sites(n int) []api.Site {
	var l []api.Site
	depth := s.Intn(3) - 1
	for range n {
		depth += 1 + s.Intn(4)
		l = append(l, s.site(depth))
	}
	return l
}

// few returns up to 6 sites; often they do not determine a track.
func (s source) few() []api.Site {
	return s.sites(s.Intn(7))
}

// determined returns 3 to 6 sites that do.
func (s source) determined() []api.Site {
	for {
		l := s.sites(3 + s.Intn(4))
		if _, e := track.Fit(l); e == api.OK {
			return l
		}
	}
}

func (s source) number() *big.Rat {
	return big.NewRat(int64(s.between(30)), int64(1+s.Intn(6)))
}

func (s source) numbers(n int) []api.Ratio {
	var l []api.Ratio
	for range n {
		l = append(l, ofRat(s.number()))
	}
	return l
}

func (s source) parameters() api.Matrix {
	return api.Matrix{Rows: 5, Cols: 1, Cells: s.numbers(5)}
}

// kicks returns kicks for a list: those of a site without a Kick are 0.
func (s source) kicks(l []api.Site) []api.Ratio {
	var kicks []api.Ratio
	for i := range max(len(l)-1, 0) {
		for range 2 {
			kick := new(big.Rat)
			if l[i].Kick > 0 {
				kick = s.number()
			}
			kicks = append(kicks, ofRat(kick))
		}
	}
	return kicks
}

// track returns one that is valid.
func (s source) track() api.Track {
	m := laid(5, 5, func(i, j int) *big.Rat { return s.number() })
	cov := plus(times(m, turned(m)), diagonal(5, "1/3"))
	return api.Track{P: s.parameters(), Cov: cov, Chi: ofRat(s.number()), Free: s.between(50)}
}
