package linear_test

import (
	"math/big"
	"testing"

	"hodoscope/api"
	"hodoscope/linear"
)

// What follows from the promises, by calls of the package only.

// first returns what a call returned that must not have an error.
func first[T any](t *testing.T) func(v T, e api.Errno) T {
	return func(v T, e api.Errno) T {
		t.Helper()
		wantOK(t, e)
		return v
	}
}

func TestRing(t *testing.T) {
	s, ok, det := newSource(), first[api.Matrix](t), first[api.Ratio](t)
	for range 60 {
		n, m, k, l := s.Intn(4), s.Intn(4), s.Intn(4), s.Intn(4)
		a, b, c, d := s.matrix(n, m), s.matrix(n, m), s.matrix(m, k), s.matrix(k, l)
		r := ofRat(s.number())
		wantMatrix(t, ok(linear.Add(a, b)), ok(linear.Add(b, a)))
		wantMatrix(t, ok(linear.Mul(ok(linear.Add(a, b)), c)), ok(linear.Add(ok(linear.Mul(a, c)), ok(linear.Mul(b, c)))))
		wantMatrix(t, ok(linear.Mul(ok(linear.Mul(a, c)), d)), ok(linear.Mul(a, ok(linear.Mul(c, d)))))
		wantMatrix(t, ok(linear.Mul(a, ok(linear.Identity(m)))), a)
		wantMatrix(t, ok(linear.Mul(ok(linear.Identity(n)), a)), a)
		wantMatrix(t, ok(linear.Add(a, ok(linear.Scale(a, ratio("-1"))))), zeros(n, m))
		wantMatrix(t, ok(linear.Scale(ok(linear.Mul(a, c)), r)), ok(linear.Mul(a, ok(linear.Scale(c, r)))))
		wantMatrix(t, ok(linear.Transpose(ok(linear.Mul(a, c)))), ok(linear.Mul(ok(linear.Transpose(c)), ok(linear.Transpose(a)))))
		p, q := s.matrix(n, n), s.matrix(n, n)
		both := new(big.Rat).Mul(bigRat(det(linear.Det(p))), bigRat(det(linear.Det(q))))
		wantRatio(t, det(linear.Det(ok(linear.Mul(p, q)))), ofRat(both))
		wantRatio(t, det(linear.Det(ok(linear.Transpose(p)))), det(linear.Det(p)))
	}
}

func TestOrderOfMeasures(t *testing.T) {
	s, ok := newSource(), first[api.Info](t)
	for range 40 {
		n, g, h := s.Intn(4), s.Intn(4), s.Intn(3)
		f := s.info(n)
		a, y, v := s.matrix(g, n), s.matrix(g, 1), s.definite(g)
		b, z, w := s.matrix(h, n), s.matrix(h, 1), s.definite(h)
		want := ok(linear.Measure(ok(linear.Measure(f, a, y, v)), b, z, w))
		wantInfo(t, ok(linear.Measure(ok(linear.Measure(f, b, z, w)), a, y, v)), want)
		blank := ok(linear.Blank(n))
		parts := ok(linear.Combine(ok(linear.Measure(blank, b, z, w)), ok(linear.Measure(f, a, y, v))))
		wantInfo(t, parts, want)
		wantInfo(t, ok(linear.Combine(blank, f)), f)
		// Both at once, with a covariance of two blocks.
		noise := turned(joined(turned(joined(v, zeros(g, h))), turned(joined(zeros(h, g), w))))
		wantInfo(t, ok(linear.Measure(f, turned(joined(turned(a), turned(b))), turned(joined(turned(y), turned(z))), noise)), want)
	}
}

// definiteInfo returns a positive definite information.
func definiteInfo(s source, n int) api.Info {
	return api.Info{N: s.definite(n), R: s.matrix(n, 1), C: ofRat(s.number()), Count: n + s.Intn(9)}
}

func TestMarginalEstimate(t *testing.T) {
	s, ok := newSource(), first[api.Info](t)
	for range 80 {
		f := definiteInfo(s, s.Intn(6))
		keep := s.choice(f.N.Rows)
		whole := result(linear.Estimate(f))
		kept := ok(linear.Marginal(f, keep))
		result(linear.Estimate(kept)).want(t, part(whole.x, keep, []int{0}), part(whole.y, keep, keep), whole.chi, text(f.N), keep)
		// Some at first, then others, is all at once.
		if len(keep) > 1 {
			wantInfo(t, ok(linear.Marginal(kept, upTo(len(keep))[1:])), ok(linear.Marginal(f, keep[1:])))
		}
		// The estimate's own values, given, do not change the others, nor the sum.
		given := ok(linear.Condition(f, keep, part(whole.x, keep, []int{0})))
		rest := without(f.N.Rows, keep...)
		left := result(linear.Estimate(given))
		wantMatrix(t, left.x, part(whole.x, rest, []int{0}))
		wantRatio(t, left.chi, whole.chi)
	}
}

func TestConstrainedLeast(t *testing.T) {
	s := newSource()
	for range 80 {
		n := 1 + s.Intn(4)
		rows := s.Intn(n + 1)
		f, a, b := definiteInfo(s, n), s.matrix(rows, n), s.matrix(rows, 1)
		got := result(linear.Constrain(f, a, b))
		if rankOf(a) < rows {
			got.wantError(t, api.ErrSingular)
			continue
		}
		wantOK(t, got.e)
		wantMatrix(t, times(a, got.x), b)
		if sum := sumOf(f, got.x); sum.Cmp(bigRat(got.chi)) != 0 {
			t.Error(text(f.N), sum, got.chi)
		}
		null, _ := linear.Null(a)
		off := times(null, s.matrix(null.Cols, 1))
		if text(off) != text(zeros(n, 1)) && sumOf(f, plus(got.x, off)).Cmp(bigRat(got.chi)) <= 0 {
			t.Error(text(f.N), text(a), text(b), "not least")
		}
	}
}

func TestMoves(t *testing.T) {
	s, ok := newSource(), first[api.Info](t)
	for range 60 {
		n := s.Intn(4)
		f := definiteInfo(s, n)
		if s.Intn(3) == 0 {
			f.N = s.semidefinite(n, s.Intn(n+1))
		}
		a, b := plus(s.matrix(n, n), diagonal(n, "99991")), plus(s.matrix(n, n), diagonal(n, "99989"))
		p, q := s.semidefinite(n, s.Intn(n+1)), s.semidefinite(n, s.Intn(n+1))
		if determinant(a).Sign() == 0 || determinant(b).Sign() == 0 {
			continue
		}
		once := ok(linear.Move(f, a, p))
		twice := ok(linear.Move(once, b, q))
		wantInfo(t, twice, ok(linear.Move(f, times(b, a), plus(times(b, times(p, turned(b))), q))))
		before := result(linear.Estimate(f))
		if before.e != api.OK {
			continue
		}
		cov := plus(times(a, times(before.y, turned(a))), p)
		result(linear.Estimate(once)).want(t, times(a, before.x), cov, before.chi, text(f.N), text(a), text(p))
	}
}

func TestLeastSquaresIsEstimate(t *testing.T) {
	s, ok := newSource(), first[api.Info](t)
	for range 40 {
		rows, cols := s.Intn(5), s.Intn(3)
		a, b := s.matrix(rows, cols), s.matrix(rows, 1)
		var w []api.Ratio
		for range rows {
			w = append(w, s.positive())
		}
		v := laid(rows, rows, func(i, j int) *big.Rat {
			if i == j {
				return new(big.Rat).Inv(bigRat(w[i]))
			}
			return new(big.Rat)
		})
		f := ok(linear.Measure(ok(linear.Blank(cols)), a, b, v))
		want := result(linear.Estimate(f))
		got := result(linear.LeastSquares(a, b, w))
		if want.e != api.OK {
			got.wantError(t, want.e)
			continue
		}
		got.want(t, want.x, want.y, want.chi)
	}
}
