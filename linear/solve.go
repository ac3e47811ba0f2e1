package linear

import (
	"slices"

	"hodoscope/api"
	"hodoscope/exact"
)

// Reduce returns the reduced echelon form, and the pivots.
func Reduce(m api.Matrix) (form api.Matrix, pivots []int, e api.Errno) {
	if !isValid(m) {
		return api.Matrix{}, nil, api.ErrShape
	}
	t := rowsOf(m)
	pivots = t.reduce()
	return build(m.Rows, m.Cols, func(i, j int) api.Ratio { return t[i].over(j) }), pivots, api.OK
}

// Rank returns the number of pivots.
func Rank(m api.Matrix) (int, api.Errno) {
	if !isValid(m) {
		return 0, api.ErrShape
	}
	rank := 0
	for range rowsOf(m).steps(inRest) {
		rank++
	}
	return rank, api.OK
}

// Null returns the solutions of m x = 0, a column for each column that is no pivot.
func Null(m api.Matrix) (api.Matrix, api.Errno) {
	if !isValid(m) {
		return api.Matrix{}, api.ErrShape
	}
	t := rowsOf(m)
	pivots := t.reduce()
	free := others(m.Cols, pivots)
	return build(m.Cols, len(free), func(i, j int) api.Ratio {
		if k := slices.Index(pivots, i); k >= 0 {
			return exact.Minus(whole(0), t[k].over(free[j]))
		}
		if i == free[j] {
			return whole(1)
		}
		return whole(0)
	}), api.OK
}

// others returns the numbers from 0 to n - 1 that are not in l.
func others(n int, l []int) []int {
	var rest []int
	for i := range n {
		if !slices.Contains(l, i) {
			rest = append(rest, i)
		}
	}
	return rest
}

// Det returns the determinant.
func Det(m api.Matrix) (api.Ratio, api.Errno) {
	if !isSquare(m) {
		return api.Ratio{}, api.ErrShape
	}
	return determinant(m), api.OK
}

// Inverse returns the inverse.
func Inverse(m api.Matrix) (api.Matrix, api.Errno) {
	if !isSquare(m) {
		return api.Matrix{}, api.ErrShape
	}
	x, is := inverse(m)
	if !is {
		return api.Matrix{}, api.ErrSingular
	}
	return x, api.OK
}

func inverse(m api.Matrix) (x api.Matrix, is bool) {
	return solve(m, identity(m.Rows))
}

// Solve returns the only x with a x = b.
func Solve(a, b api.Matrix) (api.Matrix, api.Errno) {
	if !isValid(a) || !isValid(b) || a.Rows != b.Rows {
		return api.Matrix{}, api.ErrShape
	}
	x, is := solve(a, b)
	if !is {
		return api.Matrix{}, api.ErrSingular
	}
	return x, api.OK
}

// Definite returns 2 for a positive definite matrix, 1 for a semidefinite one.
func Definite(m api.Matrix) (int, api.Errno) {
	if !isSquare(m) {
		return 0, api.ErrShape
	}
	return definite(m), api.OK
}

// LeastSquares returns the vector for which the weighted sum of the squares of a x - b is least.
func LeastSquares(a, b api.Matrix, w []api.Ratio) (x, cov api.Matrix, chi api.Ratio, e api.Errno) {
	if !isValid(a) || !isVector(b) || b.Rows != a.Rows || len(w) != a.Rows {
		return api.Matrix{}, api.Matrix{}, api.Ratio{}, api.ErrShape
	}
	if slices.ContainsFunc(w, func(r api.Ratio) bool { return exact.Signum(r) <= 0 }) {
		return api.Matrix{}, api.Matrix{}, api.Ratio{}, api.ErrWeight
	}
	// As all weights are above 0, a' W a has an inverse just if the rank of a is a.Cols.
	weighted := func(m api.Matrix) api.Matrix {
		return build(m.Rows, m.Cols, func(i, j int) api.Ratio { return exact.Times(w[i], cell(m, i, j)) })
	}
	return estimate(said(a, b, weighted(a), weighted(b)))
}
