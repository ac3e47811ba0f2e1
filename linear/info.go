package linear

import (
	"hodoscope/api"
	"hodoscope/exact"
)

func isInfo(f api.Info) bool {
	return isSquare(f.N) && isVector(f.R) && f.R.Rows == f.N.Rows && isSymmetric(f.N)
}

// CheckInfo returns ErrShape unless f is valid.
func CheckInfo(f api.Info) api.Errno {
	if !isInfo(f) {
		return api.ErrShape
	}
	return api.OK
}

// Blank returns an information of zeros.
func Blank(n int) (api.Info, api.Errno) {
	if !isOrder(n) {
		return api.Info{}, api.ErrShape
	}
	zero := func(i, j int) api.Ratio { return whole(0) }
	return api.Info{N: build(n, n, zero), R: build(n, 1, zero), C: whole(0)}, api.OK
}

// Measure adds the weighted sum of squares of y - h x.
func Measure(f api.Info, h, y, v api.Matrix) (api.Info, api.Errno) {
	if !isInfo(f) || !isValid(h) || h.Cols != f.N.Rows || !isVector(y) || y.Rows != h.Rows || !isSquare(v) || v.Rows != h.Rows {
		return api.Info{}, api.ErrShape
	}
	if definite(v) != 2 {
		return api.Info{}, api.ErrWeight
	}
	w, _ := inverse(v)
	return combine(f, said(h, y, mul(w, h), mul(w, y))), api.OK
}

// said returns what values y of h x say, if wh and wy are their products with the inverse w of their covariance.
func said(h, y, wh, wy api.Matrix) api.Info {
	columns := columnsOf(h)
	return api.Info{N: products(columns, columnsOf(wh)), R: products(columns, columnsOf(wy)), C: product(y, wy), Count: h.Rows}
}

// product returns the sum of the products of the cells of two vectors.
func product(a, b api.Matrix) api.Ratio {
	return columnsOf(a)[0].dot(columnsOf(b)[0])
}

// Combine returns the sums of two informations.
func Combine(f, g api.Info) (api.Info, api.Errno) {
	if !isInfo(f) || !isInfo(g) || f.N.Rows != g.N.Rows {
		return api.Info{}, api.ErrShape
	}
	return combine(f, g), api.OK
}

func combine(f, g api.Info) api.Info {
	return api.Info{N: add(f.N, g.N), R: add(f.R, g.R), C: exact.Plus(f.C, g.C), Count: f.Count + g.Count}
}

// Estimate returns the vector with the least sum of squares, its covariance, and that sum.
func Estimate(f api.Info) (x, cov api.Matrix, chi api.Ratio, e api.Errno) {
	if !isInfo(f) {
		return api.Matrix{}, api.Matrix{}, api.Ratio{}, api.ErrShape
	}
	return estimate(f)
}

func estimate(f api.Info) (x, cov api.Matrix, chi api.Ratio, e api.Errno) {
	cov, is := inverse(f.N)
	if !is {
		return api.Matrix{}, api.Matrix{}, api.Ratio{}, api.ErrSingular
	}
	x = mul(cov, f.R)
	return x, cov, exact.Minus(f.C, product(x, f.R)), api.OK
}

// Marginal returns what is known of some parameters if the others are free.
func Marginal(f api.Info, keep []int) (api.Info, api.Errno) {
	if !isInfo(f) {
		return api.Info{}, api.ErrShape
	}
	if !areDistinct(keep, f.N.Rows) {
		return api.Info{}, api.ErrRange
	}
	free := others(f.N.Rows, keep)
	t := border(f, append(free, keep...))
	if !t.leave(len(free)) {
		return api.Info{}, api.ErrSingular
	}
	n, rest := len(keep), t[len(free):]
	part := func(first int) func(i, j int) api.Ratio {
		return func(i, j int) api.Ratio { return rest[i].at(first + j) }
	}
	return api.Info{
		N:     build(n, n, part(len(free))),
		R:     build(n, 1, part(f.N.Rows)),
		C:     rest[n].at(f.N.Rows),
		Count: f.Count - len(free),
	}, api.OK
}

// areDistinct reports whether all of l are from 0 to n - 1, each at most once.
func areDistinct(l []int, n int) bool {
	seen := make([]bool, n)
	for _, i := range l {
		if i < 0 || i >= n || seen[i] {
			return false
		}
		seen[i] = true
	}
	return true
}

// border returns the rows of N with the parameters in that order, with R as a last column and a last row, and C in the corner. Whatever is eliminated of it changes R and C as it changes N.
func border(f api.Info, order []int) table {
	n := len(order)
	return tableOf(n+1, n+1, func(i, j int) api.Ratio {
		switch {
		case i < n && j < n:
			return cell(f.N, order[i], order[j])
		case i < n:
			return f.R.Cells[order[i]]
		case j < n:
			return f.R.Cells[order[j]]
		}
		return f.C
	})
}

// Condition returns what is known of the other parameters if some have these values.
func Condition(f api.Info, at []int, values api.Matrix) (api.Info, api.Errno) {
	if !isInfo(f) || !isVector(values) || values.Rows != len(at) {
		return api.Info{}, api.ErrShape
	}
	if !areDistinct(at, f.N.Rows) {
		return api.Info{}, api.ErrRange
	}
	free, column := others(f.N.Rows, at), []int{0}
	known := pick(f.R, at, column)
	given := mul(pick(f.N, at, at), values)
	twice := exact.Times(whole(2), product(values, known))
	return api.Info{
		N:     pick(f.N, free, free),
		R:     subtract(pick(f.R, free, column), mul(pick(f.N, free, at), values)),
		C:     exact.Plus(exact.Minus(f.C, twice), product(values, given)),
		Count: f.Count,
	}, api.OK
}

func subtract(a, b api.Matrix) api.Matrix {
	return build(a.Rows, a.Cols, func(i, j int) api.Ratio { return exact.Minus(cell(a, i, j), cell(b, i, j)) })
}

// Move returns what is known of t x, with a noise of the covariance q.
func Move(f api.Info, t, q api.Matrix) (api.Info, api.Errno) {
	n := f.N.Rows
	if !isInfo(f) || !isSquare(t) || t.Rows != n || !isSquare(q) || q.Rows != n {
		return api.Info{}, api.ErrShape
	}
	u, is := inverse(t)
	if !is {
		return api.Info{}, api.ErrSingular
	}
	if definite(q) == 0 {
		return api.Info{}, api.ErrWeight
	}
	back := columnsOf(u)
	m, s := products(back, columnsOf(mul(f.N, u))), products(back, columnsOf(f.R))
	both, is := solve(add(identity(n), mul(m, q)), beside(m, s))
	if !is {
		return api.Info{}, api.ErrSingular
	}
	moved := api.Info{
		N:     build(n, n, func(i, j int) api.Ratio { return cell(both, i, j) }),
		R:     build(n, 1, func(i, j int) api.Ratio { return cell(both, i, n) }),
		Count: f.Count,
	}
	moved.C = exact.Minus(f.C, product(s, mul(q, moved.R)))
	return moved, api.OK
}

// Constrain returns the vector with the least sum of squares of all with a x = b, and the factors.
func Constrain(f api.Info, a, b api.Matrix) (x, factors api.Matrix, chi api.Ratio, e api.Errno) {
	n := f.N.Rows
	if !isInfo(f) || !isValid(a) || a.Cols != n || !isVector(b) || b.Rows != a.Rows || n+a.Rows > api.MaxOrder {
		return api.Matrix{}, api.Matrix{}, api.Ratio{}, api.ErrShape
	}
	both, is := solve(constrained(f.N, a), stack(f.R, b))
	if !is {
		return api.Matrix{}, api.Matrix{}, api.Ratio{}, api.ErrSingular
	}
	part := func(first, rows int) api.Matrix {
		return build(rows, 1, func(i, j int) api.Ratio { return both.Cells[first+i] })
	}
	x, factors = part(0, n), part(n, a.Rows)
	// With N x = R - a' l and a x = b, the sum x' N x - 2 x' R + C is C - x' R - l' b.
	chi = exact.Minus(exact.Minus(f.C, product(x, f.R)), product(factors, b))
	return x, factors, chi, api.OK
}

// constrained returns the matrix of the equations N x + a' l = R, a x = b for x and l.
func constrained(n, a api.Matrix) api.Matrix {
	size := n.Rows + a.Rows
	return build(size, size, func(i, j int) api.Ratio {
		switch {
		case i < n.Rows && j < n.Rows:
			return cell(n, i, j)
		case j < n.Rows:
			return cell(a, i-n.Rows, j)
		case i < n.Rows:
			return cell(a, j-n.Rows, i)
		}
		return whole(0)
	})
}
