package vertex

import (
	"hodoscope/api"
	"hodoscope/exact"
	"hodoscope/linear"
)

// sure returns v, of a call that cannot have an error.
func sure[T any](v T, _ api.Errno) T {
	return v
}

func whole(n int) api.Ratio {
	return exact.Whole(exact.Of(int64(n)))
}

func negated(r api.Ratio) api.Ratio {
	return exact.Minus(whole(0), r)
}

func size(r api.Ratio) api.Ratio {
	if exact.Signum(r) < 0 {
		return negated(r)
	}
	return exact.Lowest(r)
}

// quotient takes an s that is not 0.
func quotient(r, s api.Ratio) api.Ratio {
	return sure(exact.Quotient(r, s))
}

// vector returns the vector of these numbers.
func vector(l ...api.Ratio) api.Matrix {
	v := api.Matrix{Rows: len(l), Cols: 1}
	for _, r := range l {
		v.Cells = append(v.Cells, exact.Lowest(r))
	}
	return v
}

// unit returns the row that is 1 for an axis, and 0 for the others.
func unit(axis int) api.Matrix {
	var cells [axes]int64
	cells[axis] = 1
	return sure(linear.Make(1, axes, cells[:]...))
}

func identity() api.Matrix {
	return sure(linear.Identity(axes))
}

func product(a, b api.Matrix) api.Matrix {
	return sure(linear.Mul(a, b))
}

func scaled(m api.Matrix, r api.Ratio) api.Matrix {
	return sure(linear.Scale(m, r))
}

func sum(a, b api.Matrix) api.Matrix {
	return sure(linear.Add(a, b))
}

func difference(a, b api.Matrix) api.Matrix {
	return sum(a, scaled(b, whole(-1)))
}

// inner returns the product a . b of two vectors.
func inner(a, b api.Matrix) api.Ratio {
	return sure(exact.Dot(a.Cells, b.Cells))
}

// across returns the vector product of two points.
func across(a, b api.Matrix) api.Matrix {
	turn := func(i, j int) api.Ratio {
		return exact.Minus(exact.Times(a.Cells[i], b.Cells[j]), exact.Times(a.Cells[j], b.Cells[i]))
	}
	return vector(turn(1, 2), turn(2, 0), turn(0, 1))
}

// weighted returns the weighted sum of squares of a vector with the covariance v.
func weighted(d, v api.Matrix) api.Ratio {
	return inner(d, sure(linear.Solve(v, d)))
}

// indices returns the numbers from 0 to n - 1.
func indices(n int) []int {
	var l []int
	for i := range n {
		l = append(l, i)
	}
	return l
}
