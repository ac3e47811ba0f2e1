package track

import (
	"hodoscope/api"
	"hodoscope/exact"
	"hodoscope/linear"
)

// sure returns v, of a call that cannot have an error.
func sure[T any](v T, e api.Errno) T {
	if e != api.OK {
		panic(e)
	}
	return v
}

// guarded returns what work returns. If something happens in it that cannot, that is an error.
func guarded[T any](work func() (T, api.Errno)) (v T, e api.Errno) {
	defer func() {
		if fault := recover(); fault != nil {
			v, e = *new(T), errorOf(fault)
		}
	}()
	return work()
}

// errorOf returns the error that a panic tells of; ErrArg, if it tells of none.
func errorOf(fault any) api.Errno {
	if e, is := fault.(api.Errno); is {
		return e
	}
	return api.ErrArg
}

func whole(n int) api.Ratio {
	return exact.Whole(exact.Of(int64(n)))
}

func perMille(n int) api.Ratio {
	return sure(exact.Over(int64(n), 1000))
}

func square(r api.Ratio) api.Ratio {
	return exact.Times(r, r)
}

func product(a, b api.Matrix) api.Matrix {
	return sure(linear.Mul(a, b))
}

func transposed(m api.Matrix) api.Matrix {
	return sure(linear.Transpose(m))
}

func scaled(m api.Matrix, r api.Ratio) api.Matrix {
	return sure(linear.Scale(m, r))
}

func sum(a, b api.Matrix) api.Matrix {
	return sure(linear.Add(a, b))
}

func difference(a, b api.Matrix) api.Matrix {
	return sum(a, scaled(b, whole(-1)))
}

// around returns the covariance of m x, if cov is that of x.
func around(m, cov api.Matrix) api.Matrix {
	return product(product(m, cov), transposed(m))
}

// inner returns the inner product of two vectors.
func inner(a, b api.Matrix) api.Ratio {
	return sure(exact.Dot(a.Cells, b.Cells))
}
