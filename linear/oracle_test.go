package linear_test

import (
	"math/big"

	"hodoscope/api"
)

// Plain algebra of matrices by math/big, as the document defines it.

func at(m api.Matrix, i, j int) *big.Rat {
	return bigRat(m.Cells[i*m.Cols+j])
}

func plus(a, b api.Matrix) api.Matrix {
	return laid(a.Rows, a.Cols, func(i, j int) *big.Rat { return new(big.Rat).Add(at(a, i, j), at(b, i, j)) })
}

func minus(a, b api.Matrix) api.Matrix {
	return laid(a.Rows, a.Cols, func(i, j int) *big.Rat { return new(big.Rat).Sub(at(a, i, j), at(b, i, j)) })
}

func times(a, b api.Matrix) api.Matrix {
	return laid(a.Rows, b.Cols, func(i, j int) *big.Rat {
		sum := new(big.Rat)
		for k := range a.Cols {
			sum.Add(sum, new(big.Rat).Mul(at(a, i, k), at(b, k, j)))
		}
		return sum
	})
}

func turned(m api.Matrix) api.Matrix {
	return laid(m.Cols, m.Rows, func(i, j int) *big.Rat { return at(m, j, i) })
}

func part(m api.Matrix, rows, cols []int) api.Matrix {
	return laid(len(rows), len(cols), func(i, j int) *big.Rat { return at(m, rows[i], cols[j]) })
}

// joined returns the columns of a, then those of b.
func joined(a, b api.Matrix) api.Matrix {
	return laid(a.Rows, a.Cols+b.Cols, func(i, j int) *big.Rat {
		if j < a.Cols {
			return at(a, i, j)
		}
		return at(b, i, j-a.Cols)
	})
}

// scalar returns the only cell of a 1 by 1 matrix.
func scalar(m api.Matrix) *big.Rat {
	return at(m, 0, 0)
}

func zeros(rows, cols int) api.Matrix {
	return laid(rows, cols, func(i, j int) *big.Rat { return new(big.Rat) })
}

func identity(n int) api.Matrix {
	return diagonal(n, "1")
}

// upTo returns the numbers from 0 to n - 1.
func upTo(n int) []int {
	var l []int
	for i := range n {
		l = append(l, i)
	}
	return l
}

// without returns the numbers from 0 to n - 1 that are not in l.
func without(n int, l ...int) []int {
	in := map[int]bool{}
	for _, i := range l {
		in[i] = true
	}
	var rest []int
	for i := range n {
		if !in[i] {
			rest = append(rest, i)
		}
	}
	return rest
}

// determinant is the expansion along the first row.
func determinant(m api.Matrix) *big.Rat {
	if m.Rows == 0 {
		return big.NewRat(1, 1)
	}
	sum, sign := new(big.Rat), big.NewRat(1, 1)
	for j := range m.Cols {
		minor := determinant(part(m, upTo(m.Rows)[1:], without(m.Cols, j)))
		term := new(big.Rat).Mul(at(m, 0, j), minor)
		sum.Add(sum, term.Mul(term, sign))
		sign.Neg(sign)
	}
	return sum
}

// inverse is that of the cofactors; false if the determinant is 0.
func inverse(m api.Matrix) (api.Matrix, bool) {
	d := determinant(m)
	if d.Sign() == 0 {
		return api.Matrix{}, false
	}
	n := m.Rows
	return laid(n, n, func(i, j int) *big.Rat {
		c := determinant(part(m, without(n, j), without(n, i)))
		if (i+j)%2 == 1 {
			c.Neg(c)
		}
		return c.Quo(c, d)
	}), true
}

// principal calls f with all subsets of 0 to n - 1 that are not empty.
func principal(n int, f func(l []int)) {
	for bits := 1; bits < 1<<n; bits++ {
		var l []int
		for i := range n {
			if bits>>i&1 == 1 {
				l = append(l, i)
			}
		}
		f(l)
	}
}

// definiteness is by Sylvester's criterion: all principal minors are above 0, or at least not below.
func definiteness(m api.Matrix) int {
	for i := range m.Rows {
		for j := range m.Cols {
			if at(m, i, j).Cmp(at(m, j, i)) != 0 {
				return 0
			}
		}
	}
	kind := 2
	principal(m.Rows, func(l []int) {
		switch determinant(part(m, l, l)).Sign() {
		case -1:
			kind = 0
		case 0:
			kind = min(kind, 1)
		}
	})
	return kind
}

// rankOf is the size of the largest square part whose determinant is not 0.
func rankOf(m api.Matrix) int {
	best := 0
	principal(m.Rows, func(rows []int) {
		principal(m.Cols, func(cols []int) {
			if len(rows) == len(cols) && len(rows) > best && determinant(part(m, rows, cols)).Sign() != 0 {
				best = len(rows)
			}
		})
	})
	return best
}

// sumOf returns the sum of squares of x for which an information stands.
func sumOf(f api.Info, x api.Matrix) *big.Rat {
	sum := scalar(times(turned(x), times(f.N, x)))
	both := scalar(times(turned(x), f.R))
	sum.Sub(sum, both.Add(both, both))
	return sum.Add(sum, bigRat(f.C))
}

// weightedSum returns d' w d.
func weightedSum(d, w api.Matrix) *big.Rat {
	return scalar(times(turned(d), times(w, d)))
}
