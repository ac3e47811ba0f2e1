package linear

import (
	"cmp"
	"iter"
	"slices"

	"hodoscope/api"
	"hodoscope/exact"
)

// table is rows of the same length. It may have more rows and columns than a matrix that is valid.
type table []row

// tableOf returns the rows of the matrix whose cell (i, j) is what cell returns for i and j.
func tableOf(rows, cols int, cell func(i, j int) api.Ratio) table {
	t := make(table, rows)
	for i := range t {
		t[i] = rowOf(cols, func(j int) api.Ratio { return cell(i, j) })
	}
	return t
}

func rowsOf(m api.Matrix) table {
	return tableOf(m.Rows, m.Cols, func(i, j int) api.Ratio { return cell(m, i, j) })
}

func columnsOf(m api.Matrix) table {
	return tableOf(m.Cols, m.Rows, func(i, j int) api.Ratio { return cell(m, j, i) })
}

// products returns the matrix whose cell (i, j) is the sum of the products of l's row i and r's row j.
func products(l, r table) api.Matrix {
	return build(len(l), len(r), func(i, j int) api.Ratio { return l[i].dot(r[j]) })
}

// What a step clears: the column of its pivot in all other rows, or only in those that have no pivot yet.
const (
	inAll  = true
	inRest = false
)

// steps eliminates. The rows stay in their places; the columns of the pivots ascend. Each step yields the index of the row of its pivot, and that row, before others change by it.
func (t table) steps(all bool) iter.Seq2[int, row] {
	return func(yield func(int, row) bool) {
		done := make([]bool, len(t))
		for {
			k := t.next(done)
			if k < 0 || !yield(k, t[k]) {
				return
			}
			done[k] = true
			t.change(t[k].eliminate, func(i int) bool { return i != k && (all || !done[i]) })
		}
	}
}

// next returns the index of the row, of those that are not done, whose first cell that is not 0 is in the least column; of several the first one; -1, if all have zeros only.
func (t table) next(done []bool) int {
	best := -1
	for i, r := range t {
		if done[i] || r.lead == len(r.cells) {
			continue
		}
		if best < 0 || r.lead < t[best].lead {
			best = i
		}
	}
	return best
}

func (t table) change(to func(r row) row, which func(i int) bool) {
	for i, r := range t {
		if which(i) {
			t[i] = to(r)
		}
	}
}

// sort brings the rows into the order of an echelon form.
func (t table) sort() {
	slices.SortStableFunc(t, func(r, s row) int { return cmp.Compare(r.lead, s.lead) })
}

// reduce makes the reduced echelon form, but for the factors of its rows, and returns its pivots.
func (t table) reduce() []int {
	var pivots []int
	for _, p := range t.steps(inAll) {
		pivots = append(pivots, p.lead)
	}
	t.sort()
	return pivots
}

// solve returns the only x with a x = b, if there is just one. It takes matrices of any size.
func solve(a, b api.Matrix) (x api.Matrix, is bool) {
	t := rowsOf(beside(a, b))
	rank, contradicts := 0, false
elimination:
	for _, p := range t.steps(inAll) {
		switch {
		case p.lead >= a.Cols:
			// A row says that zeros times x are not 0.
			contradicts = true
			break elimination
		case p.lead > rank:
			// A column of a has no pivot, so its rank is less than its columns.
			break elimination
		}
		rank++
	}
	if contradicts || rank < a.Cols {
		return api.Matrix{}, false
	}
	t.sort()
	return build(a.Cols, b.Cols, func(i, j int) api.Ratio { return t[i].over(a.Cols + j) }), true
}

// leave eliminates the first n columns by the first n rows, and no more. It reports whether it can: their part of the table has an inverse just if the pivot of each of these columns is in one of these rows, which are taken before others.
func (t table) leave(n int) bool {
	rank := 0
elimination:
	for i, p := range t.steps(inRest) {
		switch {
		case rank == n:
			break elimination
		case i >= n || p.lead > rank:
			return false
		}
		rank++
	}
	return rank == n
}

// beside returns the columns of a, then those of b; it shares memory with both.
func beside(a, b api.Matrix) api.Matrix {
	return build(a.Rows, a.Cols+b.Cols, func(i, j int) api.Ratio {
		if j < a.Cols {
			return cell(a, i, j)
		}
		return cell(b, i, j-a.Cols)
	})
}

// determinant is the product of the pivots; its sign changes with each exchange that brings their rows into order.
func determinant(m api.Matrix) api.Ratio {
	product := whole(1)
	var rows []int
	for i, p := range rowsOf(m).steps(inRest) {
		if p.lead > len(rows) {
			break
		}
		product = exact.Times(product, p.at(p.lead))
		for _, k := range rows {
			if k > i {
				product.Num = exact.Neg(product.Num)
			}
		}
		rows = append(rows, i)
	}
	if len(rows) < m.Rows {
		return whole(0)
	}
	return product
}

// definite returns 2 for a positive definite matrix, 1 for one that is semidefinite, 0 for others. What is left of a semidefinite matrix after each step is semidefinite, too: where its diagonal has 0, the whole row and column have, so each pivot is on the diagonal.
func definite(m api.Matrix) int {
	if !isSymmetric(m) {
		return 0
	}
	rank := 0
	for i, p := range rowsOf(m).steps(inRest) {
		if p.lead != i || p.sign() < 0 {
			return 0
		}
		rank++
	}
	if rank < m.Rows {
		return 1
	}
	return 2
}
