package linear

import (
	"slices"

	"hodoscope/api"
	"hodoscope/exact"
)

// row is a row of ratios: integers without a common divisor, times a unit that is not 0. Lead is the index of the first cell that is not 0; the number of cells, if all are.
type row struct {
	cells []api.Int
	unit  api.Ratio
	lead  int
}

// rowOf returns the row of the ratios that cell returns for 0 to n - 1.
func rowOf(n int, cell func(j int) api.Ratio) row {
	nums, dens := make([]api.Int, n), make([]api.Int, n)
	common := exact.Of(1)
	for j := range n {
		nums[j], dens[j] = terms(cell(j))
		common = multiple(common, dens[j])
	}
	for j, den := range dens {
		nums[j] = exact.Mul(nums[j], quotient(common, den))
	}
	return primitive(nums, exact.Of(1), common)
}

// terms returns two integers of which the first, divided by the second, is r; the second one is not 0.
func terms(r api.Ratio) (num, den api.Int) {
	if exact.Sign(r.Den) == 0 {
		return api.Int{}, exact.Of(1)
	}
	return r.Num, r.Den
}

// multiple returns a common multiple of two integers that are not 0: the least one, or minus it.
func multiple(a, b api.Int) api.Int {
	if exact.Cmp(a, b) == 0 {
		return a
	}
	return exact.Mul(a, quotient(b, exact.Gcd(a, b)))
}

// quotient returns a divided by b, which divides it.
func quotient(a, b api.Int) api.Int {
	q, _, _ := exact.Div(a, b)
	return q
}

func isOne(a api.Int) bool {
	n, _ := exact.Small(a)
	return n == 1
}

// primitive returns the row of these cells times num divided by den.
func primitive(cells []api.Int, num, den api.Int) row {
	lead := slices.IndexFunc(cells, func(c api.Int) bool { return exact.Sign(c) != 0 })
	if lead < 0 {
		return row{cells: cells, unit: whole(1), lead: len(cells)}
	}
	content := cells[lead]
	for !isOne(content) {
		quotients, rest := divided(cells, content)
		if exact.Sign(rest) == 0 {
			cells, num = quotients, exact.Mul(num, content)
			break
		}
		content = exact.Gcd(content, rest)
	}
	unit, _ := exact.Make(num, den)
	return row{cells: cells, unit: unit, lead: lead}
}

// divided returns the cells divided by d, if it divides them; otherwise the rest of the first one that it does not divide.
func divided(cells []api.Int, d api.Int) (quotients []api.Int, rest api.Int) {
	quotients = make([]api.Int, len(cells))
	for j, c := range cells {
		quotients[j], rest, _ = exact.Div(c, d)
		if exact.Sign(rest) != 0 {
			return nil, rest
		}
	}
	return quotients, rest
}

// pivot returns the first integer that is not 0, of a row that has one.
func (r row) pivot() api.Int {
	return r.cells[r.lead]
}

// sign returns the sign of the first number that is not 0.
func (r row) sign() int {
	return exact.Sign(r.pivot()) * exact.Signum(r.unit)
}

// at returns the number in column j.
func (r row) at(j int) api.Ratio {
	return exact.Times(r.unit, exact.Whole(r.cells[j]))
}

// over returns the number in column j, divided by the first one that is not 0; 0 of a row of zeros.
func (r row) over(j int) api.Ratio {
	if r.lead == len(r.cells) {
		return whole(0)
	}
	q, _ := exact.Make(r.cells[j], r.pivot())
	return q
}

// dot returns the sum of the products of the numbers of both rows in the same column.
func (r row) dot(s row) api.Ratio {
	sum := api.Int{}
	for j := max(r.lead, s.lead); j < len(r.cells); j++ {
		sum = exact.Add(sum, exact.Mul(r.cells[j], s.cells[j]))
	}
	num := exact.Mul(exact.Mul(r.unit.Num, s.unit.Num), sum)
	product, _ := exact.Make(num, exact.Mul(r.unit.Den, s.unit.Den))
	return product
}

// eliminate returns r less a multiple of p, such that it has 0 where p has its first cell that is not 0.
func (p row) eliminate(r row) row {
	own, other := p.pivot(), r.cells[p.lead]
	if exact.Sign(other) == 0 {
		return r
	}
	divisor := exact.Gcd(own, other)
	own, other = quotient(own, divisor), quotient(other, divisor)
	cells := make([]api.Int, len(r.cells))
	for j, c := range r.cells {
		cells[j] = exact.Sub(exact.Mul(c, own), exact.Mul(p.cells[j], other))
	}
	return primitive(cells, r.unit.Num, exact.Mul(r.unit.Den, own))
}
