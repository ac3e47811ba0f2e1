package exact

import "hodoscope/api"

// terms returns two integers of which the first, divided by the second, is r; the second one is positive. They may share memory with r.
func terms(r api.Ratio) (num, den api.Int) {
	switch Sign(r.Den) {
	case 0:
		return api.Int{}, Of(1)
	case -1:
		return Neg(r.Num), Neg(r.Den)
	}
	return r.Num, r.Den
}

// lowest returns num divided by den, which is positive, in normal form.
func lowest(num, den api.Int) api.Ratio {
	neg, n := split(num)
	_, d := split(den)
	if len(n) == 0 {
		return api.Ratio{Den: Of(1)}
	}
	divisor := common(n, d)
	if isOne(divisor) {
		return api.Ratio{Num: signed(neg, fresh(n)), Den: signed(false, fresh(d))}
	}
	n, _ = divide(n, divisor)
	d, _ = divide(d, divisor)
	return api.Ratio{Num: signed(neg, n), Den: signed(false, d)}
}

// Make returns num divided by den.
func Make(num, den api.Int) (api.Ratio, api.Errno) {
	if Sign(den) == 0 {
		return api.Ratio{}, api.ErrZero
	}
	return Lowest(api.Ratio{Num: num, Den: den}), api.OK
}

// Over returns num divided by den.
func Over(num, den int64) (api.Ratio, api.Errno) {
	return Make(Of(num), Of(den))
}

// Whole returns the ratio a.
func Whole(a api.Int) api.Ratio {
	return api.Ratio{Num: Normal(a), Den: Of(1)}
}

// Lowest returns r in normal form.
func Lowest(r api.Ratio) api.Ratio {
	return lowest(terms(r))
}

// Signum returns -1, 0 or 1.
func Signum(r api.Ratio) int {
	return Sign(r.Num) * Sign(r.Den)
}

// Compare returns the sign of r minus s.
func Compare(r, s api.Ratio) int {
	rNum, rDen := terms(r)
	sNum, sDen := terms(s)
	return Cmp(Mul(rNum, sDen), Mul(sNum, rDen))
}

// Plus returns the sum.
func Plus(r, s api.Ratio) api.Ratio {
	return combined(r, s, Add)
}

// Minus returns the difference.
func Minus(r, s api.Ratio) api.Ratio {
	return combined(r, s, Sub)
}

// combined brings r and s to one denominator, and applies op to their numerators.
func combined(r, s api.Ratio, op func(a, b api.Int) api.Int) api.Ratio {
	rNum, rDen := terms(r)
	sNum, sDen := terms(s)
	if Cmp(rDen, sDen) == 0 {
		return lowest(op(rNum, sNum), rDen)
	}
	return lowest(op(Mul(rNum, sDen), Mul(sNum, rDen)), Mul(rDen, sDen))
}

// Times returns the product.
func Times(r, s api.Ratio) api.Ratio {
	rNum, rDen := terms(r)
	sNum, sDen := terms(s)
	return lowest(Mul(rNum, sNum), Mul(rDen, sDen))
}

// Quotient returns r divided by s.
func Quotient(r, s api.Ratio) (api.Ratio, api.Errno) {
	if Signum(s) == 0 {
		return api.Ratio{}, api.ErrZero
	}
	return Times(r, api.Ratio{Num: s.Den, Den: s.Num}), api.OK
}

// Total returns the sum of all.
func Total(l ...api.Ratio) api.Ratio {
	t := Whole(api.Int{})
	for _, r := range l {
		t = Plus(t, r)
	}
	return t
}

// Dot returns the sum of the products.
func Dot(l, m []api.Ratio) (api.Ratio, api.Errno) {
	if len(l) != len(m) {
		return api.Ratio{}, api.ErrArg
	}
	t := Whole(api.Int{})
	for i, r := range l {
		t = Plus(t, Times(r, m[i]))
	}
	return t, api.OK
}
