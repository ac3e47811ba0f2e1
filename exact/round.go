package exact

import "hodoscope/api"

// floor returns num divided by den, which is positive, rounded down.
func floor(num, den api.Int) api.Int {
	q, _, _ := Div(num, den)
	return q
}

// nearest returns the nearest integer of num divided by den, which is positive.
func nearest(num, den api.Int) api.Int {
	return floor(Add(double(num, 1), den), double(den, 1))
}

// double returns a times 2^bits.
func double(a api.Int, bits int) api.Int {
	neg, n := split(a)
	return signed(neg, shiftLeft(n, bits))
}

func areBits(bits int) bool {
	return bits >= 0 && bits <= api.MaxBits
}

// Floor returns the greatest integer that is not greater than r.
func Floor(r api.Ratio) api.Int {
	return floor(terms(r))
}

// Nearest returns the nearest integer; halves are rounded up.
func Nearest(r api.Ratio) api.Int {
	return nearest(terms(r))
}

// Fixed returns the nearest integer of r times 2^bits.
func Fixed(r api.Ratio, bits int) (api.Int, api.Errno) {
	if !areBits(bits) {
		return api.Int{}, api.ErrArg
	}
	num, den := terms(r)
	return nearest(double(num, bits), den), api.OK
}

// FromFixed returns n divided by 2^bits.
func FromFixed(n api.Int, bits int) (api.Ratio, api.Errno) {
	if !areBits(bits) {
		return api.Ratio{}, api.ErrArg
	}
	return lowest(n, double(Of(1), bits)), api.OK
}

// RootFixed returns the square root of r times 2^bits, rounded down.
func RootFixed(r api.Ratio, bits int) (api.Int, api.Errno) {
	if !areBits(bits) || Signum(r) < 0 {
		return api.Int{}, api.ErrArg
	}
	num, den := terms(r)
	return Root(floor(double(num, 2*bits), den))
}

// Between returns the simplest number from lo to hi.
func Between(lo, hi api.Ratio) (api.Ratio, api.Errno) {
	switch {
	case Compare(lo, hi) > 0:
		return api.Ratio{}, api.ErrArg
	case Signum(lo) > 0:
		return simplest(lo, hi), api.OK
	case Signum(hi) < 0:
		r := simplest(hi, lo)
		r.Num = Neg(r.Num)
		return r, api.OK
	}
	return Whole(api.Int{}), api.OK
}

// simplest returns the simplest number between the sizes of two numbers that are not 0, of which the first is not the greater one. It is the continued fraction that both have in common, and then the least integer that is possible.
func simplest(lo, hi api.Ratio) api.Ratio {
	a, b := sizes(lo)
	c, d := sizes(hi)
	num, den, lastNum, lastDen := Of(1), Of(0), Of(0), Of(1)
	for {
		whole, rest, _ := Div(a, b)
		above := Add(whole, Of(1))
		if Sign(rest) == 0 {
			return api.Ratio{Num: next(whole, num, lastNum), Den: next(whole, den, lastDen)}
		}
		if Cmp(Mul(above, d), c) <= 0 {
			return api.Ratio{Num: next(above, num, lastNum), Den: next(above, den, lastDen)}
		}
		num, lastNum = next(whole, num, lastNum), num
		den, lastDen = next(whole, den, lastDen), den
		// What remains of both is below 1: go on with its inverse, which swaps the greater and the lesser.
		a, b, c, d = d, Sub(c, Mul(whole, d)), b, rest
	}
}

// sizes returns the terms of r without its sign.
func sizes(r api.Ratio) (num, den api.Int) {
	num, den = terms(r)
	num.Neg = false
	return num, den
}

// next returns the number that follows two of a continued fraction's numerators, or denominators.
func next(part, last, before api.Int) api.Int {
	return Add(Mul(part, last), before)
}
