// Package exact is layer 1: integers of any size, and ratios of them. See shared/doc/01-exact.md.
package exact

import "hodoscope/api"

// split returns the sign and the size of a; the size shares memory with a.
func split(a api.Int) (neg bool, n natural) {
	n = trim(a.Words)
	return a.Neg && len(n) > 0, n
}

// signed returns the integer of that size, which it takes over.
func signed(neg bool, n natural) api.Int {
	if len(n) == 0 {
		return api.Int{}
	}
	return api.Int{Neg: neg, Words: n}
}

// Of returns n.
func Of(n int64) api.Int {
	size := uint64(n)
	if n < 0 {
		size = -size
	}
	return signed(n < 0, ofWord(size))
}

// Small returns a, if it has 64 bits.
func Small(a api.Int) (int64, bool) {
	neg, n := split(a)
	if len(n) > 2 {
		return 0, false
	}
	size := value(n)
	switch {
	case size < 1<<63 && !neg:
		return int64(size), true
	case size <= 1<<63 && neg:
		return int64(-size), true
	}
	return 0, false
}

// Normal returns a in normal form.
func Normal(a api.Int) api.Int {
	neg, n := split(a)
	return signed(neg, fresh(n))
}

// Sign returns -1, 0 or 1.
func Sign(a api.Int) int {
	neg, n := split(a)
	switch {
	case len(n) == 0:
		return 0
	case neg:
		return -1
	}
	return 1
}

// Cmp returns the sign of a minus b.
func Cmp(a, b api.Int) int {
	aNeg, n := split(a)
	bNeg, m := split(b)
	switch {
	case aNeg && bNeg:
		return order(m, n)
	case aNeg:
		return -1
	case bNeg:
		return 1
	}
	return order(n, m)
}

// Neg returns minus a.
func Neg(a api.Int) api.Int {
	neg, n := split(a)
	return signed(!neg, fresh(n))
}

// Add returns the sum.
func Add(a, b api.Int) api.Int {
	aNeg, n := split(a)
	bNeg, m := split(b)
	return signedSum(aNeg, n, bNeg, m)
}

// Sub returns the difference.
func Sub(a, b api.Int) api.Int {
	aNeg, n := split(a)
	bNeg, m := split(b)
	return signedSum(aNeg, n, !bNeg, m)
}

// signedSum returns the sum of two integers that are given by their signs and sizes.
func signedSum(aNeg bool, n natural, bNeg bool, m natural) api.Int {
	switch {
	case aNeg == bNeg:
		return signed(aNeg, sum(n, m))
	case order(n, m) < 0:
		return signed(bNeg, difference(m, n))
	}
	return signed(aNeg, difference(n, m))
}

// Mul returns the product.
func Mul(a, b api.Int) api.Int {
	aNeg, n := split(a)
	bNeg, m := split(b)
	return signed(aNeg != bNeg, product(n, m))
}

// Div returns the floor of the quotient, and the rest.
func Div(a, b api.Int) (q, r api.Int, e api.Errno) {
	aNeg, n := split(a)
	bNeg, m := split(b)
	if len(m) == 0 {
		return api.Int{}, api.Int{}, api.ErrZero
	}
	quotient, rest := divide(n, m)
	if aNeg != bNeg && len(rest) > 0 {
		// The quotient of the sizes is rounded towards 0: the floor is one further from it.
		quotient, rest = sum(quotient, ofWord(1)), difference(m, rest)
	}
	return signed(aNeg != bNeg, quotient), signed(bNeg, rest), api.OK
}

// Gcd returns the greatest common divisor.
func Gcd(a, b api.Int) api.Int {
	_, n := split(a)
	_, m := split(b)
	return signed(false, common(n, m))
}

// Power returns a to the power n, by squares.
func Power(a api.Int, n int) (api.Int, api.Errno) {
	if n < 0 || n > api.MaxPower {
		return api.Int{}, api.ErrArg
	}
	neg, base := split(a)
	return signed(neg && n%2 == 1, powerOf(base, n)), api.OK
}

func powerOf(base natural, n int) natural {
	if n == 0 {
		return ofWord(1)
	}
	half := powerOf(base, n/2)
	square := product(half, half)
	if n%2 == 1 {
		return product(square, base)
	}
	return square
}

// Root returns the square root, rounded down, by Newton's steps from above.
func Root(a api.Int) (api.Int, api.Errno) {
	neg, n := split(a)
	if neg {
		return api.Int{}, api.ErrArg
	}
	return signed(false, rootOf(n)), api.OK
}

func rootOf(n natural) natural {
	if len(n) == 0 {
		return nil
	}
	newton := func(x natural) natural {
		quotient, _ := divide(n, x)
		return shiftRight(sum(x, quotient), 1)
	}
	less := func(x, y natural) bool { return order(x, y) < 0 }
	return descend(shiftLeft(ofWord(1), (bitLength(n)+1)/2), newton, less)
}

// descend repeats step from start on, as long as what it makes is less, and returns the least.
func descend(start natural, step func(natural) natural, less func(x, y natural) bool) natural {
	x := start
	for {
		next := step(x)
		if !less(next, x) {
			return x
		}
		x = next
	}
}
