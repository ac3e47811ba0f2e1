package exact

import "math/bits"

// divide returns n divided by m, which is not 0, rounded down, and the rest.
func divide(n, m natural) (q, r natural) {
	switch {
	case order(n, m) < 0:
		return nil, fresh(n)
	case len(n) <= 2:
		x, y := value(n), value(m)
		return ofWord(x / y), ofWord(x % y)
	case len(m) == 1:
		words := fresh(n)
		rest := divideWords(words, m[0])
		return trim(words), ofWord(uint64(rest))
	}
	return longDivide(n, m)
}

// divideWords divides words by w in place, and returns the rest.
func divideWords(words []uint32, w uint32) uint32 {
	var rest uint64
	for i := len(words) - 1; i >= 0; i-- {
		part := rest<<32 | uint64(words[i])
		words[i] = uint32(part / uint64(w))
		rest = part % uint64(w)
	}
	return uint32(rest)
}

// longDivide divides by an m of two or more words, by Knuth's algorithm D: both are shifted so that the highest bit of m is 1, which makes the guesses good.
func longDivide(n, m natural) (q, r natural) {
	shift := bits.LeadingZeros32(m[len(m)-1])
	divisor := shiftLeft(m, shift)
	rest := make(natural, len(n)+1)
	shiftInto(rest, n, shift)
	q = make(natural, len(n)-len(m)+1)
	for i := len(q) - 1; i >= 0; i-- {
		q[i] = takeQuotient(rest[i:i+len(m)+1], divisor)
	}
	return trim(q), shiftRight(trim(rest), shift)
}

// takeQuotient divides part, which has one word more than divisor, and a quotient of one word; it leaves the rest in part.
func takeQuotient(part []uint32, divisor natural) uint32 {
	k := len(divisor)
	guess := guessQuotient(part, divisor)
	borrow := takeProduct(part, divisor, guess)
	below := part[k] < borrow
	part[k] -= borrow
	if below {
		guess--
		part[k] += addWords(part, divisor)
	}
	return guess
}

// guessQuotient returns the quotient, or one more, from three words of part and two of divisor.
func guessQuotient(part []uint32, divisor natural) uint32 {
	k := len(divisor)
	first, second := uint64(divisor[k-1]), uint64(divisor[k-2])
	top := uint64(part[k])<<32 | uint64(part[k-1])
	guess, rest := top/first, top%first
	for guess>>32 != 0 || guess*second > rest<<32|uint64(part[k-2]) {
		guess--
		rest += first
		if rest>>32 != 0 {
			break
		}
	}
	return uint32(guess)
}

// common returns the greatest natural that divides both, by Lehmer's algorithm: many steps of Euclid's are found from the highest bits, and done at once.
func common(n, m natural) natural {
	if order(n, m) < 0 {
		n, m = m, n
	}
	if len(m) <= 2 {
		return commonShort(n, m)
	}
	a, b := fresh(n), fresh(m)
	for len(b) > 2 {
		s := lookAhead(a, b)
		if s.v0 == 0 {
			_, rest := divide(a, b)
			a, b = b, rest
		} else {
			a, b = s.apply(a, b)
		}
	}
	return commonShort(a, b)
}

// commonShort is common for an m of at most two words.
func commonShort(n, m natural) natural {
	switch {
	case len(m) == 0:
		return fresh(n)
	case len(n) <= 2:
		return ofWord(commonWord(value(m), value(n)))
	}
	_, rest := divide(n, m)
	return ofWord(commonWord(value(m), value(rest)))
}

// commonWord is common for single words, of which a is not 0.
func commonWord(a, b uint64) uint64 {
	if b == 0 {
		return a
	}
	twos := bits.TrailingZeros64(a | b)
	a >>= bits.TrailingZeros64(a)
	for b != 0 {
		b >>= bits.TrailingZeros64(b)
		if a > b {
			a, b = b, a
		}
		b -= a
	}
	return a << twos
}

// steps stands for a number of Euclid's steps: they lead from a, b to u0 a - v0 b, v1 b - u1 a, or, if odd is true, to minus these. All four are below 2^32.
type steps struct {
	u0, v0, u1, v1 uint64
	odd            bool
}

// lookAhead returns those of Euclid's steps from a, b that are certain from their highest 64 bits, by Collins' condition; v0 is 0 if they are less than two.
func lookAhead(a, b natural) steps {
	shift := bits.LeadingZeros32(a[len(a)-1])
	x, y := highBits(a, len(a), shift), highBits(b, len(a), shift)
	s := steps{u0: 0, u1: 1, odd: true}
	u, v := uint64(0), uint64(1)
	for y >= v && x-y >= s.v1+v {
		q := x / y
		x, y = y, x-q*y
		s.u0, s.u1, u = s.u1, u, s.u1+q*u
		s.v0, s.v1, v = s.v1, v, s.v1+q*v
		s.odd = !s.odd
	}
	return s
}

// highBits returns 64 bits of n, from the highest bit of a natural of length words on, of which shift bits are 0.
func highBits(n natural, length, shift int) uint64 {
	word := func(i int) uint64 {
		if i >= len(n) {
			return 0
		}
		return uint64(n[i])
	}
	return (word(length-1)<<32|word(length-2))<<shift | word(length-3)>>(32-shift)
}

// apply does the steps in place, and returns what became of a and b.
func (s steps) apply(a, b natural) (natural, natural) {
	// What comes out is not longer than b, so words above it can only become 0.
	a = a[:len(b)]
	if s.odd {
		mix(b, a, s.v0, s.u0, s.u1, s.v1)
		return trim(b), trim(a)
	}
	mix(a, b, s.u0, s.v0, s.v1, s.u1)
	return trim(a), trim(b)
}

// mix sets x to p x - q y, and y to r y - s x.
func mix(x, y natural, p, q, r, s uint64) {
	var px, qy, ry, sx, low uint64
	var borrow, lack uint64
	for i := range x {
		v, w := uint64(x[i]), uint64(y[i])
		px, qy, ry, sx = px+p*v, qy+q*w, ry+r*w, sx+s*v
		low = px&0xffffffff - qy&0xffffffff - borrow
		x[i], borrow = uint32(low), low>>63
		low = ry&0xffffffff - sx&0xffffffff - lack
		y[i], lack = uint32(low), low>>63
		px, qy, ry, sx = px>>32, qy>>32, ry>>32, sx>>32
	}
}
