package exact

import "math/bits"

// natural is a number without a sign, by its words of 32 bits from the lowest one on; the last word is not 0.
type natural []uint32

// splitAt is the number of words from which on a product is made of products of halves.
const splitAt = 40

// trim leaves out the words 0 at the end; what it returns shares memory with words.
func trim(words []uint32) natural {
	n := len(words)
	for n > 0 && words[n-1] == 0 {
		n--
	}
	return words[:n]
}

func fresh(n natural) natural {
	if len(n) == 0 {
		return nil
	}
	words := make(natural, len(n))
	copy(words, n)
	return words
}

func ofWord(w uint64) natural {
	return trim([]uint32{uint32(w), uint32(w >> 32)})
}

// value returns a natural of at most two words.
func value(n natural) uint64 {
	switch len(n) {
	case 0:
		return 0
	case 1:
		return uint64(n[0])
	}
	return uint64(n[1])<<32 | uint64(n[0])
}

func isOne(n natural) bool {
	return len(n) == 1 && n[0] == 1
}

// bitLength returns the number of bits from the highest 1 on.
func bitLength(n natural) int {
	if len(n) == 0 {
		return 0
	}
	return 32*(len(n)-1) + bits.Len32(n[len(n)-1])
}

// order returns the sign of n minus m.
func order(n, m natural) int {
	if len(n) != len(m) {
		if len(n) < len(m) {
			return -1
		}
		return 1
	}
	for i := len(n) - 1; i >= 0; i-- {
		if n[i] < m[i] {
			return -1
		}
		if n[i] > m[i] {
			return 1
		}
	}
	return 0
}

func sum(n, m natural) natural {
	if len(n) < len(m) {
		n, m = m, n
	}
	words := make(natural, len(n)+1)
	copy(words, n)
	addTo(words, m)
	return trim(words)
}

// difference returns n minus m, which is not greater than n.
func difference(n, m natural) natural {
	words := fresh(n)
	takeFrom(words, m)
	return trim(words)
}

// addWords adds n to as many words, and returns what is carried to the next word.
func addWords(words []uint32, n natural) uint32 {
	var carry uint32
	for i, w := range n {
		words[i], carry = bits.Add32(words[i], w, carry)
	}
	return carry
}

// addTo adds n to words, which have room for the sum.
func addTo(words []uint32, n natural) {
	carry := addWords(words, n)
	for i := len(n); carry != 0; i++ {
		words[i], carry = bits.Add32(words[i], 0, carry)
	}
}

// takeFrom subtracts n from words, which are not less.
func takeFrom(words []uint32, n natural) {
	var borrow uint32
	for i, w := range n {
		words[i], borrow = bits.Sub32(words[i], w, borrow)
	}
	for i := len(n); borrow != 0; i++ {
		words[i], borrow = bits.Sub32(words[i], 0, borrow)
	}
}

// product returns n times m; of long ones by three products of their halves (Karatsuba).
func product(n, m natural) natural {
	if len(n) < len(m) {
		n, m = m, n
	}
	if len(m) < splitAt {
		return longProduct(n, m)
	}
	half := (len(n) + 1) / 2
	low, high := trim(n[:half]), n[half:]
	words := make(natural, len(n)+len(m))
	if len(m) <= half {
		copy(words, product(low, m))
		addTo(words[half:], product(high, m))
		return trim(words)
	}
	mLow, mHigh := trim(m[:half]), m[half:]
	first, last := product(low, mLow), product(high, mHigh)
	middle := product(sum(low, high), sum(mLow, mHigh))
	takeFrom(middle, first)
	takeFrom(middle, last)
	copy(words, first)
	copy(words[2*half:], last)
	addTo(words[half:], trim(middle))
	return trim(words)
}

func longProduct(n, m natural) natural {
	words := make(natural, len(n)+len(m))
	for i, w := range m {
		words[i+len(n)] = addProduct(words[i:], n, w)
	}
	return trim(words)
}

// addProduct adds n times w to as many words as n has, and returns what is carried to the next word.
func addProduct(words []uint32, n natural, w uint32) uint32 {
	var carry uint64
	for i, d := range n {
		carry += uint64(d)*uint64(w) + uint64(words[i])
		words[i] = uint32(carry)
		carry >>= 32
	}
	return uint32(carry)
}

// takeProduct subtracts n times w from as many words as n has, and returns what is borrowed from the next word.
func takeProduct(words []uint32, n natural, w uint32) uint32 {
	var borrow uint64
	for i, d := range n {
		borrow += uint64(d) * uint64(w)
		low := uint32(borrow)
		borrow >>= 32
		if words[i] < low {
			borrow++
		}
		words[i] -= low
	}
	return uint32(borrow)
}

// shiftInto lays n times 2^by, with by below 32, into words, which have one word more than n.
func shiftInto(words []uint32, n natural, by int) {
	var carry uint64
	for i, w := range n {
		carry |= uint64(w) << by
		words[i] = uint32(carry)
		carry >>= 32
	}
	words[len(n)] = uint32(carry)
}

func shiftLeft(n natural, by int) natural {
	if len(n) == 0 {
		return nil
	}
	skip := by / 32
	words := make(natural, skip+len(n)+1)
	shiftInto(words[skip:], n, by%32)
	return trim(words)
}

// shiftRight returns n divided by 2^by, rounded down.
func shiftRight(n natural, by int) natural {
	skip := by / 32
	if skip >= len(n) {
		return nil
	}
	words := make(natural, len(n)-skip)
	var above uint64
	for i := len(words) - 1; i >= 0; i-- {
		above = above<<32 | uint64(n[i+skip])
		words[i] = uint32(above >> (by % 32))
	}
	return trim(words)
}
