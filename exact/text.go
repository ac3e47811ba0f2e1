package exact

import (
	"iter"
	"strings"

	"hodoscope/api"
)

// A group is as many decimal digits as a word of 32 bits can have.
const (
	groupDigits = 9
	groupSize   = 1_000_000_000
)

// Text returns the text of a.
func Text(a api.Int) string {
	neg, n := split(a)
	if neg {
		return "-" + digitsOf(n)
	}
	return digitsOf(n)
}

// groups yields groups of the digits of n, from the last one on, and what is left before each; after the first digit, groups of zeros without an end.
func groups(n natural) iter.Seq2[uint32, natural] {
	return func(yield func(uint32, natural) bool) {
		rest := fresh(n)
		for {
			group := divideWords(rest, groupSize)
			rest = trim(rest)
			if !yield(group, rest) {
				return
			}
		}
	}
}

func digitsOf(n natural) string {
	// A word has fewer than ten digits, on the average.
	text := make([]byte, 10*len(n)+1)
	at := len(text)
write:
	for group, before := range groups(n) {
		for range groupDigits {
			at--
			text[at] = '0' + byte(group%10)
			group /= 10
			if group == 0 && len(before) == 0 {
				break write
			}
		}
	}
	return string(text[at:])
}

// pieces yields s in pieces of at most a group's length.
func pieces(s string) iter.Seq[string] {
	return func(yield func(string) bool) {
		for len(s) > groupDigits {
			if !yield(s[:groupDigits]) {
				return
			}
			s = s[groupDigits:]
		}
		yield(s)
	}
}

// readDigits returns the number whose digits s is: one or more, perhaps with zeros first.
func readDigits(s string) (n natural, ok bool) {
	ok = s != ""
	words := make(natural, 0, len(s)/groupDigits+1)
read:
	for piece := range pieces(s) {
		group, size := uint32(0), uint32(1)
		for _, c := range []byte(piece) {
			if c < '0' || c > '9' {
				words, ok = nil, false
				break read
			}
			group, size = 10*group+uint32(c-'0'), 10*size
		}
		words = append(words, 0)
		scaleWords(words, size, group)
		words = trim(words)
	}
	return words, ok
}

// scaleWords multiplies words, which have room for the result, by size, and adds group.
func scaleWords(words []uint32, size, group uint32) {
	carry := uint64(group)
	for i, w := range words {
		carry += uint64(w) * uint64(size)
		words[i] = uint32(carry)
		carry >>= 32
	}
}

// readNatural returns the number whose text s is: digits without leading zeros.
func readNatural(s string) (n natural, ok bool) {
	if len(s) > 1 && s[0] == '0' {
		return nil, false
	}
	return readDigits(s)
}

// readInteger returns the integer whose text s is.
func readInteger(s string) (a api.Int, ok bool) {
	rest, neg := strings.CutPrefix(s, "-")
	n, ok := readNatural(rest)
	if !ok || neg && len(n) == 0 {
		return api.Int{}, false
	}
	return signed(neg, n), true
}

// Parse returns the integer of a text.
func Parse(s string) (api.Int, api.Errno) {
	if len(s) > api.MaxDigits {
		return api.Int{}, api.ErrLong
	}
	a, ok := readInteger(s)
	if !ok {
		return api.Int{}, api.ErrForm
	}
	return a, api.OK
}

// Decimal returns the decimals of r, rounded to places.
func Decimal(r api.Ratio, places int) (string, api.Errno) {
	if places < 0 || places > api.MaxPlaces {
		return "", api.ErrArg
	}
	num, den := terms(r)
	neg, n := split(nearest(Mul(num, powerOfTen(places)), den))
	digits := digitsOf(n)
	if lack := places + 1 - len(digits); lack > 0 {
		digits = strings.Repeat("0", lack) + digits
	}
	if places > 0 {
		point := len(digits) - places
		digits = digits[:point] + "." + digits[point:]
	}
	if neg {
		return "-" + digits, api.OK
	}
	return digits, api.OK
}

func powerOfTen(n int) api.Int {
	return signed(false, powerOf(ofWord(10), n))
}

// Show returns the text of r.
func Show(r api.Ratio) string {
	r = Lowest(r)
	if isOne(r.Den.Words) {
		return Text(r.Num)
	}
	return Text(r.Num) + "/" + Text(r.Den)
}

// ParseRatio returns the number of a text.
func ParseRatio(s string) (api.Ratio, api.Errno) {
	if len(s) > api.MaxDigits {
		return api.Ratio{}, api.ErrLong
	}
	num, den, ok := readTerms(s)
	if !ok {
		return api.Ratio{}, api.ErrForm
	}
	return lowest(num, den), api.OK
}

// readTerms returns the two integers of which the ratio of a text is made; the second one is positive.
func readTerms(s string) (num, den api.Int, ok bool) {
	if before, after, slash := strings.Cut(s, "/"); slash {
		num, first := readInteger(before)
		n, second := readNatural(after)
		return num, signed(false, n), first && second && len(n) > 0
	}
	if before, after, point := strings.Cut(s, "."); point {
		return readFraction(before, after)
	}
	num, ok = readInteger(s)
	return num, Of(1), ok
}

// readFraction returns the terms of a decimal fraction with these texts before and after the point.
func readFraction(before, after string) (num, den api.Int, ok bool) {
	whole, neg := strings.CutPrefix(before, "-")
	_, first := readNatural(whole)
	_, second := readDigits(after)
	if !first || !second || len(after) > api.MaxPlaces {
		return api.Int{}, api.Int{}, false
	}
	n, _ := readDigits(whole + after)
	return signed(neg, n), powerOfTen(len(after)), true
}
