package exact_test

import (
	"math/big"
	"math/rand"
	"slices"
	"testing"

	"hodoscope/api"
	"hodoscope/exact"
)

// The tests hold package exact against math/big, by the package's exported functions only.

func bigInt(a api.Int) *big.Int {
	n := new(big.Int)
	for i := len(a.Words) - 1; i >= 0; i-- {
		n.Lsh(n, 32)
		n.Or(n, big.NewInt(int64(a.Words[i])))
	}
	if a.Neg {
		n.Neg(n)
	}
	return n
}

func ofBig(n *big.Int) api.Int {
	a := api.Int{Neg: n.Sign() < 0}
	for m := new(big.Int).Abs(n); m.Sign() > 0; m.Rsh(m, 32) {
		a.Words = append(a.Words, uint32(m.Uint64()))
	}
	return a
}

// integer reads an integer by math/big, so that it does not depend on what is tested.
func integer(s string) api.Int {
	n, ok := new(big.Int).SetString(s, 0)
	if !ok {
		panic(s)
	}
	return ofBig(n)
}

// bigRat returns the number for which r stands.
func bigRat(r api.Ratio) *big.Rat {
	den := bigInt(r.Den)
	if den.Sign() == 0 {
		return new(big.Rat)
	}
	return new(big.Rat).SetFrac(bigInt(r.Num), den)
}

func ofRat(r *big.Rat) api.Ratio {
	return api.Ratio{Num: ofBig(r.Num()), Den: ofBig(r.Denom())}
}

// ratio reads a ratio by math/big.
func ratio(s string) api.Ratio {
	r, ok := new(big.Rat).SetString(s)
	if !ok {
		panic(s)
	}
	return ofRat(r)
}

// loose returns a as other fields that stand for the same integer.
func loose(a api.Int) api.Int {
	b := api.Int{Neg: a.Neg || len(a.Words) == 0}
	b.Words = append(slices.Clone(a.Words), 0, 0)
	return b
}

// looseRatio returns r as other fields that stand for the same number: with a common divisor, and a negative denominator.
func looseRatio(r api.Ratio) api.Ratio {
	by := big.NewInt(-6)
	return api.Ratio{Num: loose(ofBig(new(big.Int).Mul(bigInt(r.Num), by))), Den: loose(ofBig(new(big.Int).Mul(bigInt(r.Den), by)))}
}

func isNormal(a api.Int) bool {
	n := len(a.Words)
	if n == 0 {
		return !a.Neg
	}
	return a.Words[n-1] != 0
}

func isLowest(r api.Ratio) bool {
	if !isNormal(r.Num) || !isNormal(r.Den) || r.Den.Neg || len(r.Den.Words) == 0 {
		return false
	}
	divisor := new(big.Int).GCD(nil, nil, new(big.Int).Abs(bigInt(r.Num)), bigInt(r.Den))
	return divisor.Cmp(big.NewInt(1)) == 0
}

// wantInt checks that got is n, in normal form.
func wantInt(t *testing.T, got api.Int, n *big.Int, of ...any) {
	t.Helper()
	if !isNormal(got) || bigInt(got).Cmp(n) != 0 {
		t.Errorf("%v: %v, want %v", of, got, n)
	}
}

// wantRatio checks that got is r, in normal form.
func wantRatio(t *testing.T, got api.Ratio, r *big.Rat, of ...any) {
	t.Helper()
	if !isLowest(got) || bigRat(got).Cmp(r) != 0 {
		t.Errorf("%v: %v, want %v", of, got, r)
	}
}

func isZeroInt(a api.Int) bool {
	return !a.Neg && len(a.Words) == 0
}

// wantIntError checks an error, and that the integer beside it is the zero value.
func wantIntError(t *testing.T, got api.Int, e, want api.Errno, of ...any) {
	t.Helper()
	if e != want || !isZeroInt(got) {
		t.Errorf("%v: %v, %v, want the error %v", of, got, e, want)
	}
}

// wantRatioError checks an error, and that the ratio beside it is the zero value (of which also Den is 0).
func wantRatioError(t *testing.T, got api.Ratio, e, want api.Errno, of ...any) {
	t.Helper()
	if e != want || !isZeroInt(got.Num) || !isZeroInt(got.Den) {
		t.Errorf("%v: %v, %v, want the error %v", of, got, e, want)
	}
}

func wantOK(t *testing.T, e api.Errno, of ...any) {
	t.Helper()
	if e != api.OK {
		t.Errorf("%v: error %v", of, e)
	}
}

// numbers are integers of all sizes at which something may change, and their negatives.
func numbers() []api.Int {
	texts := []string{"0", "1", "2", "3", "9", "10", "0x7fffffff", "0x80000000", "0xffffffff", "0x100000000", "0x100000001", "999999999", "1000000000", "0x7fffffffffffffff", "0x8000000000000000", "0x8000000000000001", "0xffffffffffffffff", "0x10000000000000000", "0x10000000000000001", "1000000000000000000", "999999999999999999999999999", "1000000000000000000000000000", "0xffffffffffffffffffffffff", "0x7fffffff800000000000000000000000", "0x800000000000000000000001", "0x100000000000000000000000000000000"}
	var l []api.Int
	for _, s := range texts {
		l = append(l, integer(s))
		if s != "0" {
			l = append(l, integer("-"+s))
		}
	}
	return l
}

func ratios() []api.Ratio {
	var l []api.Ratio
	for _, s := range []string{"0", "1", "-1", "1/2", "-1/2", "1/3", "2/3", "-2/3", "5/2", "-5/2", "7", "-7", "22/7", "1/4294967296", "-4294967295/4294967296", "18446744073709551617/18446744073709551616", "-100000000000000000000/3", "1/1000000000000000000000", "123456789123456789/987654321987654321"} {
		l = append(l, ratio(s))
	}
	return l
}

// source makes the same numbers in every run.
type source struct{ *rand.Rand }

func newSource() source {
	return source{rand.New(rand.NewSource(1))}
}

// integer returns an integer of at most so many words; many of the words are at the ends of their range.
func (s source) integer(words int) api.Int {
	n := new(big.Int)
	for range s.Intn(words + 1) {
		word := []uint32{0, 1, 0x7fffffff, 0x80000000, 0xffffffff, 0xfffffffe, s.Uint32(), s.Uint32()}[s.Intn(8)]
		n.Lsh(n, 32)
		n.Or(n, big.NewInt(int64(word)))
	}
	if s.Intn(2) == 0 {
		n.Neg(n)
	}
	return ofBig(n)
}

func (s source) ratio(words int) api.Ratio {
	num, den := bigInt(s.integer(words)), bigInt(s.integer(words))
	if den.Sign() == 0 {
		den.SetInt64(1)
	}
	return ofRat(new(big.Rat).SetFrac(num, den))
}

// small returns a ratio of small terms.
func (s source) small() api.Ratio {
	return ofRat(big.NewRat(s.Int63n(61)-30, 1+s.Int63n(12)))
}

func show(r api.Ratio) string {
	return exact.Show(r)
}
