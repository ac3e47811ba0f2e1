package exact_test

import (
	"math"
	"math/big"
	"testing"

	"hodoscope/api"
	"hodoscope/exact"
)

func TestOfAndSmall(t *testing.T) {
	for _, n := range []int64{0, 1, -1, 1<<31 - 1, 1 << 31, 1<<32 - 1, 1 << 32, -1 << 32, 1<<33 + 5, math.MaxInt64 - 1, math.MaxInt64, math.MinInt64 + 1, math.MinInt64} {
		a := exact.Of(n)
		wantInt(t, a, big.NewInt(n), "Of", n)
		if m, ok := exact.Small(a); m != n || !ok {
			t.Error("Small", n, m, ok)
		}
		if m, ok := exact.Small(loose(a)); m != n || !ok {
			t.Error("Small, not normal", n, m, ok)
		}
	}
	for _, s := range []string{"0x8000000000000000", "-0x8000000000000001", "0xffffffffffffffff", "-0xffffffffffffffff", "0x10000000000000000", "-0x10000000000000000", "0x100000000000000000000000000"} {
		if m, ok := exact.Small(integer(s)); m != 0 || ok {
			t.Error("Small", s, m, ok)
		}
	}
}

func TestNormal(t *testing.T) {
	for _, a := range numbers() {
		for _, b := range []api.Int{a, loose(a)} {
			wantInt(t, exact.Normal(b), bigInt(a), "Normal", b)
			wantInt(t, exact.Neg(b), new(big.Int).Neg(bigInt(a)), "Neg", b)
			if s := exact.Sign(b); s != bigInt(a).Sign() {
				t.Error("Sign", b, s)
			}
		}
	}
	for _, a := range []api.Int{{}, {Neg: true}, {Words: []uint32{}}, {Words: []uint32{0}}, {Neg: true, Words: []uint32{0, 0, 0}}} {
		wantInt(t, exact.Normal(a), new(big.Int), "Normal", a)
		wantInt(t, exact.Neg(a), new(big.Int), "Neg", a)
		if s := exact.Sign(a); s != 0 {
			t.Error("Sign", a, s)
		}
		if n, ok := exact.Small(a); n != 0 || !ok {
			t.Error("Small", a, n, ok)
		}
	}
}

// checkPair checks what is said of two integers.
func checkPair(t *testing.T, a, b api.Int) {
	t.Helper()
	x, y := bigInt(a), bigInt(b)
	if c := exact.Cmp(a, b); c != x.Cmp(y) {
		t.Error("Cmp", a, b, c)
	}
	wantInt(t, exact.Add(a, b), new(big.Int).Add(x, y), "Add", a, b)
	wantInt(t, exact.Sub(a, b), new(big.Int).Sub(x, y), "Sub", a, b)
	wantInt(t, exact.Mul(a, b), new(big.Int).Mul(x, y), "Mul", a, b)
	wantInt(t, exact.Gcd(a, b), new(big.Int).GCD(nil, nil, new(big.Int).Abs(x), new(big.Int).Abs(y)), "Gcd", a, b)
	q, r, e := exact.Div(a, b)
	if y.Sign() == 0 {
		wantIntError(t, q, e, api.ErrZero, "Div", a, b)
		wantIntError(t, r, e, api.ErrZero, "Div", a, b)
		return
	}
	wantOK(t, e, "Div", a, b)
	floor, rest := floorDiv(x, y)
	wantInt(t, q, floor, "Div", a, b, "quotient")
	wantInt(t, r, rest, "Div", a, b, "rest")
}

// floorDiv returns the floor and the rest that belongs to it.
func floorDiv(x, y *big.Int) (q, r *big.Int) {
	q, r = new(big.Int).QuoRem(x, y, new(big.Int))
	if r.Sign()*y.Sign() < 0 {
		q.Sub(q, big.NewInt(1))
		r.Add(r, y)
	}
	return q, r
}

func TestPairs(t *testing.T) {
	for _, a := range numbers() {
		for _, b := range numbers() {
			checkPair(t, a, b)
			checkPair(t, loose(a), b)
			checkPair(t, a, loose(b))
		}
	}
	s := newSource()
	for range 4000 {
		checkPair(t, s.integer(12), s.integer(9))
	}
}

func TestLongPairs(t *testing.T) {
	s := newSource()
	for range 60 {
		a, b, c := s.integer(400), s.integer(400), s.integer(90)
		checkPair(t, a, b)
		checkPair(t, a, c)
		checkPair(t, exact.Mul(a, c), exact.Mul(b, c))
	}
	ones := ofBig(new(big.Int).Sub(new(big.Int).Lsh(big.NewInt(1), 32*300), big.NewInt(1)))
	power := ofBig(new(big.Int).Lsh(big.NewInt(1), 32*150))
	for _, a := range []api.Int{ones, power, exact.Mul(power, ones)} {
		for _, b := range []api.Int{ones, power, exact.Neg(ones)} {
			checkPair(t, a, b)
		}
	}
}

// The quotients of these need Knuth's correction of a guess, and of one that is still too large.
func TestDivGuesses(t *testing.T) {
	for _, x := range [][2]string{
		{"0x00007fff000080000000000000000000", "0x000080000000000000000001"},
		{"0x800000000000fffe00000000", "0x800000000000ffff"},
		{"0x7fffffff800000010000000000000000", "0x800000008000000200000005"},
		{"0x800000000000000000000003", "0x200000000000000000000001"},
		{"0xffffffffffffffff0000000000000000", "0xffffffffffffffff"},
		{"0xfffffffffffffffeffffffff00000000", "0xffffffffffffffff"},
		{"0x8000000000000000000000000000000000000000", "0x80000000ffffffffffffffff"},
	} {
		checkPair(t, integer(x[0]), integer(x[1]))
		checkPair(t, integer("-"+x[0]), integer(x[1]))
	}
}

func TestGcdOfLongRuns(t *testing.T) {
	// Neighbours of Fibonacci's row have the most steps, all with the quotient 1.
	a, b := big.NewInt(0), big.NewInt(1)
	for range 2000 {
		a, b = b, new(big.Int).Add(a, b)
	}
	checkPair(t, ofBig(a), ofBig(b))
	checkPair(t, ofBig(b), ofBig(a))
	common := new(big.Int).Lsh(big.NewInt(12345), 700)
	g := exact.Gcd(ofBig(new(big.Int).Mul(a, common)), ofBig(new(big.Int).Neg(new(big.Int).Mul(b, common))))
	wantInt(t, g, common, "Gcd with a common divisor")
	wantInt(t, exact.Gcd(api.Int{Neg: true}, api.Int{Words: []uint32{0}}), new(big.Int), "Gcd of zeros")
}

func TestPower(t *testing.T) {
	for _, a := range numbers() {
		for _, n := range []int{0, 1, 2, 3, 7, 10, 64, api.MaxPower - 1, api.MaxPower} {
			p, e := exact.Power(loose(a), n)
			wantOK(t, e, "Power", a, n)
			wantInt(t, p, new(big.Int).Exp(bigInt(a), big.NewInt(int64(n)), nil), "Power", a, n)
		}
		for _, n := range []int{-1, api.MaxPower + 1, math.MinInt, math.MaxInt} {
			p, e := exact.Power(a, n)
			wantIntError(t, p, e, api.ErrArg, "Power", a, n)
		}
	}
	p, e := exact.Power(api.Int{Neg: true, Words: []uint32{0}}, 0)
	wantOK(t, e, "0 to the power 0")
	wantInt(t, p, big.NewInt(1), "0 to the power 0")
}

func checkRoot(t *testing.T, n *big.Int) {
	t.Helper()
	for _, a := range []api.Int{ofBig(n), loose(ofBig(n))} {
		r, e := exact.Root(a)
		if n.Sign() < 0 {
			wantIntError(t, r, e, api.ErrArg, "Root", n)
			continue
		}
		wantOK(t, e, "Root", n)
		wantInt(t, r, new(big.Int).Sqrt(n), "Root", n)
	}
}

func TestRoot(t *testing.T) {
	for n := int64(-3); n < 300; n++ {
		checkRoot(t, big.NewInt(n))
	}
	for _, a := range numbers() {
		n := bigInt(a)
		checkRoot(t, n)
		square := new(big.Int).Mul(n, n)
		for d := int64(-1); d <= 1; d++ {
			checkRoot(t, new(big.Int).Add(square, big.NewInt(d)))
		}
	}
	s := newSource()
	for range 200 {
		checkRoot(t, bigInt(s.integer(40)))
	}
	r, e := exact.Root(api.Int{Neg: true, Words: []uint32{0, 0}})
	wantOK(t, e, "Root of 0 with Neg")
	wantInt(t, r, new(big.Int), "Root of 0 with Neg")
}
