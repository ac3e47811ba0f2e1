package exact_test

import (
	"math"
	"math/big"
	"testing"

	"hodoscope/api"
	"hodoscope/exact"
)

func ratFloor(r *big.Rat) *big.Int {
	q, _ := floorDiv(r.Num(), r.Denom())
	return q
}

func ratNearest(r *big.Rat) *big.Int {
	return ratFloor(new(big.Rat).Add(r, big.NewRat(1, 2)))
}

// twoTo returns 2^bits as a ratio.
func twoTo(bits int) *big.Rat {
	return new(big.Rat).SetInt(new(big.Int).Lsh(big.NewInt(1), uint(bits)))
}

// someRatios are ratios of all kinds, also not in normal form.
func someRatios() []api.Ratio {
	l := append(ratios(), withoutDen()...)
	for n := int64(-20); n <= 20; n++ {
		l = append(l, ofRat(big.NewRat(n, 2)), ofRat(big.NewRat(n, 4)), ofRat(big.NewRat(n, 32)))
	}
	s := newSource()
	for range 100 {
		l = append(l, s.ratio(5), s.small())
	}
	for _, r := range l[:60] {
		l = append(l, looseRatio(r))
	}
	return l
}

func TestFloorAndNearest(t *testing.T) {
	for _, r := range someRatios() {
		wantInt(t, exact.Floor(r), ratFloor(bigRat(r)), "Floor", r)
		wantInt(t, exact.Nearest(r), ratNearest(bigRat(r)), "Nearest", r)
	}
	for _, x := range []struct {
		num, den, floor, nearest int64
	}{{5, 2, 2, 3}, {-5, 2, -3, -2}, {-1, 2, -1, 0}, {1, 2, 0, 1}, {-1, 3, -1, 0}, {-2, 3, -1, -1}, {7, 1, 7, 7}, {-7, 1, -7, -7}, {0, 1, 0, 0}} {
		r := ofRat(big.NewRat(x.num, x.den))
		wantInt(t, exact.Floor(r), big.NewInt(x.floor), "Floor", x)
		wantInt(t, exact.Nearest(r), big.NewInt(x.nearest), "Nearest", x)
	}
}

func TestFixed(t *testing.T) {
	for _, r := range someRatios() {
		for _, bits := range []int{0, 1, 4, 31, 32, 33, 64, 100, api.MaxBits} {
			n, e := exact.Fixed(r, bits)
			wantOK(t, e, "Fixed", r, bits)
			wantInt(t, n, ratNearest(new(big.Rat).Mul(bigRat(r), twoTo(bits))), "Fixed", r, bits)
		}
	}
}

func TestFromFixed(t *testing.T) {
	for _, a := range numbers() {
		for _, bits := range []int{0, 1, 4, 31, 32, 33, 64, 100, api.MaxBits} {
			r, e := exact.FromFixed(loose(a), bits)
			wantOK(t, e, "FromFixed", a, bits)
			wantRatio(t, r, new(big.Rat).Quo(new(big.Rat).SetInt(bigInt(a)), twoTo(bits)), "FromFixed", a, bits)
		}
	}
}

func TestRootFixed(t *testing.T) {
	for _, r := range someRatios() {
		for _, bits := range []int{0, 1, 4, 31, 32, 64, api.MaxBits} {
			n, e := exact.RootFixed(r, bits)
			if bigRat(r).Sign() < 0 {
				wantIntError(t, n, e, api.ErrArg, "RootFixed", r, bits)
				continue
			}
			wantOK(t, e, "RootFixed", r, bits)
			wantInt(t, n, new(big.Int).Sqrt(ratFloor(new(big.Rat).Mul(bigRat(r), twoTo(2*bits)))), "RootFixed", r, bits)
		}
	}
	for _, x := range []struct {
		r    string
		bits int
		n    int64
	}{{"2", 4, 22}, {"1/4", 0, 0}, {"1/4", 1, 1}, {"35/36", 0, 0}, {"35/4", 0, 2}, {"9", 0, 3}, {"9", 1, 6}, {"0", 256, 0}, {"2/9", 3, 3}} {
		n, e := exact.RootFixed(ratio(x.r), x.bits)
		wantOK(t, e, "RootFixed", x)
		wantInt(t, n, big.NewInt(x.n), "RootFixed", x)
	}
}

func TestBitsOutside(t *testing.T) {
	for _, bits := range []int{-1, api.MaxBits + 1, math.MinInt, math.MaxInt, math.MaxInt/2 + 1} {
		n, e := exact.Fixed(ratio("1/2"), bits)
		wantIntError(t, n, e, api.ErrArg, "Fixed", bits)
		r, e := exact.FromFixed(exact.Of(6), bits)
		wantRatioError(t, r, e, api.ErrArg, "FromFixed", bits)
		n, e = exact.RootFixed(ratio("1/2"), bits)
		wantIntError(t, n, e, api.ErrArg, "RootFixed", bits)
	}
}

// simplest tries the denominators one after the other, and of each the least numerator.
func simplest(lo, hi *big.Rat) *big.Rat {
	if lo.Sign() <= 0 && hi.Sign() >= 0 {
		return new(big.Rat)
	}
	if hi.Sign() < 0 {
		r := simplest(new(big.Rat).Neg(hi), new(big.Rat).Neg(lo))
		return r.Neg(r)
	}
	for den := int64(1); ; den++ {
		d := new(big.Rat).SetInt64(den)
		num := ratFloor(new(big.Rat).Mul(lo, d))
		for range 2 {
			r := new(big.Rat).SetFrac(num, big.NewInt(den))
			if r.Cmp(lo) >= 0 && r.Cmp(hi) <= 0 {
				return r
			}
			num.Add(num, big.NewInt(1))
		}
	}
}

func checkBetween(t *testing.T, lo, hi api.Ratio) {
	t.Helper()
	r, e := exact.Between(lo, hi)
	x, y := bigRat(lo), bigRat(hi)
	if x.Cmp(y) > 0 {
		wantRatioError(t, r, e, api.ErrArg, "Between", lo, hi)
		return
	}
	wantOK(t, e, "Between", lo, hi)
	wantRatio(t, r, simplest(x, y), "Between", lo, hi)
}

func TestBetween(t *testing.T) {
	for _, x := range [][3]string{{"1/3", "1/2", "1/2"}, {"0.31", "0.32", "5/16"}, {"-0.32", "-0.31", "-5/16"}, {"-2", "3", "0"}, {"0", "3", "0"}, {"-3", "0", "0"}, {"0", "0", "0"}, {"7/2", "9", "4"}, {"-9", "-7/2", "-4"}, {"3", "9", "3"}, {"-9", "-3", "-3"}, {"5/2", "3", "3"}, {"2", "5/2", "2"}, {"22/7", "22/7", "22/7"}, {"-22/7", "-22/7", "-22/7"}, {"314/100", "315/100", "22/7"}, {"1/1000000", "1/3", "1/3"}, {"1/2", "2/3", "1/2"}, {"3/5", "2/3", "2/3"}} {
		r, e := exact.Between(ratio(x[0]), ratio(x[1]))
		wantOK(t, e, "Between", x)
		wantRatio(t, r, bigRat(ratio(x[2])), "Between", x)
		r, e = exact.Between(looseRatio(ratio(x[0])), looseRatio(ratio(x[1])))
		wantOK(t, e, "Between, not normal", x)
		wantRatio(t, r, bigRat(ratio(x[2])), "Between, not normal", x)
	}
	s := newSource()
	for range 3000 {
		checkBetween(t, s.small(), s.small())
	}
	for range 1000 {
		lo := s.small()
		width := ofRat(big.NewRat(1, 1+s.Int63n(5000)))
		checkBetween(t, lo, exact.Plus(lo, width))
		checkBetween(t, exact.Plus(lo, exact.Times(width, width)), exact.Plus(lo, width))
	}
	for _, r := range withoutDen() {
		checkBetween(t, r, ratio("1/2"))
		checkBetween(t, ratio("-1/2"), r)
		checkBetween(t, ratio("1/2"), r)
	}
}

func TestBetweenLong(t *testing.T) {
	s := newSource()
	for range 50 {
		r := s.ratio(20)
		got, e := exact.Between(r, r)
		wantOK(t, e, "Between", r, r)
		wantRatio(t, got, bigRat(r), "Between", r, r)
		// Nothing between two numbers has a lesser denominator than the simplest one: the middle does not.
		hi := exact.Plus(r, ratio("1/100000000000000000000000000000000000000000"))
		got, e = exact.Between(r, hi)
		wantOK(t, e, "Between", r, hi)
		if !isLowest(got) || bigRat(got).Cmp(bigRat(r)) < 0 || bigRat(got).Cmp(bigRat(hi)) > 0 || bigInt(got.Den).BitLen() > 137 {
			t.Error("Between", r, hi, got)
		}
	}
}
