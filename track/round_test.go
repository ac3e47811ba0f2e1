package track_test

import (
	"math"
	"math/big"
	"testing"

	"hodoscope/api"
	"hodoscope/track"
)

// plainRound is the floor of r times 2^bits plus 1/2.
func plainRound(r *big.Rat, bits int) *big.Int {
	n := new(big.Rat).Mul(r, new(big.Rat).SetInt(new(big.Int).Lsh(big.NewInt(1), uint(bits))))
	n.Add(n, rat("1/2"))
	// The denominator is positive, so Euclid's division rounds down.
	return new(big.Int).Div(n.Num(), n.Denom())
}

func integers(s ...int64) []api.Int {
	var l []api.Int
	for _, n := range s {
		l = append(l, ofBig(big.NewInt(n)))
	}
	return l
}

func wantInts(t *testing.T, got []api.Int, want []*big.Int, of ...any) {
	t.Helper()
	if len(got) != len(want) {
		t.Fatalf("%v: %d integers, want %d", of, len(got), len(want))
	}
	for i, n := range got {
		if !isNormal(n) || bigInt(n).Cmp(want[i]) != 0 {
			t.Errorf("%v %d: %v, want %v", of, i, bigInt(n), want[i])
		}
	}
}

func TestRound(t *testing.T) {
	s := newSource()
	tracks := []api.Track{some()}
	tracks[0].P = column("1/2 -1/2 3/2 -5/4 1/3")
	for range 20 {
		tracks = append(tracks, s.track())
	}
	for _, x := range tracks {
		for _, bits := range []int{0, 1, 2, 31, 32, 255, 256} {
			var want []*big.Int
			for i := range 5 {
				want = append(want, plainRound(at(x.P, i, 0), bits))
			}
			for _, given := range []api.Track{x, looseTrack(x)} {
				got, e := track.Round(given, bits)
				wantOK(t, e, bits)
				wantInts(t, got, want, bits)
			}
		}
	}
	got, e := track.Round(tracks[0], 0)
	wantOK(t, e)
	wantInts(t, got, []*big.Int{big.NewInt(1), big.NewInt(0), big.NewInt(2), big.NewInt(-1), big.NewInt(0)})
	for _, bits := range []int{-1, 257, math.MinInt, math.MaxInt} {
		got, e := track.Round(some(), bits)
		wantError(t, api.ErrArg, e, all(got), bits)
	}
	for name, x := range badTracks() {
		got, e := track.Round(x, 5)
		wantError(t, api.ErrArg, e, all(got), name)
	}
}

func TestValue(t *testing.T) {
	s := newSource()
	numbers := []api.Int{ofBig(plainRound(rat("12345678901234567890"), 200)), {}, ofBig(big.NewInt(-7)), ofBig(big.NewInt(1 << 40)), ofBig(big.NewInt(-3))}
	var looseNumbers []api.Int
	for _, n := range numbers {
		looseNumbers = append(looseNumbers, loose(n))
	}
	check := func(x api.Site, bits int, of ...any) {
		p := laid(5, 1, func(i, j int) *big.Rat {
			return new(big.Rat).SetFrac(bigInt(numbers[i]), new(big.Int).Lsh(big.NewInt(1), uint(bits)))
		})
		want := times(plainRow(x), p)
		for _, l := range [][]api.Int{numbers, looseNumbers} {
			gotX, gotY, e := track.Value(l, bits, x)
			wantOK(t, e, of...)
			wantRatios(t, []api.Ratio{gotX, gotY}, want.Cells, of...)
		}
	}
	for name, x := range goodSites() {
		check(x, 7, name)
	}
	for _, bits := range []int{0, 1, 2, 100, 255, 256} {
		check(s.site(s.Intn(1000)), bits, bits)
	}
	x, y, e := track.Value(integers(1, 2, 3, 4, 5), 1, hit(2, 0, 0))
	wantOK(t, e)
	wantRatios(t, []api.Ratio{x, y}, ratios("17/2 7"))
}

func TestValueErrors(t *testing.T) {
	five := integers(1, 2, 3, 4, 5)
	for _, x := range []struct {
		l    []api.Int
		bits int
	}{
		{nil, 0}, {five[:4], 0}, {integers(1, 2, 3, 4, 5, 6), 0}, {five, -1}, {five, 257}, {five, math.MinInt}, {five, math.MaxInt},
	} {
		for _, s := range []api.Site{hit(2, 0, 0), {Depth: -1}} {
			a, b, e := track.Value(x.l, x.bits, s)
			wantError(t, api.ErrArg, e, all(a, b), len(x.l), x.bits, s)
		}
	}
	for name, s := range badSites() {
		a, b, e := track.Value(five, 3, s)
		wantError(t, api.ErrRange, e, all(a, b), name)
	}
}

// plainBits tries all numbers; -1, if none is enough.
func plainBits(s api.Site, off *big.Rat) int {
	need := new(big.Rat).Add(ratOf(1+s.Depth), new(big.Rat).Abs(ratOf(s.Bend)))
	for n := range 257 {
		room := new(big.Rat).SetInt(new(big.Int).Lsh(big.NewInt(2), uint(n)))
		if need.Cmp(room.Mul(room, off)) <= 0 {
			return n
		}
	}
	return -1
}

func wantBits(t *testing.T, s api.Site, off *big.Rat, want int) {
	t.Helper()
	if want != plainBits(s, off) {
		t.Fatal(s, off, want, plainBits(s, off))
	}
	for _, r := range []api.Ratio{ofRat(off), looseRatio(ofRat(off))} {
		got, e := track.Bits(s, r)
		if want < 0 {
			wantError(t, api.ErrRange, e, all(got), s, off)
			continue
		}
		wantOK(t, e, s, off)
		wantNumbers(t, []int{got}, []int{want}, s, off)
	}
}

func TestBits(t *testing.T) {
	s := newSource()
	for range 60 {
		x, off := s.site(s.Intn(1<<20+1)), s.number()
		off.Abs(off).Add(off, rat("1/1000000000000"))
		wantBits(t, x, off, plainBits(x, off))
	}
	for name, x := range goodSites() {
		_, e := track.Bits(x, ratio("1/3"))
		wantOK(t, e, name)
		wantBits(t, x, rat("1/3"), plainBits(x, rat("1/3")))
	}
	// An off for which just n is enough, and less.
	for _, x := range []api.Site{{}, {Depth: 2, Bend: 4}, {Depth: 2, Bend: -4}, {Depth: 1 << 20, Bend: -1 << 44}} {
		need := ratOf(1 + x.Depth + max(x.Bend, -x.Bend))
		for _, n := range []int{0, 1, 5, 64, 255, 256} {
			just := new(big.Rat).Quo(need, new(big.Rat).SetInt(new(big.Int).Lsh(big.NewInt(2), uint(n))))
			wantBits(t, x, just, n)
			less := n + 1
			if less > 256 {
				less = -1
			}
			wantBits(t, x, new(big.Rat).Mul(just, rat("999999999999/1000000000000")), less)
		}
		wantBits(t, x, new(big.Rat).SetInt(new(big.Int).Lsh(big.NewInt(1), 300)), 0)
		wantBits(t, x, new(big.Rat).SetFrac(big.NewInt(1), new(big.Int).Lsh(big.NewInt(1), 300)), -1)
		for _, off := range []string{"0", "-1", "-1/1000000"} {
			for _, r := range []api.Ratio{ratio(off), looseRatio(ratio(off)), {}} {
				got, e := track.Bits(x, r)
				wantError(t, api.ErrArg, e, all(got), off)
			}
		}
	}
	for name, x := range badSites() {
		for _, off := range []string{"1", "0", "-1"} {
			got, e := track.Bits(x, ratio(off))
			wantError(t, api.ErrRange, e, all(got), name, off)
		}
	}
}
