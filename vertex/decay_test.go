package vertex_test

import (
	"math/big"
	"testing"

	"hodoscope/api"
	"hodoscope/vertex"
)

// zeros are ratios that stand for 0.
func zeros() map[string]api.Ratio {
	return map[string]api.Ratio{
		"0":             ratio("0"),
		"no fields":     {},
		"a number by 0": {Num: ratio("5").Num},
		"minus 0":       {Num: api.Int{Neg: true}, Den: ratio("1").Num},
		"0 by minus 1":  {Num: api.Int{Words: []uint32{0, 0}}, Den: ratio("-1").Num},
	}
}

func TestMomentum(t *testing.T) {
	s := newSource()
	for range 60 {
		r, k := s.ray(), s.number()
		if bigRat(k).Sign() == 0 {
			k = ratio("-1/1000000000000000000000000")
		}
		want := plainMomentum(r, k).matrix()
		for _, p := range []api.Ray{r, looseRay(r)} {
			for _, by := range []api.Ratio{k, looseRatio(k)} {
				got, e := vertex.Momentum(p, by)
				wantOK(t, e, r, k)
				wantMatrix(t, got, want, r, k)
			}
		}
	}
	// The directions of all faces, written out; the sign of k makes no difference.
	for face, want := range []string{"2 6 14", "-6 2 14", "-2 -6 14", "6 -2 14", "6 14 2", "14 6 -2"} {
		for _, k := range []string{"1/2", "-1/2"} {
			got, e := vertex.Momentum(ray(face, "11 3 13 7"), ratio(k))
			wantOK(t, e, face, k)
			wantMatrix(t, got, column(want), face, k)
		}
	}
}

func TestMomentumErrors(t *testing.T) {
	for name, r := range badRays() {
		for _, k := range []string{"1", "0"} {
			got, e := vertex.Momentum(r, ratio(k))
			wantError(t, api.ErrArg, e, all(got), name, k)
		}
	}
	for name, k := range zeros() {
		got, e := vertex.Momentum(ray(3, "1 2 3 4"), k)
		wantError(t, api.ErrZero, e, all(got), name)
	}
}

func wantPair(t *testing.T, p, q api.Matrix) {
	t.Helper()
	wantAlpha, wantSquare := plainPair(placeOf(p), placeOf(q))
	for _, x := range [][2]api.Matrix{{p, q}, {looseMatrix(p), looseMatrix(q)}} {
		alpha, square, e := vertex.Pair(x[0], x[1])
		wantOK(t, e, text(p), text(q))
		wantRatio(t, alpha, ofRat(wantAlpha), text(p), text(q))
		wantRatio(t, square, ofRat(wantSquare), text(p), text(q))
		alpha, square, e = vertex.Pair(x[1], x[0])
		wantOK(t, e, text(p), text(q))
		wantRatio(t, alpha, ofRat(wantAlpha.Neg(wantAlpha)), text(p), text(q), "exchanged")
		wantRatio(t, square, ofRat(wantSquare), text(p), text(q), "exchanged")
		wantAlpha.Neg(wantAlpha)
	}
}

func TestPair(t *testing.T) {
	s := newSource()
	for range 60 {
		p, q := s.point(), s.point()
		if !placeOf(p).add(ratOf(1), placeOf(q)).isZero() {
			wantPair(t, p, q)
		}
	}
	wantPair(t, column("1 2 3"), column("0 0 0"))
	wantPair(t, column("1 2 3"), column("1 2 3"))
	wantPair(t, column("1 2 3"), column("-2 -4 -6"))
	wantPair(t, column("1 2 3"), column("-1 -2 3"))
	wantPair(t, column("1 2 3"), column("-1 -2 -2999999999999/1000000000000"))
	wantPair(t, column("1000000000000000000000000 0 1"), column("0 1/1000000000000000000000000 1"))
	alpha, square, e := vertex.Pair(column("3 0 0"), column("0 0 1"))
	wantOK(t, e)
	wantRatio(t, alpha, ratio("4/5"))
	wantRatio(t, square, ratio("9/10"))
}

func TestPairErrors(t *testing.T) {
	good, opposite := column("1 -2/3 3"), column("-1 2/3 -3")
	for name, p := range badPoints() {
		for i, x := range [][2]api.Matrix{{p, good}, {good, p}, {p, p}} {
			alpha, square, e := vertex.Pair(x[0], x[1])
			wantError(t, api.ErrShape, e, all(alpha, square), name, i)
		}
	}
	for i, x := range [][2]api.Matrix{{good, opposite}, {looseMatrix(good), opposite}, {column("0 0 0"), looseMatrix(column("0 0 0"))}} {
		alpha, square, e := vertex.Pair(x[0], x[1])
		wantError(t, api.ErrZero, e, all(alpha, square), i)
	}
}

// wantOneDecay holds Decay against the least sum of squares on the line, and returns whether there is one.
func wantOneDecay(t *testing.T, p api.Matrix, a, b api.Ray, ka, kb api.Ratio, of ...any) bool {
	t.Helper()
	want, is := plainDecay(p, a, b, ka, kb)
	for i := range 2 {
		if i > 0 {
			p, a, b, ka, kb = looseMatrix(p), looseRay(a), looseRay(b), looseRatio(ka), looseRatio(kb)
		}
		got, e := vertex.Decay(p, a, b, ka, kb)
		if !is {
			wantError(t, api.ErrSingular, e, all(got), of...)
			continue
		}
		wantOK(t, e, of...)
		wantDecay(t, got, want, of...)
	}
	return is
}

func TestDecay(t *testing.T) {
	s := newSource()
	for i := range 60 {
		ka, kb := s.number(), s.number()
		if bigRat(ka).Sign() == 0 || bigRat(kb).Sign() == 0 {
			continue
		}
		if !wantOneDecay(t, s.point(), s.ray(), s.ray(), ka, kb, i) {
			t.Error(i)
		}
	}
	one := ratio("1")
	for face := range 6 {
		for other := range 6 {
			wantOneDecay(t, column("-1 2 5"), ray(face, "1 2 3 -4"), ray(other, "2 1/3 0 5"), ratio("-3/2"), one, face, other)
		}
	}
	// Two rays that meet in (2, 2, 1), of which each has half of the momentum from the origin.
	a, b := ray(0, "0 1 1 0"), ray(0, "4 -1 1 0")
	got, e := vertex.Decay(column("-1 2 1"), a, b, ratio("2"), ratio("-2"))
	wantOK(t, e)
	wantDecay(t, got, api.Decay{P: column("2 2 1"), Sum: column("1 0 0"), Chi: ratio("0"), Time: ratio("3"), Alpha: ratio("0"), Square: ratio("1/4")})
	// The line passes them by 3 in Z.
	got, e = vertex.Decay(column("-1 2 4"), a, b, ratio("2"), ratio("-2"))
	wantOK(t, e)
	wantDecay(t, got, api.Decay{P: column("2 2 4"), Sum: column("1 0 0"), Chi: ratio("18"), Time: ratio("3"), Alpha: ratio("0"), Square: ratio("1/4")})
	// What decays before p does so at a negative time.
	got, e = vertex.Decay(column("7 2 1"), a, b, ratio("2"), ratio("-2"))
	wantOK(t, e)
	wantRatio(t, got.Time, ratio("-5"))
}

// TestDecayAxes has sums of which two or three numbers have the same absolute value, or are 0.
func TestDecayAxes(t *testing.T) {
	one := ratio("1")
	p := column("3 -1/2 7")
	for i, x := range []struct {
		a, b api.Ray
		sum  string
	}{
		{ray(0, "1 3 2 0"), ray(0, "0 -1 5 0"), "2 2 0"},
		{ray(0, "1 -3 2 0"), ray(0, "0 1 5 0"), "2 -2 0"},
		{ray(0, "1 -3 2 1"), ray(0, "0 1 5 1"), "2 -2 2"},
		{ray(2, "1 3 2 -1"), ray(2, "0 -1 5 -1"), "-2 -2 -2"},
		{ray(0, "1 0 2 3"), ray(0, "0 0 5 -1"), "2 0 2"},
		{ray(0, "1 0 2 3"), ray(2, "0 5 5 2"), "0 -5 5"},
		{ray(0, "1 0 2 3"), ray(2, "0 0 5 4"), "0 0 7"},
		{ray(0, "1 4 2 -3"), ray(2, "0 0 5 3"), "0 4 0"},
		{ray(0, "1 4 2 -3"), ray(0, "0 -4 5 3"), "2 0 0"},
		{ray(4, "1 0 2 1/3"), ray(5, "0 0 5 1/3"), "1/3 1/3 0"},
		{ray(1, "1 1 2 -1"), ray(3, "0 -1 5 6"), "-2 0 5"},
		{ray(3, "1 2 2 1"), ray(3, "0 -2 5 -1"), "0 -2 0"},
		{ray(3, "1 2 2 -1"), ray(3, "0 -2 5 -1/2"), "0 -2 -3/2"},
	} {
		if !wantOneDecay(t, p, x.a, x.b, one, one, i) {
			t.Error(i)
		}
		got, e := vertex.Decay(p, x.a, x.b, one, one)
		wantOK(t, e, i)
		wantMatrix(t, got.Sum, column(x.sum), i)
	}
}

// TestDecayUndetermined has two rays in the direction of their sum: the sum of squares is the same everywhere on the line.
func TestDecayUndetermined(t *testing.T) {
	for i, x := range [][2]api.Ray{
		{ray(0, "0 1 0 2"), ray(0, "0 1 0 2")},
		{ray(0, "0 1 0 2"), ray(0, "5 1 -7 2")},
		{ray(0, "0 1 0 0"), ray(1, "3 -1 4 0")},
		{ray(2, "0 1 0 -4"), wide(ray(0, "5 1 -7 4"), "2 1, 1 3")},
	} {
		if wantOneDecay(t, column("1 2 3"), x[0], x[1], ratio("1"), ratio("-1/3"), i) {
			t.Error(i)
		}
	}
	if !wantOneDecay(t, column("1 2 3"), ray(0, "0 1 0 2"), ray(0, "0 1000000000001/1000000000000 0 2"), ratio("1"), ratio("1"), "nearly") {
		t.Error("nearly")
	}
}

func TestDecayErrors(t *testing.T) {
	a, b, one, zero := ray(0, "0 1 0 0"), ray(2, "0 1 0 0"), ratio("1"), ratio("0")
	c, p := ray(0, "1 3 1 1"), column("1 2 3")
	for name, bad := range badPoints() {
		for i, r := range []api.Ray{a, {}} {
			got, e := vertex.Decay(bad, r, c, zero, one)
			wantError(t, api.ErrShape, e, all(got), name, i)
		}
	}
	for name, bad := range badRays() {
		for _, k := range []api.Ratio{one, zero} {
			got, e := vertex.Decay(p, bad, c, k, one)
			wantError(t, api.ErrArg, e, all(got), name, "first")
			got, e = vertex.Decay(p, c, bad, one, k)
			wantError(t, api.ErrArg, e, all(got), name, "second")
		}
	}
	for name, k := range zeros() {
		for _, other := range []api.Ray{c, a, b} {
			got, e := vertex.Decay(p, a, other, k, one)
			wantError(t, api.ErrZero, e, all(got), name, "first")
			got, e = vertex.Decay(p, a, other, one, k)
			wantError(t, api.ErrZero, e, all(got), name, "second")
			got, e = vertex.Decay(p, a, other, k, k)
			wantError(t, api.ErrZero, e, all(got), name, "both")
		}
	}
	// Momenta that are opposite, as k has the same size.
	for _, k := range []string{"1", "-1", "2/3"} {
		got, e := vertex.Decay(p, a, b, ratio(k), looseRatio(ratio(k)))
		wantError(t, api.ErrZero, e, all(got), k)
	}
	// With other sizes the sum is not 0, but both rays go along it.
	got, e := vertex.Decay(p, a, b, one, ratio("2"))
	wantError(t, api.ErrSingular, e, all(got))
}

func ellipse(centre, width, height string) api.Ellipse {
	return api.Ellipse{Centre: ratio(centre), Width: ratio(width), Height: ratio(height)}
}

func wantKind(t *testing.T, alpha, square api.Ratio, l []api.Ellipse, want int, f string) {
	t.Helper()
	if i, reach := plainKind(alpha, square, l); i != want || reach.Cmp(rat(f)) != 0 {
		t.Fatal(i, reach)
	}
	away := make([]api.Ellipse, len(l))
	for i, c := range l {
		away[i] = api.Ellipse{Centre: looseRatio(c.Centre), Width: looseRatio(c.Width), Height: looseRatio(c.Height)}
	}
	for _, given := range [][]api.Ellipse{l, away} {
		got, reach, e := vertex.Kind(looseRatio(alpha), square, given)
		wantOK(t, e)
		wantNumber(t, got, want)
		wantRatio(t, reach, ratio(f))
	}
}

func TestKind(t *testing.T) {
	zero := ratio("0")
	wantKind(t, zero, ratio("4"), nil, -1, "0")
	wantKind(t, zero, ratio("4"), []api.Ellipse{}, -1, "0")
	wantKind(t, zero, ratio("4"), []api.Ellipse{ellipse("0", "1", "1")}, 0, "4")
	// Just on an ellipse, wherever it stands in the list.
	on := ellipse("1/2", "1/2", "3")
	off := ellipse("1/2", "1/2", "2999999999999/1000000000000")
	wantKind(t, ratio("1/2"), ratio("9"), []api.Ellipse{off, on, off}, 1, "1")
	wantKind(t, ratio("1"), zero, []api.Ellipse{on, off}, 0, "1")
	wantKind(t, zero, zero, []api.Ellipse{ellipse("0", "1", "1"), on}, 1, "1")
	// Several that are off by as much, inside and outside: the first one.
	inside, outside := ellipse("0", "1", "2"), ellipse("0", "2", "1")
	wantKind(t, zero, ratio("2"), []api.Ellipse{inside, ellipse("0", "9", "2")}, 0, "1/2")
	wantKind(t, zero, ratio("8/5"), []api.Ellipse{outside, inside}, 0, "8/5")
	wantKind(t, zero, ratio("8/5"), []api.Ellipse{inside, outside}, 0, "2/5")
	wantKind(t, zero, ratio("8/5"), []api.Ellipse{ellipse("0", "1", "1/2"), inside, outside}, 1, "2/5")
	// A square that no two momenta have.
	wantKind(t, ratio("2"), ratio("-4"), []api.Ellipse{ellipse("0", "1", "1"), ellipse("1", "1", "2")}, 0, "0")
	wantKind(t, zero, ratio("-4"), []api.Ellipse{ellipse("0", "1", "1"), ellipse("0", "1", "2")}, 1, "-1")
	s := newSource()
	for range 60 {
		alpha, square := s.number(), s.number()
		var l []api.Ellipse
		for range s.Intn(6) {
			half := func() api.Ratio { return ofRat(big.NewRat(int64(1+s.Intn(9)), int64(1+s.Intn(3)))) }
			l = append(l, api.Ellipse{Centre: s.number(), Width: half(), Height: half()})
		}
		want, f := plainKind(alpha, square, l)
		wantKind(t, alpha, square, l, want, f.RatString())
	}
}

func TestKindErrors(t *testing.T) {
	good := ellipse("0", "1", "1")
	for name, bad := range map[string]api.Ellipse{
		"no width":         ellipse("0", "0", "1"),
		"no height":        ellipse("0", "1", "0"),
		"negative width":   ellipse("0", "-1/1000000000000", "1"),
		"negative height":  ellipse("0", "1", "-1/1000000000000"),
		"nothing":          {},
		"width by 0":       {Centre: ratio("0"), Width: api.Ratio{Num: ratio("5").Num}, Height: ratio("1")},
		"height by -1":     {Centre: ratio("0"), Width: ratio("1"), Height: api.Ratio{Num: ratio("1").Num, Den: ratio("-1").Num}},
		"both are below 0": ellipse("0", "-1", "-1"),
	} {
		for i, l := range [][]api.Ellipse{{bad}, {good, bad}, {bad, good}, {good, bad, good}} {
			best, f, e := vertex.Kind(ratio("0"), ratio("1"), l)
			wantError(t, api.ErrArg, e, all(best, f), name, i)
		}
	}
}
