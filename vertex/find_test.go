package vertex_test

import (
	"math"
	"math/big"
	"slices"
	"testing"

	"hodoscope/api"
	"hodoscope/vertex"
)

// passing returns a ray that passes a point, off by up to noise in x and y.
func (s source) passing(p place, noise int) api.Ray {
	r := s.ray()
	x, y := offs(r)
	past := func(a affine) api.Ratio {
		return ofRat(plus(minus(a[3], a.of(p)), ratOf(s.between(noise))))
	}
	r.X0, r.Y0 = past(x), past(y)
	return r
}

// crowd returns n rays that come from a few points, and one in four that comes from anywhere.
func (s source) crowd(n, points, noise int) []api.Ray {
	var from []place
	for range points {
		from = append(from, placeOf(s.point()))
	}
	var l []api.Ray
	for range n {
		r := s.ray()
		if s.Intn(4) > 0 {
			r = s.passing(from[s.Intn(points)], noise)
		}
		l = append(l, r)
	}
	return l
}

// wantFind holds Find against the chapter's search, and returns what happened in that.
func wantFind(t *testing.T, prior api.Info, l []api.Ray, limit *big.Rat, least int, of ...any) trace {
	t.Helper()
	want, wantLoose, did := plainFind(prior, l, limit, least)
	for i, given := range [][]api.Ray{l, looseRays(l)} {
		f, r := prior, ofRat(limit)
		if i > 0 {
			f, r = looseInfo(prior), looseRatio(r)
		}
		found, loose, e := vertex.Find(f, given, r, least)
		wantOK(t, e, of...)
		wantVertices(t, found, want, of...)
		wantNumbers(t, loose, wantLoose, of...)
	}
	return did
}

func TestFind(t *testing.T) {
	s := newSource()
	var sum trace
	for i := range 150 {
		prior := blank()
		if i%3 == 0 {
			prior = s.prior(t)
		}
		l := s.crowd(s.Intn(10), 1+s.Intn(3), s.Intn(3))
		limit := big.NewRat(int64(s.Intn(40)), int64(1+s.Intn(4)))
		did := wantFind(t, prior, l, limit, s.Intn(6)-1, i)
		sum.vertices += did.vertices
		sum.rejected += did.rejected
		sum.added += did.added
		sum.ties += did.ties
	}
	if sum.vertices < 50 || sum.rejected < 30 || sum.added < 50 || sum.ties < 20 {
		t.Error(sum)
	}
}

func TestFindMany(t *testing.T) {
	s := newSource()
	if did := wantFind(t, blank(), s.crowd(api.MaxRays, 3, 1), ratOf(9), 3); did.vertices < 2 {
		t.Error(did)
	}
	wantFind(t, blank(), slices.Repeat([]api.Ray{ray(0, "0 1 0 0"), ray(0, "0 -1 0 0")}, api.MaxRays/2), ratOf(0), api.MaxRays)
}

// raysOf returns the Rays of what Find finds.
func raysOf(t *testing.T, prior api.Info, l []api.Ray, limit string, least int) [][]int {
	t.Helper()
	wantFind(t, prior, l, rat(limit), least, limit, least)
	found, _, e := vertex.Find(prior, l, ratio(limit), least)
	wantOK(t, e)
	var rays [][]int
	for _, v := range found {
		rays = append(rays, v.Rays)
	}
	return rays
}

func wantRays(t *testing.T, got [][]int, want ...[]int) {
	t.Helper()
	if !slices.EqualFunc(got, want, slices.Equal[[]int]) {
		t.Errorf("%v, want %v", got, want)
	}
}

// flat returns a ray of face 0 in the plane of X and Y, through X = x and Y = y, with that slope.
func flat(x, y, slope int) api.Ray {
	r := ray(0, "0 0 0 0")
	r.X0, r.X1 = ofRat(ratOf(y-slope*x)), ofRat(ratOf(slope))
	return r
}

// level knows that Z is 0, and nothing else.
func level(t *testing.T) api.Info {
	t.Helper()
	return beam(t, [3]int{}, [3]int{0, 0, 1})
}

// TestFindLimit has limits of 0, of just the Chi of a pair, of just what a ray adds, and a little less.
func TestFindLimit(t *testing.T) {
	// Two rays that miss each other by 2 in Z: Chi is 2.
	pair := []api.Ray{ray(0, "0 1 1 0"), ray(0, "0 -1 -1 0")}
	wantRays(t, raysOf(t, blank(), pair, "2", 2), []int{0, 1})
	wantRays(t, raysOf(t, blank(), pair, "1999999/1000000", 2))
	wantRays(t, raysOf(t, blank(), pair, "0", 2))
	// A third one by its distance from the mean of both: with it Chi is 2 + 2/3 * 9.
	three := append(pair, ray(0, "0 0 3 0"))
	wantRays(t, raysOf(t, blank(), three, "6", 2), []int{0, 1, 2})
	wantRays(t, raysOf(t, blank(), three, "5999999/1000000", 2), []int{0, 1})
	cross := []api.Ray{flat(1, 1, 1), flat(1, 1, -2), flat(1, 1, 0)}
	wantRays(t, raysOf(t, blank(), cross, "0", 2), []int{0, 1, 2})
	wantRays(t, raysOf(t, blank(), append(cross, flat(1, 2, 7)), "0", 2), []int{0, 1, 2})
	for _, limit := range []string{"-1", "-1/1000000000000000000000000"} {
		for _, l := range [][]api.Ray{nil, pair, three} {
			for _, r := range []api.Ratio{ratio(limit), looseRatio(ratio(limit))} {
				found, loose, e := vertex.Find(blank(), l, r, 2)
				wantError(t, api.ErrArg, e, all(found, loose), limit)
			}
		}
	}
	// 0, written as a negative number over 0, is not below 0.
	found, loose, e := vertex.Find(blank(), cross, api.Ratio{Num: ratio("-5").Num}, 2)
	wantOK(t, e)
	wantNumbers(t, []int{len(found), len(loose)}, []int{1, 0})
}

// TestFindLimitOfAny has, of any three rays, the limit at which they are one set.
func TestFindLimitOfAny(t *testing.T) {
	s := newSource()
	little := rat("1/1000000000000")
	joined := 0
	for range 40 {
		l := s.rays(3)
		least := -1
		var chis []*big.Rat
		for i, two := range [][]int{{0, 1}, {0, 2}, {1, 2}} {
			v, is := plainFit(blank(), l, two)
			if !is {
				t.Fatal(l)
			}
			chis = append(chis, bigRat(v.Chi))
			if least < 0 || chis[i].Cmp(chis[least]) < 0 {
				least = i
			}
		}
		v, _ := plainFit(blank(), l, []int{0, 1, 2})
		gap := minus(bigRat(v.Chi), chis[least])
		wantFind(t, blank(), l, chis[least], 2, "pair")
		if chis[least].Sign() > 0 {
			wantFind(t, blank(), l, minus(chis[least], little), 2, "pair, less")
		}
		if gap.Cmp(plus(chis[least], little)) > 0 {
			joined++
			wantFind(t, blank(), l, gap, 2, "ray")
			wantFind(t, blank(), l, minus(gap, little), 2, "ray, less")
		}
	}
	if joined < 10 {
		t.Error(joined)
	}
}

func TestFindLeast(t *testing.T) {
	// Three rays meet in one point, two in another one.
	l := []api.Ray{flat(1, 1, 1), ray(0, "2 0 50 0"), flat(1, 1, -2), flat(1, 1, 3), ray(0, "47 -5 50 0")}
	for least, want := range map[int][][]int{
		math.MinInt: {{0, 2, 3}, {1, 4}}, -1: {{0, 2, 3}, {1, 4}}, 0: {{0, 2, 3}, {1, 4}}, 1: {{0, 2, 3}, {1, 4}}, 2: {{0, 2, 3}, {1, 4}},
		3: {{0, 2, 3}}, 4: nil, 5: nil, 6: nil, math.MaxInt: nil,
	} {
		wantRays(t, raysOf(t, blank(), l, "0", least), want...)
	}
	// As many as there are, and one more.
	wantRays(t, raysOf(t, blank(), l, "100000", 5), []int{0, 1, 2, 3, 4})
	wantRays(t, raysOf(t, blank(), l, "100000", 6))
	// A set has at least two rays, whatever least is.
	for _, least := range []int{math.MinInt, 0, 1} {
		for n := range 2 {
			wantRays(t, raysOf(t, beam(t, [3]int{1, 2, 3}, [3]int{1, 1, 1}), l[:n], "1000", least))
		}
	}
}

// TestFindEqualPairs has pairs with the same Chi.
func TestFindEqualPairs(t *testing.T) {
	through := func(points ...[3]int) []api.Ray {
		var l []api.Ray
		for _, p := range points {
			l = append(l, flat(p[0], p[1], p[2]))
		}
		return l
	}
	// All pairs of rays in one plane meet, each in a point of its own: the first two are taken, then the next two.
	lines := through([3]int{0, 0, 0}, [3]int{0, 1, 1}, [3]int{0, 5, -1}, [3]int{0, 9, 3})
	wantRays(t, raysOf(t, blank(), lines, "0", 2), []int{0, 1}, []int{2, 3})
	// With the same i the least j: 0 is parallel to 1.
	lines[1] = flat(0, 1, 0)
	wantRays(t, raysOf(t, blank(), lines, "0", 2), []int{0, 2}, []int{1, 3})
	// The least i goes before the least j: 0 meets 3 only.
	lines = []api.Ray{flat(0, 0, 0), flat(0, 1, 0), flat(0, 2, 0), flat(0, 0, 5)}
	wantRays(t, raysOf(t, blank(), lines, "0", 2), []int{0, 3})
	lines = []api.Ray{ray(0, "0 0 7 0"), flat(0, 1, 0), flat(0, 2, 3), ray(0, "2 1 7 0")}
	wantRays(t, raysOf(t, blank(), lines, "0", 2), []int{0, 3}, []int{1, 2})
	// A lesser Chi goes before a lesser index.
	lines = append([]api.Ray{ray(0, "0 1 1 0"), ray(0, "0 -1 -1 0")}, lines...)
	wantRays(t, raysOf(t, blank(), lines, "2", 2)[:1], []int{2, 5})
}

// TestFindEqualRays has rays that would add as much to the Chi of a set: the first one is added.
func TestFindEqualRays(t *testing.T) {
	pair := []api.Ray{ray(0, "0 1 0 0"), ray(0, "0 -1 0 0")}
	// Two rays 3 above and 3 below: either adds 6, both 18.
	l := append(slices.Clone(pair), ray(0, "0 2 3 0"), ray(0, "0 2 -3 0"))
	wantRays(t, raysOf(t, blank(), l, "6", 3), []int{0, 1, 2})
	l[2], l[3] = l[3], l[2]
	wantRays(t, raysOf(t, blank(), l, "6", 3), []int{0, 1, 2})
	// With one between that adds more.
	l = slices.Insert(l, 2, ray(0, "0 2 4 0"))
	wantRays(t, raysOf(t, blank(), l, "6", 3), []int{0, 1, 3})
	// With one that adds less, after which 3 is nearer.
	l = append(l, ray(0, "0 2 1 0"))
	wantRays(t, raysOf(t, blank(), l, "5", 3), []int{0, 1, 5})
	wantRays(t, raysOf(t, blank(), l, "6", 3), []int{0, 1, 4, 5})
	// Rays of lesser indices than the pair are added, too.
	l = []api.Ray{ray(0, "0 2 1 0"), pair[0], ray(0, "0 2 -1 0"), pair[1]}
	wantRays(t, raysOf(t, blank(), l, "8/3", 2), []int{0, 1, 2, 3})
}

// TestFindRejected has pairs that begin no vertex, whose rays are in others.
func TestFindRejected(t *testing.T) {
	// 0 and 1 meet, but none goes with them; 1 is near to 2 and 3, which meet each other more closely than it.
	l := []api.Ray{ray(0, "0 1 0 0"), ray(0, "0 -1 0 0"), ray(0, "30 2 1 0"), ray(0, "30 1 1 0"), ray(0, "0 -1 2 0")}
	if did := wantFind(t, blank(), l, ratOf(1), 3); did.rejected == 0 {
		t.Error(did)
	}
	// All pairs of four lines of a plane meet, and none with a third one: all six are rejected.
	lines := []api.Ray{flat(0, 0, 0), flat(0, 1, 1), flat(0, 5, -1), flat(0, 9, 3)}
	if did := wantFind(t, blank(), lines, ratOf(0), 3); did.rejected != 6 || did.vertices != 0 {
		t.Error(did)
	}
	// With a ray that makes three of them meet, the pairs before are rejected.
	lines = append(lines, flat(-1, 6, 0), flat(-1, 6, -7))
	if did := wantFind(t, blank(), lines, ratOf(0), 4); did.rejected == 0 || did.vertices != 1 {
		t.Error(did)
	}
	s := newSource()
	rejected, vertices := 0, 0
	for i := range 20 {
		did := wantFind(t, blank(), s.crowd(8, 2, 2), big.NewRat(int64(1+s.Intn(8)), 2), 4, i)
		if did.vertices > 0 {
			rejected += did.rejected
			vertices++
		}
	}
	if rejected < 5 || vertices < 5 {
		t.Error(rejected, vertices)
	}
}

// TestFindUndetermined has pairs that determine no point.
func TestFindUndetermined(t *testing.T) {
	// Parallel rays, of one face and of others.
	l := []api.Ray{ray(0, "0 1 0 0"), ray(0, "1 1 0 0"), ray(1, "0 -1 0 0"), ray(2, "5 1 0 0")}
	wantRays(t, raysOf(t, blank(), l, "1000", 2))
	wantRays(t, raysOf(t, level(t), l, "1000", 2))
	wantRays(t, raysOf(t, beam(t, [3]int{0, 0, 0}, [3]int{1, 0, 0}), l, "1000", 2), []int{0, 1, 2, 3})
	// One that is not parallel joins with one of them, then the others are added.
	wantRays(t, raysOf(t, blank(), append(l, ray(0, "0 -1 0 0")), "1000", 2), []int{0, 1, 2, 3, 4})
	wantRays(t, raysOf(t, blank(), append(l, ray(0, "0 -1 0 0")), "0", 2), []int{0, 2, 4})
	wantRays(t, raysOf(t, blank(), nil, "1000", 0))
	wantRays(t, raysOf(t, beam(t, [3]int{}, [3]int{1, 1, 1}), l[:1], "1000", 0))
}

// without returns an information that, with what some rays say, is that of n.
func without(n string, l ...api.Ray) api.Info {
	f := formOf(known(n, "0 0 0", "0", 0))
	for _, r := range l {
		x, y := offs(r)
		f = f.add(ratOf(-1), x, x).add(ratOf(-1), y, y)
	}
	return api.Info{
		N: laid(3, 3, func(i, j int) *big.Rat { return f[i][j] }),
		R: laid(3, 1, func(i, j int) *big.Rat { return new(big.Rat).Neg(f[i][3]) }),
		C: ofRat(f[3][3]),
	}
}

// TestFindPriors has priors that no measurement gives: with them a Chi may be below 0, and a ray may take away what is known.
func TestFindPriors(t *testing.T) {
	a, b, c := ray(0, "0 1 0 0"), ray(3, "2 -1 1 5"), ray(4, "1 7 0 -2")
	l := []api.Ray{a, b, c}
	for name, prior := range map[string]api.Info{
		"c undoes what a and b say":   without("1 0 0, 0 1 0, 0 0 0", a, b, c),
		"all of them are determined":  without("1 0 0, 0 1 0, 0 0 1", a, b, c),
		"c alone is known not to be":  without("0 0 0, 0 0 0, 0 0 0", c),
		"a and b are not determined":  without("1 0 0, 0 1 0, 0 0 0", a, b),
		"a Chi that is below 0":       known("1 0 0, 0 1 0, 0 0 1", "0 0 0", "-1000000", 3),
		"a Chi that is below 0 again": known("0 0 0, 0 0 0, 0 0 -1", "5 5 5", "-7", 3),
	} {
		for _, limit := range []int{0, 5, 1000, 1 << 40} {
			for least := range 4 {
				wantFind(t, prior, l, ratOf(limit), least, name, limit, least)
			}
		}
	}
	// With all three nothing is known of Z, so each pair that is determined stays alone.
	prior := without("1 0 0, 0 1 0, 0 0 0", a, b, c)
	rays := raysOf(t, prior, l, "1000000000000", 2)
	if len(rays) != 1 || len(rays[0]) != 2 {
		t.Error(rays)
	}
	s := newSource()
	for i := range 20 {
		m := laid(3, 3, func(i, j int) *big.Rat { return ratOf(s.between(2)) })
		n := laid(3, 3, func(i, j int) *big.Rat { return plus(at(m, i, j), at(m, j, i)) })
		prior := api.Info{N: n, R: s.point(), C: s.number(), Count: s.between(9)}
		wantFind(t, prior, s.rays(5), ratOf(s.Intn(50)), s.Intn(4), i)
	}
}
