package vertex_test

import (
	"math/big"
	"slices"
	"testing"

	"hodoscope/api"
	"hodoscope/linear"
	"hodoscope/track"
	"hodoscope/vertex"
)

// What follows from the promises, by calls of the package only (P8.9).

// spread returns the sum of the prior's squares and of all distances of a point.
func spread(t *testing.T, prior api.Info, l []api.Ray, p place) *big.Rat {
	t.Helper()
	sum := formOf(prior).of(p)
	for _, r := range l {
		_, chi, e := vertex.Distance(r, p.matrix())
		wantOK(t, e, r)
		sum = plus(sum, bigRat(chi))
	}
	return sum
}

// TestLeast has points beside a fit, near and far: none has as small a sum.
func TestLeast(t *testing.T) {
	s := newSource()
	for i := range 40 {
		prior, l := s.prior(t), s.rays(2+s.Intn(5))
		if i%2 == 0 {
			prior = blank()
		}
		v, e := vertex.Fit(prior, l)
		wantOK(t, e, l)
		least := spread(t, prior, l, placeOf(v.P))
		wantRatio(t, v.Chi, ofRat(least), l)
		for range 10 {
			off := placeOf(s.point())
			if off.isZero() {
				continue
			}
			for _, by := range []string{"1", "1/1000000000000", "1000000"} {
				p := placeOf(v.P).add(rat(by), off)
				if more := spread(t, prior, l, p); more.Cmp(least) <= 0 {
					t.Error(l, text(p.matrix()), more, least)
				}
			}
		}
	}
}

// TestOnePoint has rays that pass through one point, with any errors.
func TestOnePoint(t *testing.T) {
	s := newSource()
	found := 0
	for range 40 {
		p := s.point()
		var l []api.Ray
		for range s.Intn(6) {
			l = append(l, s.passing(placeOf(p), 0))
		}
		v, e := vertex.Fit(blank(), l)
		if e == api.ErrSingular {
			continue
		}
		found++
		wantOK(t, e, l)
		wantMatrix(t, v.P, p, l)
		wantRatio(t, v.Chi, ratio("0"), l)
		all, loose, e := vertex.Find(blank(), l, ratio("0"), 2)
		wantOK(t, e, l)
		wantNumbers(t, []int{len(all), len(loose)}, []int{1, 0}, l)
		wantVertex(t, all[0], v, l)
	}
	if found < 20 {
		t.Error(found)
	}
}

// TestFoundOnce says of each ray that it is in one vertex, or loose; and of each vertex that it is the fit of its rays.
func TestFoundOnce(t *testing.T) {
	s := newSource()
	for i := range 40 {
		prior := blank()
		if i%3 == 0 {
			prior = s.prior(t)
		}
		l := s.crowd(s.Intn(14), 1+s.Intn(4), s.Intn(3))
		found, rest, e := vertex.Find(prior, l, ofRat(ratOf(s.Intn(30))), s.Intn(5))
		wantOK(t, e, l)
		if !slices.IsSorted(rest) {
			t.Error(rest)
		}
		seen := slices.Clone(rest)
		for _, v := range found {
			seen = append(seen, v.Rays...)
			var own []api.Ray
			for _, k := range v.Rays {
				own = append(own, l[k])
			}
			want, e := vertex.Fit(prior, own)
			wantOK(t, e, l)
			want.Rays = v.Rays
			if !slices.IsSorted(v.Rays) {
				t.Error(v.Rays)
			}
			wantVertex(t, v, want, l)
		}
		slices.Sort(seen)
		wantNumbers(t, seen, indicesOf(l), l)
	}
}

// TestMergeHalves merges the fits of two halves of some rays.
func TestMergeHalves(t *testing.T) {
	s := newSource()
	for range 40 {
		l := s.rays(4 + s.Intn(5))
		half := 2 + s.Intn(len(l)-3)
		a, e := vertex.Fit(blank(), l[:half])
		wantOK(t, e, l)
		b, e := vertex.Fit(blank(), l[half:])
		wantOK(t, e, l)
		want, e := vertex.Fit(blank(), l)
		wantOK(t, e, l)
		got, _, e := vertex.Merge(a, b)
		wantOK(t, e, l)
		got.Rays = want.Rays
		wantVertex(t, got, want, l)
	}
}

// TestDecayOnLine says that a decay is where its time leads, on the line through p in the direction of its sum.
func TestDecayOnLine(t *testing.T) {
	s := newSource()
	for range 40 {
		p, a, b := s.point(), s.ray(), s.ray()
		ka, kb := ratio("1/3"), ratio("-5/2")
		got, e := vertex.Decay(p, a, b, ka, kb)
		wantOK(t, e)
		wantMatrix(t, got.P, placeOf(p).add(bigRat(got.Time), placeOf(got.Sum)).matrix(), a, b)
		wantRatio(t, got.Chi, ofRat(spread(t, blank(), []api.Ray{a, b}, placeOf(got.P))), a, b)
		pa, e := vertex.Momentum(a, ka)
		wantOK(t, e)
		pb, e := vertex.Momentum(b, kb)
		wantOK(t, e)
		wantMatrix(t, got.Sum, placeOf(pa).add(ratOf(1), placeOf(pb)).matrix(), a, b)
		for _, off := range []string{"1", "-1", "1/1000000000000"} {
			beside := placeOf(got.P).add(rat(off), placeOf(got.Sum))
			if spread(t, blank(), []api.Ray{a, b}, beside).Cmp(bigRat(got.Chi)) <= 0 {
				t.Error(a, b, off)
			}
		}
	}
}

// TestFromFits takes the rays of tracks that layer 7 fits to points without errors: they come from where they meet.
func TestFromFits(t *testing.T) {
	sites := func(x1, y1, k int) []api.Site {
		var l []api.Site
		for _, d := range []int{10, 20, 40, 70} {
			l = append(l, api.Site{Depth: d, Bend: d * d, Turn: 2 * d, Hit: true, X: 3 + x1*d + k*d*d, Y: -2 + y1*d, VX: 2 + d, VY: 3})
		}
		return l
	}
	var l []api.Ray
	for _, x := range [][3]int{{1, 2, 0}, {-3, 1, 1}, {2, -2, -2}} {
		fit, e := track.Fit(sites(x[0], x[1], x[2]))
		wantOK(t, e)
		r, e := vertex.FromTrack(4, fit)
		wantOK(t, e)
		point, cov, e := track.At(fit, api.Site{})
		wantOK(t, e)
		wantMatrix(t, api.Matrix{Rows: 2, Cols: 1, Cells: []api.Ratio{r.X0, r.Y0}}, point)
		wantMatrix(t, r.V, cov)
		l = append(l, r)
	}
	v, e := vertex.Fit(blank(), l)
	wantOK(t, e)
	wantMatrix(t, v.P, column("3 -2 0"))
	wantRatio(t, v.Chi, ratio("0"))
	wantNumber(t, v.Free, 3)
	wantOK(t, vertex.CheckVertex(v))
}

// TestFitIsEstimate has the fit as layer 2's estimate of what Row says.
func TestFitIsEstimate(t *testing.T) {
	s := newSource()
	for range 20 {
		l := s.rays(2 + s.Intn(4))
		f := s.prior(t)
		v, e := vertex.Fit(f, l)
		wantOK(t, e)
		for _, r := range l {
			h, y, e := vertex.Row(r)
			wantOK(t, e)
			f, e = linear.Measure(f, h, y, r.V)
			wantOK(t, e)
		}
		p, cov, chi, e := linear.Estimate(f)
		wantOK(t, e)
		wantVertex(t, v, api.Vertex{P: p, Cov: cov, Chi: chi, Free: f.Count - 3, Rays: indicesOf(l)})
	}
}
