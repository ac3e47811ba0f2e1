package vertex_test

import (
	"reflect"
	"slices"
	"testing"

	"hodoscope/api"
	"hodoscope/vertex"
)

// arguments are what the calls below take from.
type arguments struct {
	fit           api.Track
	a, b          api.Ray
	p, q          api.Matrix
	prior         api.Info
	l             []api.Ray
	limit, ka, kb api.Ratio
	v, w          api.Vertex
	ellipses      []api.Ellipse
}

// returned is what a call returns that has memory.
type returned []any

// calls returns every function that returns more than a number.
func calls() map[string]func(x arguments) returned {
	return map[string]func(x arguments) returned{
		"FromTrack": func(x arguments) returned { r, _ := vertex.FromTrack(1, x.fit); return returned{r} },
		"Row":       func(x arguments) returned { h, y, _ := vertex.Row(x.a); return returned{h, y} },
		"Distance":  func(x arguments) returned { off, chi, _ := vertex.Distance(x.a, x.p); return returned{off, chi} },
		"Beam":      func(x arguments) returned { f, _ := vertex.Beam([3]int{1, 2, 3}, [3]int{4, 0, 5}); return returned{f} },
		"Beam without anything": func(x arguments) returned {
			f, _ := vertex.Beam([3]int{}, [3]int{})
			return returned{f}
		},
		"Fit":      func(x arguments) returned { v, _ := vertex.Fit(x.prior, x.l); return returned{v} },
		"Fit none": func(x arguments) returned { v, _ := vertex.Fit(x.prior, nil); return returned{v} },
		"Find": func(x arguments) returned {
			found, loose, _ := vertex.Find(x.prior, x.l, x.limit, 2)
			return returned{found, loose}
		},
		"Find none": func(x arguments) returned {
			found, loose, _ := vertex.Find(x.prior, x.l, x.limit, 99)
			return returned{found, loose}
		},
		"Merge":      func(x arguments) returned { v, gap, _ := vertex.Merge(x.v, x.w); return returned{v, gap} },
		"Merge self": func(x arguments) returned { v, gap, _ := vertex.Merge(x.v, x.v); return returned{v, gap} },
		"Flight": func(x arguments) returned {
			way, square, significance, _ := vertex.Flight(x.v, x.w)
			return returned{way, square, significance}
		},
		"Flight to self": func(x arguments) returned {
			way, square, significance, _ := vertex.Flight(x.v, x.v)
			return returned{way, square, significance}
		},
		"Momentum":  func(x arguments) returned { p, _ := vertex.Momentum(x.a, x.ka); return returned{p} },
		"Pair":      func(x arguments) returned { a, b, _ := vertex.Pair(x.p, x.q); return returned{a, b} },
		"Pair self": func(x arguments) returned { a, b, _ := vertex.Pair(x.p, x.p); return returned{a, b} },
		"Decay":     func(x arguments) returned { d, _ := vertex.Decay(x.p, x.a, x.b, x.ka, x.kb); return returned{d} },
		"Kind":      func(x arguments) returned { _, f, _ := vertex.Kind(x.ka, x.kb, x.ellipses); return returned{f} },
		"Kind none": func(x arguments) returned { _, f, _ := vertex.Kind(x.ka, x.kb, nil); return returned{f} },
		"numbers": func(x arguments) returned {
			vertex.CheckRay(x.a)
			vertex.CheckVertex(x.v)
			return nil
		},
	}
}

// argumentSets returns makers of arguments; no memory of one set is in another.
func argumentSets() []func() arguments {
	plain := func() arguments {
		rays := []api.Ray{ray(0, "0 1 0 0"), ray(0, "2 -1 1 0"), ray(3, "5000 1 7 2"), ray(4, "1/2 3 0 -1"), ray(0, "0 2 0 0")}
		return arguments{
			fit: fitted(), a: wide(ray(2, "1 2 3 4"), "2 1, 1 3"), b: ray(5, "1/2 0 -3 1"), p: column("1 2 3"), q: column("0 1/2 -7"),
			prior: known("1 1/2 0, 1/2 2 0, 0 0 1", "1 0 2", "9", 3), l: rays, limit: ratio("7"), ka: ratio("-1/2"), kb: ratio("3"),
			v: some(), w: api.Vertex{P: column("0 0 1"), Cov: diagonal("1 2 3"), Chi: ratio("0"), Free: 1, Rays: []int{7, 4}},
			ellipses: []api.Ellipse{ellipse("0", "1", "3"), ellipse("1", "1", "2")},
		}
	}
	return []func() arguments{
		plain,
		func() arguments {
			x := plain()
			x.fit.P, x.fit.Cov = looseMatrix(x.fit.P), looseMatrix(x.fit.Cov)
			x.a, x.b, x.p, x.q, x.prior, x.l = looseRay(x.a), looseRay(x.b), looseMatrix(x.p), looseMatrix(x.q), looseInfo(x.prior), looseRays(x.l)
			x.limit, x.ka, x.kb = looseRatio(x.limit), looseRatio(x.ka), looseRatio(x.kb)
			x.v, x.w = looseVertex(x.v), looseVertex(x.w)
			for i, c := range x.ellipses {
				x.ellipses[i] = api.Ellipse{Centre: looseRatio(c.Centre), Width: looseRatio(c.Width), Height: looseRatio(c.Height)}
			}
			return x
		},
		func() arguments {
			x := plain()
			// Lists with room behind them, which belongs to the caller.
			x.l = append(slices.Grow(x.l, 70), ray(1, "9 9 9 9"))[:len(x.l)]
			x.v.Rays = append(slices.Grow(x.v.Rays, 70), 77)[:len(x.v.Rays)]
			x.w.Rays = append(slices.Grow(x.w.Rays, 70), 77)[:len(x.w.Rays)]
			x.p.Cells = append(slices.Grow(x.p.Cells, 70), ratio("7"))[:3]
			x.prior.N.Cells = append(slices.Grow(x.prior.N.Cells, 70), ratio("7"))[:9]
			x.prior.R.Cells = append(slices.Grow(x.prior.R.Cells, 70), ratio("7"))[:3]
			x.ellipses = append(slices.Grow(x.ellipses, 70), ellipse("7", "7", "7"))[:len(x.ellipses)]
			return x
		},
		func() arguments {
			x := plain()
			x.prior = known("1 0 0, 0 1 0, 0 0 1", "0 0 0", "0", 0)
			x.l = []api.Ray{ray(0, "0 0 0 0"), ray(1, "0 0 0 0")}
			x.a, x.b, x.p = ray(0, "0 0 0 0"), ray(1, "0 0 0 0"), column("0 0 1")
			x.v.Rays, x.v.Chi = nil, api.Ratio{}
			x.limit = api.Ratio{}
			return x
		},
	}
}

// room returns the arguments with what is behind their lists.
func room(x arguments) []any {
	return []any{x, x.l[:cap(x.l)], x.v.Rays[:cap(x.v.Rays)], x.w.Rays[:cap(x.w.Rays)], x.p.Cells[:cap(x.p.Cells)], x.prior.N.Cells[:cap(x.prior.N.Cells)], x.prior.R.Cells[:cap(x.prior.R.Cells)], x.ellipses[:cap(x.ellipses)]}
}

// parts are the slices that values have, each as a function that fills it, with the room behind it, by a number, and one that reports whether it is filled by that.
type parts struct {
	fill  []func(id int)
	holds []func(id int) bool
}

// addTo adds a slice; of a number is an element that is its own for each number.
func addTo[T any](p *parts, l []T, of func(id int) T) {
	l = l[:cap(l)]
	p.fill = append(p.fill, func(id int) {
		for i := range l {
			l[i] = of(id)
		}
	})
	p.holds = append(p.holds, func(id int) bool {
		return !slices.ContainsFunc(l, func(x T) bool { return !reflect.DeepEqual(x, of(id)) })
	})
}

// addEach adds the elements of a list, and the list.
func addEach[T any](p *parts, l []T, of func(id int) T) {
	for _, x := range l {
		p.add(x)
	}
	addTo(p, l, of)
}

func (p *parts) addAll(l ...any) {
	for _, v := range l {
		p.add(v)
	}
}

func (p *parts) add(v any) {
	ratioOf := func(id int) api.Ratio { return api.Ratio{Num: api.Int{Words: []uint32{uint32(id)}}} }
	switch x := v.(type) {
	case api.Int:
		addTo(p, x.Words, func(id int) uint32 { return uint32(id) })
	case api.Ratio:
		p.addAll(x.Num, x.Den)
	case []api.Ratio:
		addEach(p, x, ratioOf)
	case api.Matrix:
		p.add(x.Cells)
	case api.Info:
		p.addAll(x.N, x.R, x.C)
	case api.Track:
		p.addAll(x.P, x.Cov, x.Chi)
	case api.Ray:
		p.addAll(x.X0, x.X1, x.Y0, x.Y1, x.V)
	case api.Vertex:
		p.addAll(x.P, x.Cov, x.Chi, x.Rays)
	case api.Decay:
		p.addAll(x.P, x.Sum, x.Chi, x.Time, x.Alpha, x.Square)
	case api.Ellipse:
		p.addAll(x.Centre, x.Width, x.Height)
	case []int:
		addTo(p, x, func(id int) int { return id })
	case []api.Ray:
		addEach(p, x, func(id int) api.Ray { return api.Ray{Face: id} })
	case []api.Vertex:
		addEach(p, x, func(id int) api.Vertex { return api.Vertex{Free: id} })
	case []api.Ellipse:
		addEach(p, x, func(id int) api.Ellipse { return api.Ellipse{Centre: ratioOf(id)} })
	default:
		panic(v)
	}
}

// overwrite gives each slice a number of its own, and reports whether all kept them.
func (p *parts) overwrite() bool {
	for id, fill := range p.fill {
		fill(1000 + id)
	}
	for id, holds := range p.holds {
		if !holds(1000 + id) {
			return false
		}
	}
	return true
}

// TestMemory is P8.8: arguments stay as they were, and results are new memory.
func TestMemory(t *testing.T) {
	for name, call := range calls() {
		for i, set := range argumentSets() {
			x := set()
			got := call(x)
			if !reflect.DeepEqual(room(x), room(set())) {
				t.Errorf("%s %d changed its arguments", name, i)
			}
			want := call(set())
			var p parts
			p.addAll(got...)
			if !p.overwrite() {
				t.Errorf("%s %d: parts of the result share memory", name, i)
			}
			if !reflect.DeepEqual(room(x), room(set())) {
				t.Errorf("%s %d: the result shares memory with the arguments", name, i)
			}
			if again := call(set()); !reflect.DeepEqual(again, want) {
				t.Errorf("%s %d: %v after a change of the first result, %v before", name, i, again, want)
			}
		}
	}
}

func TestArgumentsAreNotKept(t *testing.T) {
	for name, call := range calls() {
		for i, set := range argumentSets() {
			x := set()
			got, want := call(x), call(set())
			var p parts
			p.addAll(x.fit, x.a, x.b, x.p, x.q, x.prior, x.l, x.limit, x.ka, x.kb, x.v, x.w, x.ellipses)
			p.overwrite()
			if !reflect.DeepEqual(got, want) {
				t.Errorf("%s %d changed with its arguments", name, i)
			}
		}
	}
}

// TestCallsWork makes sure that the calls above return something: an error would have no memory.
func TestCallsWork(t *testing.T) {
	for name, call := range calls() {
		for i, set := range argumentSets() {
			for k, v := range call(set()) {
				mayBeEmpty := name == "Find" && i == 3 && k == 1 || name == "Find none" && k == 0
				if isNothing(v) && !mayBeEmpty {
					t.Errorf("%s %d: %v", name, i, v)
				}
			}
		}
	}
}

// TestAgain calls everything twice: what a map has no order of does not show.
func TestAgain(t *testing.T) {
	for name, call := range calls() {
		for i, set := range argumentSets() {
			want := call(set())
			for range 5 {
				if !reflect.DeepEqual(call(set()), want) {
					t.Errorf("%s %d is not the same again", name, i)
				}
			}
		}
	}
}
