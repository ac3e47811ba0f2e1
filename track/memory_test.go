package track_test

import (
	"reflect"
	"slices"
	"testing"

	"hodoscope/api"
	"hodoscope/track"
)

// arguments are what the calls below take from.
type arguments struct {
	l           []api.Site
	a, b        api.Track
	p           api.Matrix
	kicks       []api.Ratio
	limit, off  api.Ratio
	numbers     []api.Int
	site, noHit api.Site
}

// returned is what a call returns that has memory.
type returned []any

// calls returns every function that returns more than a number.
func calls() map[string]func(x arguments) returned {
	return map[string]func(x arguments) returned{
		"Row":     func(x arguments) returned { m, _ := track.Row(x.site); return returned{m} },
		"Cross":   func(x arguments) returned { a, b, _ := track.Cross(x.site); return returned{a, b} },
		"Forward": func(x arguments) returned { l, _ := track.Forward(x.l); return returned{l} },
		"Forward without hits": func(x arguments) returned {
			l, _ := track.Forward([]api.Site{{}, {Depth: 1}, {Depth: 2}})
			return returned{l}
		},
		"Backward": func(x arguments) returned { l, _ := track.Backward(x.l); return returned{l} },
		"Backward without hits": func(x arguments) returned {
			l, _ := track.Backward([]api.Site{{}, {Depth: 1}, {Depth: 2}})
			return returned{l}
		},
		"Smooth": func(x arguments) returned { l, _ := track.Smooth(x.l); return returned{l} },
		"Fit":    func(x arguments) returned { a, _ := track.Fit(x.l); return returned{a} },
		"Kinks":  func(x arguments) returned { l, _ := track.Kinks(x.l); return returned{l} },
		"Follow": func(x arguments) returned { l, _ := track.Follow(x.l, x.p, x.kicks); return returned{l} },
		"Sum":    func(x arguments) returned { r, _ := track.Sum(x.l, x.p, x.kicks); return returned{r} },
		"Sum of nothing": func(x arguments) returned {
			r, _ := track.Sum(nil, x.p, nil)
			return returned{r}
		},
		"Gain":        func(x arguments) returned { r, _ := track.Gain(x.l, 1); return returned{r} },
		"Reject":      func(x arguments) returned { a, l, _ := track.Reject(x.l, x.limit, 3); return returned{a, l} },
		"Reject none": func(x arguments) returned { a, l, _ := track.Reject(x.l, x.limit, 99); return returned{a, l} },
		"At":          func(x arguments) returned { a, b, _ := track.At(x.a, x.site); return returned{a, b} },
		"Predict":     func(x arguments) returned { a, _ := track.Predict(x.a, x.site); return returned{a} },
		"Predict no change": func(x arguments) returned {
			a, _ := track.Predict(x.a, x.noHit)
			return returned{a}
		},
		"Update":    func(x arguments) returned { a, _ := track.Update(x.a, x.site); return returned{a} },
		"Join":      func(x arguments) returned { a, r, _ := track.Join(x.a, x.b); return returned{a, r} },
		"Join self": func(x arguments) returned { a, r, _ := track.Join(x.a, x.a); return returned{a, r} },
		"Charge":    func(x arguments) returned { _, r, _ := track.Charge(x.a); return returned{r} },
		"Round":     func(x arguments) returned { l, _ := track.Round(x.a, 40); return returned{l} },
		"Round 0":   func(x arguments) returned { l, _ := track.Round(x.b, 0); return returned{l} },
		"Value": func(x arguments) returned {
			a, b, _ := track.Value(x.numbers, 40, x.site)
			return returned{a, b}
		},
		"Value 0": func(x arguments) returned {
			a, b, _ := track.Value(x.numbers, 0, api.Site{})
			return returned{a, b}
		},
		"numbers": func(x arguments) returned {
			track.CheckSites(x.l)
			track.CheckTrack(x.a)
			track.Bits(x.site, x.off)
			return nil
		},
	}
}

// argumentSets returns makers of arguments; no memory of one set is in another.
func argumentSets() []func() arguments {
	plain := func() arguments {
		l := with(noisy(), 1, func(s *api.Site) { s.Kick, s.Loss = 2, 30 })
		return arguments{
			l: l, a: some(), b: api.Track{P: column("1 2 3 4 5"), Cov: diagonal(5, "1"), Chi: ratio("2"), Free: 3},
			p: column("1 1/2 3 -4/7 0"), kicks: ratios("0 0 1/3 2 0 0 0 0 0 0"), limit: ratio("1/5"), off: ratio("1/8"),
			numbers: integers(1, -2, 1<<60, 0, 1<<50), site: l[1], noHit: api.Site{Depth: 3},
		}
	}
	return []func() arguments{
		plain,
		func() arguments {
			x := plain()
			x.a, x.b, x.p, x.kicks = looseTrack(x.a), looseTrack(x.b), looseMatrix(x.p), looseRatios(x.kicks)
			x.limit, x.off = looseRatio(x.limit), looseRatio(x.off)
			for i, n := range x.numbers {
				x.numbers[i] = loose(n)
			}
			return x
		},
		func() arguments {
			x := plain()
			// Lists with room behind them, which belongs to the caller.
			x.l = append(slices.Grow(x.l, 70), hit(60, 1, 1))[:len(x.l)]
			x.kicks = append(slices.Grow(x.kicks, 70), ratio("7"))[:len(x.kicks)]
			x.numbers = append(slices.Grow(x.numbers, 70), loose(x.numbers[0]))[:len(x.numbers)]
			x.p.Cells = append(slices.Grow(x.p.Cells, 70), ratio("7"))[:5]
			x.a.P.Cells = append(slices.Grow(x.a.P.Cells, 70), ratio("7"))[:5]
			x.a.Cov.Cells = append(slices.Grow(x.a.Cov.Cells, 70), ratio("7"))[:25]
			return x
		},
		func() arguments {
			x := plain()
			x.a.Chi, x.b.Chi, x.a.P = api.Ratio{}, ratio("0"), column("0 0 0 0 0")
			return x
		},
	}
}

// room returns the arguments with what is behind their lists.
func room(x arguments) []any {
	return []any{x, x.l[:cap(x.l)], x.kicks[:cap(x.kicks)], x.numbers[:cap(x.numbers)], x.p.Cells[:cap(x.p.Cells)], x.a.P.Cells[:cap(x.a.P.Cells)], x.a.Cov.Cells[:cap(x.a.Cov.Cells)]}
}

// parts are the slices that values have, each as a function that fills it, with the room behind it, by a number, and one that reports whether it is filled by that.
type parts struct {
	fill  []func(id int)
	holds []func(id int) bool
}

// addTo adds a slice; of a number is an element that is its own for each number.
func addTo[T any](p *parts, l []T, of func(id int) T) {
	l = l[:cap(l)]
	p.fill = append(p.fill, func(id int) {
		for i := range l {
			l[i] = of(id)
		}
	})
	p.holds = append(p.holds, func(id int) bool {
		return !slices.ContainsFunc(l, func(x T) bool { return !reflect.DeepEqual(x, of(id)) })
	})
}

func (p *parts) add(v any) {
	intOf := func(id int) api.Int { return api.Int{Words: []uint32{uint32(id)}} }
	switch x := v.(type) {
	case api.Int:
		addTo(p, x.Words, func(id int) uint32 { return uint32(id) })
	case api.Ratio:
		p.add(x.Num)
		p.add(x.Den)
	case api.Matrix:
		p.add(x.Cells)
	case api.Info:
		p.add(x.N)
		p.add(x.R)
		p.add(x.C)
	case api.Track:
		p.add(x.P)
		p.add(x.Cov)
		p.add(x.Chi)
	case []int:
		addTo(p, x, func(id int) int { return id })
	case []api.Site:
		addTo(p, x, func(id int) api.Site { return api.Site{Depth: id} })
	case []api.Int:
		addEach(p, x, intOf)
	case []api.Ratio:
		addEach(p, x, func(id int) api.Ratio { return api.Ratio{Num: intOf(id)} })
	case []api.Info:
		addEach(p, x, func(id int) api.Info { return api.Info{Count: id} })
	case []api.Track:
		addEach(p, x, func(id int) api.Track { return api.Track{Free: id} })
	default:
		panic(v)
	}
}

// addEach adds the elements of a list, and the list.
func addEach[T any](p *parts, l []T, of func(id int) T) {
	for _, x := range l {
		p.add(x)
	}
	addTo(p, l, of)
}

// overwrite gives each slice a number of its own, and reports whether all kept them.
func (p *parts) overwrite() bool {
	for id, fill := range p.fill {
		fill(1000 + id)
	}
	for id, holds := range p.holds {
		if !holds(1000 + id) {
			return false
		}
	}
	return true
}

// TestMemory is P7.8: arguments stay as they were, and results are new memory.
func TestMemory(t *testing.T) {
	for name, call := range calls() {
		for i, set := range argumentSets() {
			x := set()
			got := call(x)
			if !reflect.DeepEqual(room(x), room(set())) {
				t.Errorf("%s %d changed its arguments", name, i)
			}
			want := call(set())
			var p parts
			for _, v := range got {
				p.add(v)
			}
			if !p.overwrite() {
				t.Errorf("%s %d: parts of the result share memory", name, i)
			}
			if !reflect.DeepEqual(room(x), room(set())) {
				t.Errorf("%s %d: the result shares memory with the arguments", name, i)
			}
			if again := call(set()); !reflect.DeepEqual(again, want) {
				t.Errorf("%s %d: %v after a change of the first result, %v before", name, i, again, want)
			}
		}
	}
}

func TestArgumentsAreNotKept(t *testing.T) {
	for name, call := range calls() {
		for i, set := range argumentSets() {
			x := set()
			got, want := call(x), call(set())
			var p parts
			for _, v := range []any{x.l, x.a, x.b, x.p, x.kicks, x.limit, x.off, x.numbers} {
				p.add(v)
			}
			p.overwrite()
			if !reflect.DeepEqual(got, want) {
				t.Errorf("%s %d changed with its arguments", name, i)
			}
		}
	}
}

// TestCallsWork makes sure that the calls above return something: an error would have no memory.
func TestCallsWork(t *testing.T) {
	for name, call := range calls() {
		for i, set := range argumentSets() {
			for _, v := range call(set()) {
				if l, is := v.([]int); is && len(l) == 0 && name == "Reject none" {
					continue
				}
				if isNothing(v) {
					t.Errorf("%s %d: %v", name, i, v)
				}
			}
		}
	}
}
