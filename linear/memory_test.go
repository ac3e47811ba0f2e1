package linear_test

import (
	"reflect"
	"slices"
	"testing"

	"hodoscope/api"
	"hodoscope/linear"
)

// arguments are what the calls below take from.
type arguments struct {
	a, b, v, y api.Matrix
	f, g       api.Info
	w          []api.Ratio
	r          api.Ratio
	l          []int
}

// returned is what a call returns: a list of matrices, ratios, informations, lists of numbers.
type returned []any

// calls returns every function that returns more than a number, for square matrices a and b of the same size, a covariance v and a vector y of that size.
func calls() map[string]func(x arguments) returned {
	return map[string]func(x arguments) returned{
		"Identity":     func(x arguments) returned { m, _ := linear.Identity(3); return returned{m} },
		"Cell":         func(x arguments) returned { r, _ := linear.Cell(x.a, 1, 1); return returned{r} },
		"Add":          func(x arguments) returned { m, _ := linear.Add(x.a, x.b); return returned{m} },
		"Scale":        func(x arguments) returned { m, _ := linear.Scale(x.a, x.r); return returned{m} },
		"Mul":          func(x arguments) returned { m, _ := linear.Mul(x.a, x.b); return returned{m} },
		"Transpose":    func(x arguments) returned { m, _ := linear.Transpose(x.a); return returned{m} },
		"Pick":         func(x arguments) returned { m, _ := linear.Pick(x.a, []int{1, 1, 0}, []int{0, 0}); return returned{m} },
		"Pick l":       func(x arguments) returned { m, _ := linear.Pick(x.a, x.l, x.l); return returned{m} },
		"Stack":        func(x arguments) returned { m, _ := linear.Stack(x.a, x.a); return returned{m} },
		"Reduce":       func(x arguments) returned { m, l, _ := linear.Reduce(x.a); return returned{m, l} },
		"Det":          func(x arguments) returned { r, _ := linear.Det(x.a); return returned{r} },
		"Inverse":      func(x arguments) returned { m, _ := linear.Inverse(x.v); return returned{m} },
		"Solve":        func(x arguments) returned { m, _ := linear.Solve(x.v, x.b); return returned{m} },
		"Null":         func(x arguments) returned { m, _ := linear.Null(x.a); return returned{m} },
		"LeastSquares": func(x arguments) returned { m, n, r, _ := linear.LeastSquares(x.v, x.y, x.w); return returned{m, n, r} },
		"Blank":        func(x arguments) returned { f, _ := linear.Blank(3); return returned{f} },
		"Measure":      func(x arguments) returned { f, _ := linear.Measure(x.f, x.a, x.y, x.v); return returned{f} },
		"Measure nothing": func(x arguments) returned {
			n := x.f.N.Rows
			f, _ := linear.Measure(x.f, api.Matrix{Cols: n}, api.Matrix{Cols: 1}, api.Matrix{})
			return returned{f}
		},
		"Combine":      func(x arguments) returned { f, _ := linear.Combine(x.f, x.g); return returned{f} },
		"Combine self": func(x arguments) returned { f, _ := linear.Combine(x.f, x.f); return returned{f} },
		"Estimate":     func(x arguments) returned { m, n, r, _ := linear.Estimate(x.f); return returned{m, n, r} },
		"Marginal":     func(x arguments) returned { f, _ := linear.Marginal(x.f, x.l); return returned{f} },
		"Marginal all": func(x arguments) returned { f, _ := linear.Marginal(x.f, []int{1, 0}); return returned{f} },
		"Condition": func(x arguments) returned {
			f, _ := linear.Condition(x.f, x.l, api.Matrix{Rows: len(x.l), Cols: 1, Cells: x.w[:len(x.l)]})
			return returned{f}
		},
		"Condition nothing": func(x arguments) returned {
			f, _ := linear.Condition(x.f, nil, api.Matrix{Cols: 1})
			return returned{f}
		},
		"Move":         func(x arguments) returned { f, _ := linear.Move(x.f, x.v, x.v); return returned{f} },
		"Move by 1, 0": func(x arguments) returned { f, _ := linear.Move(x.f, identity(2), zeros(2, 2)); return returned{f} },
		"Constrain": func(x arguments) returned {
			m, n, r, _ := linear.Constrain(x.f, api.Matrix{Rows: 1, Cols: 2, Cells: x.w}, api.Matrix{Rows: 1, Cols: 1, Cells: x.w[:1]})
			return returned{m, n, r}
		},
		"numbers": func(x arguments) returned {
			linear.Check(x.a)
			linear.Same(x.a, x.b)
			linear.Rank(x.a)
			linear.Definite(x.v)
			linear.CheckInfo(x.f)
			return nil
		},
	}
}

// argumentSets returns makers of arguments; no memory of one set is in another.
func argumentSets() []func() arguments {
	plain := func() arguments {
		return arguments{
			a: matrix("1 1/2, 0 1"), b: matrix("0 1, 1 0"), v: matrix("2 1, 1 2"), y: column("1 -1/3"),
			f: info("2 1, 1 3", "1 0", "5", 3), g: info("0 0, 0 0", "0 0", "0", 0), w: ratios("1 2"), r: ratio("1"), l: []int{1},
		}
	}
	return []func() arguments{
		plain,
		func() arguments {
			x := plain()
			x.a, x.b, x.v, x.y = looseMatrix(x.a), looseMatrix(x.b), looseMatrix(x.v), looseMatrix(x.y)
			x.f, x.g, x.w, x.r = looseInfo(x.f), looseInfo(x.g), looseRatios(x.w), looseRatio(x.r)
			return x
		},
		func() arguments {
			x := plain()
			x.a, x.b, x.v, x.f.N, x.g.N, x.l = identity(2), zeros(2, 2), identity(2), identity(2), identity(2), []int{0}
			return x
		},
		func() arguments {
			x := plain()
			x.a, x.b = matrix("1 2, 2 4"), matrix("36893488147419103232 1/36893488147419103232, -5/7 0")
			return x
		},
	}
}

// parts are the slices that values have.
type parts struct {
	words   [][]uint32
	cells   [][]api.Ratio
	numbers [][]int
}

func (p *parts) add(v any) {
	switch x := v.(type) {
	case api.Ratio:
		p.words = append(p.words, x.Num.Words, x.Den.Words)
	case []api.Ratio:
		p.cells = append(p.cells, x)
		for _, r := range x {
			p.add(r)
		}
	case api.Matrix:
		p.add(x.Cells)
	case api.Info:
		p.add(x.N)
		p.add(x.R)
		p.add(x.C)
	case []int:
		p.numbers = append(p.numbers, x)
	default:
		panic(v)
	}
}

// overwrite gives each slice, with the room behind it, numbers of its own, and reports whether all kept them.
func (p *parts) overwrite() bool {
	kept := true
	p.each(func(w []uint32, id int) {
		for k := range w {
			w[k] = uint32(id)
		}
	}, func(c []api.Ratio, id int) {
		for k := range c {
			c[k] = api.Ratio{Num: api.Int{Words: []uint32{uint32(id)}}}
		}
	}, func(l []int, id int) {
		for k := range l {
			l[k] = id
		}
	})
	p.each(func(w []uint32, id int) {
		for k := range w {
			kept = kept && w[k] == uint32(id)
		}
	}, func(c []api.Ratio, id int) {
		for k := range c {
			kept = kept && c[k].Num.Words[0] == uint32(id)
		}
	}, func(l []int, id int) {
		for k := range l {
			kept = kept && l[k] == id
		}
	})
	return kept
}

func (p *parts) each(words func(w []uint32, id int), cells func(c []api.Ratio, id int), numbers func(l []int, id int)) {
	for id, w := range p.words {
		words(w[:cap(w)], 1000+id)
	}
	for id, c := range p.cells {
		cells(c[:cap(c)], 1000+id)
	}
	for id, l := range p.numbers {
		numbers(l[:cap(l)], 1000+id)
	}
}

func TestMemory(t *testing.T) {
	for name, call := range calls() {
		for i, set := range argumentSets() {
			x := set()
			got := call(x)
			if !reflect.DeepEqual(x, set()) {
				t.Errorf("%s %d changed its arguments", name, i)
			}
			want := call(set())
			var p parts
			for _, v := range got {
				p.add(v)
			}
			if !p.overwrite() {
				t.Errorf("%s %d: parts of the result share memory", name, i)
			}
			if !reflect.DeepEqual(x, set()) {
				t.Errorf("%s %d: the result shares memory with the arguments", name, i)
			}
			if again := call(set()); !reflect.DeepEqual(again, want) {
				t.Errorf("%s %d: %v after a change of the first result, %v before", name, i, again, want)
			}
		}
	}
}

func TestArgumentsAreNotKept(t *testing.T) {
	cells := []int64{1, 2, 3, 4}
	m, _ := linear.Make(2, 2, cells...)
	if !slices.Equal(cells, []int64{1, 2, 3, 4}) {
		t.Error(cells)
	}
	for i := range cells {
		cells[i] = 9
	}
	wantMatrix(t, m, matrix("1 2, 3 4"))
	for name, call := range calls() {
		for i, set := range argumentSets() {
			x := set()
			got, want := call(x), call(set())
			var p parts
			for _, v := range []any{x.a, x.b, x.v, x.y, x.f, x.g, x.w, x.r, x.l} {
				p.add(v)
			}
			p.overwrite()
			if !reflect.DeepEqual(got, want) {
				t.Errorf("%s %d changed with its arguments", name, i)
			}
		}
	}
}

// TestRoomBehind calls with lists that have room behind them, which belongs to the caller.
func TestRoomBehind(t *testing.T) {
	l := append(make([]int, 0, 8), 1)
	f := info("2 1, 1 3", "1 0", "5", 3)
	linear.Marginal(f, l)
	linear.Condition(f, l, column("1"))
	linear.Pick(f.N, l, l)
	if !slices.Equal(l[:8], []int{1, 0, 0, 0, 0, 0, 0, 0}) {
		t.Error(l[:8])
	}
}
