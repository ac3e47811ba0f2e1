package exact_test

import (
	"math/big"
	"slices"
	"testing"

	"hodoscope/api"
	"hodoscope/exact"
)

// arguments are what the calls below take from; every slice of it is new.
type arguments struct {
	a, b api.Int
	r, s api.Ratio
	l, m []api.Ratio
}

// words returns all slices of words that the arguments have.
func (x arguments) words() [][]uint32 {
	w := [][]uint32{x.a.Words, x.b.Words}
	for _, r := range append([]api.Ratio{x.r, x.s}, append(slices.Clone(x.l), x.m...)...) {
		w = append(w, r.Num.Words, r.Den.Words)
	}
	return w
}

func clones(l [][]uint32) [][]uint32 {
	var c [][]uint32
	for _, w := range l {
		c = append(c, slices.Clone(w))
	}
	return c
}

func same(l, m [][]uint32) bool {
	return slices.EqualFunc(l, m, func(v, w []uint32) bool { return slices.Equal(v, w) })
}

// overwrite changes all memory of a slice of words.
func overwrite(w []uint32) {
	w = w[:cap(w)]
	for i := range w {
		w[i] ^= 0xdeadbeef
	}
}

// calls returns every call that returns integers or ratios.
func calls() map[string]func(x arguments) []api.Int {
	terms := func(r api.Ratio) []api.Int { return []api.Int{r.Num, r.Den} }
	one := func(f func(api.Int) api.Int) func(arguments) []api.Int {
		return func(x arguments) []api.Int { return []api.Int{f(x.a)} }
	}
	two := func(f func(a, b api.Int) api.Int) func(arguments) []api.Int {
		return func(x arguments) []api.Int { return []api.Int{f(x.a, x.b)} }
	}
	ratios := func(f func(r, s api.Ratio) api.Ratio) func(arguments) []api.Int {
		return func(x arguments) []api.Int { return terms(f(x.r, x.s)) }
	}
	return map[string]func(x arguments) []api.Int{
		"Normal": one(exact.Normal), "Neg": one(exact.Neg),
		"Add": two(exact.Add), "Sub": two(exact.Sub), "Mul": two(exact.Mul), "Gcd": two(exact.Gcd),
		"Plus": ratios(exact.Plus), "Minus": ratios(exact.Minus), "Times": ratios(exact.Times),
		"Div": func(x arguments) []api.Int { q, r, _ := exact.Div(x.a, x.b); return []api.Int{q, r} },
		"Power": func(x arguments) []api.Int {
			p, _ := exact.Power(x.a, 1)
			q, _ := exact.Power(x.a, 3)
			return []api.Int{p, q}
		},
		"Root":      func(x arguments) []api.Int { r, _ := exact.Root(x.a); return []api.Int{r} },
		"Make":      func(x arguments) []api.Int { r, _ := exact.Make(x.a, x.b); return terms(r) },
		"Whole":     func(x arguments) []api.Int { return terms(exact.Whole(x.a)) },
		"Lowest":    func(x arguments) []api.Int { return terms(exact.Lowest(x.r)) },
		"Quotient":  func(x arguments) []api.Int { r, _ := exact.Quotient(x.r, x.s); return terms(r) },
		"Total":     func(x arguments) []api.Int { return terms(exact.Total(x.l...)) },
		"Total 1":   func(x arguments) []api.Int { return terms(exact.Total(x.r)) },
		"Dot":       func(x arguments) []api.Int { r, _ := exact.Dot(x.l, x.m); return terms(r) },
		"Floor":     func(x arguments) []api.Int { return []api.Int{exact.Floor(x.r)} },
		"Nearest":   func(x arguments) []api.Int { return []api.Int{exact.Nearest(x.r)} },
		"Fixed":     func(x arguments) []api.Int { n, _ := exact.Fixed(x.r, 0); return []api.Int{n} },
		"FromFixed": func(x arguments) []api.Int { r, _ := exact.FromFixed(x.a, 0); return terms(r) },
		"RootFixed": func(x arguments) []api.Int { n, _ := exact.RootFixed(x.r, 7); return []api.Int{n} },
		"Between":   func(x arguments) []api.Int { r, _ := exact.Between(x.r, x.s); return terms(r) },
		"Between 1": func(x arguments) []api.Int { r, _ := exact.Between(x.r, x.r); return terms(r) },
		"no integer": func(x arguments) []api.Int {
			exact.Small(x.a)
			exact.Sign(x.a)
			exact.Cmp(x.a, x.b)
			exact.Text(x.a)
			exact.Signum(x.r)
			exact.Compare(x.r, x.s)
			exact.Decimal(x.r, 5)
			exact.Show(x.r)
			return nil
		},
	}
}

// argumentSets returns makers of arguments: ordinary ones, and such that a result might be one of them.
func argumentSets() []func() arguments {
	ratioSet := func(r, s string, change func(api.Ratio) api.Ratio) func() arguments {
		return func() arguments {
			x := arguments{r: change(ratio(r)), s: change(ratio(s))}
			x.a, x.b = change(ratio(r)).Num, change(ratio(s)).Num
			x.l = []api.Ratio{change(ratio(r)), change(ratio(s)), change(ratio(r))}
			x.m = []api.Ratio{change(ratio("1")), change(ratio("0")), change(ratio(s))}
			return x
		}
	}
	plain := func(r api.Ratio) api.Ratio { return r }
	var l []func() arguments
	for _, x := range [][2]string{{"5/3", "7/2"}, {"0", "5"}, {"5", "0"}, {"1", "1"}, {"-1", "5"}, {"5", "-1"}, {"7", "100000000000000000000"}, {"100000000000000000000000000/7", "100000000000000000000000001/7"}, {"36893488147419103232", "18446744073709551616"}, {"-5/18446744073709551617", "1"}} {
		l = append(l, ratioSet(x[0], x[1], plain), ratioSet(x[0], x[1], looseRatio))
	}
	return l
}

// TestMemory checks that arguments stay as they were, and that results are new memory.
func TestMemory(t *testing.T) {
	for name, call := range calls() {
		for i, set := range argumentSets() {
			x := set()
			before := clones(x.words())
			got := resultWords(call(x))
			if !same(x.words(), before) {
				t.Error(name, i, "changes an argument")
			}
			for j, w := range got {
				others := clones(slices.Delete(slices.Clone(got), j, j+1))
				overwrite(w)
				if !same(x.words(), before) {
					t.Error(name, i, "returns memory of an argument")
				}
				if !same(others, slices.Delete(slices.Clone(got), j, j+1)) {
					t.Error(name, i, "returns the same memory twice")
				}
			}
			again := resultWords(call(set()))
			second := resultWords(call(x))
			if !same(again, second) {
				t.Error(name, i, "does not return the same again")
			}
			for _, w := range x.words() {
				overwrite(w)
			}
			if !same(again, second) {
				t.Error(name, i, "returns memory of an argument")
			}
		}
	}
}

func resultWords(l []api.Int) [][]uint32 {
	var w [][]uint32
	for _, a := range l {
		w = append(w, a.Words)
	}
	return w
}

// TestSharedArguments checks calls whose arguments share memory with each other.
func TestSharedArguments(t *testing.T) {
	for _, a := range numbers() {
		checkPair(t, a, a)
	}
	for _, r := range ratios() {
		checkRatios(t, r, r)
		checkRatios(t, api.Ratio{Num: r.Num, Den: r.Num}, r)
	}
}

func wantSame(t *testing.T, law string, r, s api.Ratio) {
	t.Helper()
	if exact.Compare(r, s) != 0 || show(r) != show(s) {
		t.Error(law, show(r), show(s))
	}
}

func TestRing(t *testing.T) {
	s := newSource()
	equal := func(law string, a, b api.Int) {
		t.Helper()
		if exact.Cmp(a, b) != 0 || !slices.Equal(a.Words, b.Words) || a.Neg != b.Neg {
			t.Error(law, a, b)
		}
	}
	for range 500 {
		a, b, c := s.integer(8), s.integer(8), s.integer(8)
		equal("a + b", exact.Add(a, b), exact.Add(b, a))
		equal("a b", exact.Mul(a, b), exact.Mul(b, a))
		equal("a + b + c", exact.Add(exact.Add(a, b), c), exact.Add(a, exact.Add(b, c)))
		equal("a b c", exact.Mul(exact.Mul(a, b), c), exact.Mul(a, exact.Mul(b, c)))
		equal("a (b + c)", exact.Mul(a, exact.Add(b, c)), exact.Add(exact.Mul(a, b), exact.Mul(a, c)))
		equal("a - a", exact.Sub(a, a), api.Int{})
		equal("a + 0", exact.Add(a, exact.Of(0)), a)
		equal("1 a", exact.Mul(exact.Of(1), a), a)
		equal("- - a", exact.Neg(exact.Neg(a)), a)
		order := exact.Cmp(a, b)
		if exact.Cmp(b, a) != -order || exact.Cmp(exact.Add(a, c), exact.Add(b, c)) != order || exact.Cmp(exact.Mul(a, c), exact.Mul(b, c)) != order*exact.Sign(c) {
			t.Error("order", a, b, c)
		}
		if back, e := exact.Parse(exact.Text(a)); e != api.OK || exact.Cmp(back, a) != 0 {
			t.Error("Parse of Text", a, back, e)
		}
	}
}

func TestField(t *testing.T) {
	s := newSource()
	for range 300 {
		p, q, r := s.ratio(5), s.ratio(5), s.small()
		wantSame(t, "p + q", exact.Plus(p, q), exact.Plus(q, p))
		wantSame(t, "p q", exact.Times(p, q), exact.Times(q, p))
		wantSame(t, "p + q + r", exact.Total(p, q, r), exact.Plus(p, exact.Plus(q, r)))
		wantSame(t, "p q r", exact.Times(exact.Times(p, q), r), exact.Times(p, exact.Times(q, r)))
		wantSame(t, "p (q + r)", exact.Times(p, exact.Plus(q, r)), exact.Plus(exact.Times(p, q), exact.Times(p, r)))
		wantSame(t, "p - p", exact.Minus(p, p), api.Ratio{})
		if exact.Signum(q) != 0 {
			d, e := exact.Quotient(p, q)
			wantOK(t, e, "p / q")
			wantSame(t, "p / q q", exact.Times(d, q), p)
		}
		order := exact.Compare(p, q)
		if exact.Compare(q, p) != -order || exact.Compare(exact.Plus(p, r), exact.Plus(q, r)) != order || exact.Compare(exact.Times(p, r), exact.Times(q, r)) != order*exact.Signum(r) {
			t.Error("order", p, q, r)
		}
	}
}

func TestErrorsOfRounding(t *testing.T) {
	s := newSource()
	for range 200 {
		r := s.ratio(4)
		for _, bits := range []int{0, 1, 10, 64, api.MaxBits} {
			n, _ := exact.Fixed(r, bits)
			back, _ := exact.FromFixed(n, bits)
			half := new(big.Rat).Inv(twoTo(bits + 1))
			if d := new(big.Rat).Sub(bigRat(back), bigRat(r)); d.Abs(d).Cmp(half) > 0 {
				t.Error("Fixed", r, bits)
			}
		}
		for _, places := range []int{0, 1, 20, api.MaxPlaces} {
			text, _ := exact.Decimal(r, places)
			back, e := exact.ParseRatio(text)
			wantOK(t, e, "ParseRatio of Decimal", text)
			half := new(big.Rat).SetFrac(big.NewInt(1), new(big.Int).Mul(big.NewInt(2), new(big.Int).Exp(big.NewInt(10), big.NewInt(int64(places)), nil)))
			if d := new(big.Rat).Sub(bigRat(back), bigRat(r)); d.Abs(d).Cmp(half) > 0 {
				t.Error("Decimal", r, places, text)
			}
		}
		back, e := exact.ParseRatio(exact.Show(r))
		wantOK(t, e, "ParseRatio of Show", r)
		wantSame(t, "ParseRatio of Show", back, r)
	}
}

func TestExamples(t *testing.T) {
	for _, x := range [][4]int64{{7, -2, -4, -1}, {-7, 2, -4, 1}} {
		q, r, e := exact.Div(exact.Of(x[0]), exact.Of(x[1]))
		wantOK(t, e, "Div", x)
		wantInt(t, q, big.NewInt(x[2]), "Div", x)
		wantInt(t, r, big.NewInt(x[3]), "Div", x)
	}
	q, r, e := exact.Div(exact.Of(1), exact.Of(0))
	wantIntError(t, q, e, api.ErrZero, "Div of 1, 0")
	wantIntError(t, r, e, api.ErrZero, "Div of 1, 0")
	wantRatio(t, exact.Lowest(api.Ratio{Num: exact.Of(5)}), new(big.Rat), "Lowest of 5 over 0")
	root, e := exact.Root(exact.Of(15))
	wantOK(t, e, "Root of 15")
	wantInt(t, root, big.NewInt(3), "Root of 15")
	for _, x := range [][2]string{{"-6/4", "-3/2"}, {"-0.0", "0"}} {
		got, e := exact.ParseRatio(x[0])
		wantOK(t, e, "ParseRatio", x)
		wantRatio(t, got, bigRat(ratio(x[1])), "ParseRatio", x)
	}
}
