package readout_test

import (
	"slices"
	"testing"

	"hodoscope/api"
	"hodoscope/readout"
)

func wantSuppress(t *testing.T, adc string, pedestal, threshold int, dead, want string) {
	t.Helper()
	l, e := readout.Suppress(numbers(adc), pedestal, threshold, numbers(dead))
	wantErrno(t, e, api.OK, adc, pedestal, threshold, dead)
	wantSame(t, l, hits(want), adc, pedestal, threshold, dead)
}

func refusesSuppress(t *testing.T, adc []int, pedestal, threshold int, dead []int, want api.Errno) {
	t.Helper()
	l, e := readout.Suppress(adc, pedestal, threshold, dead)
	wantErrno(t, e, want, len(adc), pedestal, threshold)
	if len(l) > 0 {
		t.Error(l)
	}
}

// TestSuppress is P5.1.
func TestSuppress(t *testing.T) {
	wantSuppress(t, "", 0, 0, "", "")
	wantSuppress(t, "", 4095, 4095, "0 1", "")
	wantSuppress(t, "0 1 4095", 0, 0, "", "1 1 2 4095")
	wantSuppress(t, "0 1 4095", 0, 1, "", "2 4095")
	wantSuppress(t, "0 4094 4095", 4094, 0, "", "2 1")
	wantSuppress(t, "0 4094 4095", 0, 4094, "", "2 4095")
	wantSuppress(t, "0 4094 4095", 0, 4095, "", "")
	wantSuppress(t, "0 4094 4095", 4095, 0, "", "")
	wantSuppress(t, "0 4095", 4095, 4095, "", "")
	wantSuppress(t, "0 4095", 2048, 2046, "", "1 2047")
	wantSuppress(t, "0 4095", 2048, 2047, "", "")              // a difference that is just the threshold
	wantSuppress(t, "14 15 16 15 14 16", 10, 5, "", "2 6 5 6") // differences below, at and above it
	wantSuppress(t, "3 0 2", 1, 0, "", "0 2 2 1")
	wantSuppress(t, "5 5 5 5", 1, 1, "0", "1 4 2 4 3 4")
	wantSuppress(t, "5 5 5 5", 1, 1, "3 1", "0 4 2 4")
	wantSuppress(t, "5 5 5 5", 1, 1, "2 2 0 2", "1 4 3 4") // numbers that are there twice
	wantSuppress(t, "5 5 5 5", 1, 1, "-1 4 5 -9223372036854775808 9223372036854775807 4096", "0 4 1 4 2 4 3 4")
	wantSuppress(t, "5 5 5 5", 1, 1, "-1 1 4", "0 4 2 4 3 4")
	wantSuppress(t, "5 5 5 5", 1, 1, "3 2 1 0", "")
}

func TestSuppressErrors(t *testing.T) {
	whole := make([]int, 4096)
	for i := range whole {
		whole[i] = 4095 - i
	}
	l, e := readout.Suppress(whole, 0, 0, nil)
	wantErrno(t, e, api.OK)
	if len(l) != 4095 || l[4094] != (api.Raw{Addr: 4094, Adc: 1}) || l[0] != (api.Raw{Adc: 4095}) {
		t.Error(len(l))
	}
	long := append(slices.Clone(whole), 1)
	refusesSuppress(t, long, 0, 0, nil, api.ErrLong)
	refusesSuppress(t, long, -1, 4096, nil, api.ErrLong) // before ErrArg
	refusesSuppress(t, append(long, -1), 0, 0, nil, api.ErrLong)
	for _, n := range []int{-1, 4096, least, greatest} {
		for _, adc := range [][]int{{n}, {1, n}, {n, 1}, {1, n, 1}} {
			refusesSuppress(t, adc, 0, 0, nil, api.ErrArg)
			refusesSuppress(t, adc, 0, 0, []int{0, 1, 2}, api.ErrArg) // of dead cells, too
		}
		for _, adc := range [][]int{nil, {}, {5}, whole} {
			refusesSuppress(t, adc, n, 0, nil, api.ErrArg)
			refusesSuppress(t, adc, 0, n, nil, api.ErrArg)
			refusesSuppress(t, adc, n, n, nil, api.ErrArg)
		}
	}
	wholeDead := slices.Repeat([]int{0, 4095, 4096, -1}, 5000)
	if l, e := readout.Suppress(whole, 0, 0, wholeDead); e != api.OK || len(l) != 4094 || l[0].Addr != 1 {
		t.Error(len(l), e)
	}
}

// TestSuppressAny holds Suppress against the chapter's words.
func TestSuppressAny(t *testing.T) {
	s := newSource()
	for range 3000 {
		var adc, dead []int
		for range s.Intn(20) {
			adc = append(adc, s.one(0, 1, s.from(0, 20), 4094, 4095))
		}
		for range s.Intn(5) {
			dead = append(dead, s.from(-1, 21))
		}
		pedestal, threshold := s.one(0, 1, s.from(0, 10), 4094, 4095), s.one(0, 1, s.from(0, 10), 4095)
		if s.Intn(20) == 0 && len(adc) > 0 {
			adc[s.Intn(len(adc))] = s.one(-1, 4096)
		}
		got, e := readout.Suppress(adc, pedestal, threshold, dead)
		want, f := plainSuppress(adc, pedestal, threshold, dead)
		wantErrno(t, e, f, adc, pedestal, threshold, dead)
		wantSame(t, got, want, adc, pedestal, threshold, dead)
	}
}

func wantPile(t *testing.T, a, b, want string) {
	t.Helper()
	for _, x := range [][2]string{{a, b}, {b, a}} {
		l, e := readout.Pile(numbers(x[0]), numbers(x[1]))
		wantErrno(t, e, api.OK, x)
		wantSame(t, l, numbers(want), x)
	}
}

func refusesPile(t *testing.T, a, b []int, want api.Errno) {
	t.Helper()
	for _, x := range [][2][]int{{a, b}, {b, a}} {
		l, e := readout.Pile(x[0], x[1])
		wantErrno(t, e, want, len(x[0]), len(x[1]))
		if len(l) > 0 {
			t.Error(l)
		}
	}
}

// TestPile is P5.1.
func TestPile(t *testing.T) {
	wantPile(t, "", "", "")
	wantPile(t, "", "0", "0")
	wantPile(t, "", "4095 0 5", "4095 0 5")
	wantPile(t, "1 2 3", "10 20 30", "11 22 33")
	wantPile(t, "1 2 3", "10", "11 2 3")
	wantPile(t, "0 4095 4094 4094 4095 4095", "4095 0 1 2 1 4095", "4095 4095 4095 4095 4095 4095")
	wantPile(t, "2047", "2047", "4094")
	for _, n := range []int{-1, 4096, least, greatest} {
		refusesPile(t, []int{n}, nil, api.ErrArg)
		refusesPile(t, []int{n}, []int{1}, api.ErrArg)
		refusesPile(t, []int{1, n}, []int{1}, api.ErrArg)
		refusesPile(t, []int{n}, []int{n}, api.ErrArg)
		refusesPile(t, []int{n, 1, 1}, []int{0, 0, 0}, api.ErrArg)
	}
	whole := slices.Repeat([]int{4095, 0, 7, 4}, 1024)
	if l, e := readout.Pile(whole, whole[1:]); e != api.OK || !slices.Equal(l, append(slices.Repeat([]int{4095, 7, 11, 4095}, 1023), 4095, 7, 11, 4)) {
		t.Error(len(l), e)
	}
	if l, e := readout.Pile(whole, whole); e != api.OK || !slices.Equal(l, slices.Repeat([]int{4095, 0, 14, 8}, 1024)) {
		t.Error(len(l), e)
	}
	long := append(slices.Clone(whole), 1)
	refusesPile(t, long, nil, api.ErrLong)
	refusesPile(t, long, whole, api.ErrLong)
	refusesPile(t, long, long, api.ErrLong)
	refusesPile(t, long, []int{-1}, api.ErrLong) // before ErrArg
	refusesPile(t, append(long, -1), []int{4096}, api.ErrLong)
}
