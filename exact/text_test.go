package exact_test

import (
	"math"
	"math/big"
	"strings"
	"testing"

	"hodoscope/api"
	"hodoscope/exact"
)

func TestText(t *testing.T) {
	l := numbers()
	s := newSource()
	for range 300 {
		l = append(l, s.integer(30))
	}
	for _, a := range l {
		for _, b := range []api.Int{a, loose(a)} {
			if got := exact.Text(b); got != bigInt(a).String() {
				t.Error("Text", b, got)
			}
		}
		got, e := exact.Parse(bigInt(a).String())
		wantOK(t, e, "Parse", a)
		wantInt(t, got, bigInt(a), "Parse of Text")
	}
	ten := big.NewInt(10)
	for n := range int64(200) {
		power := new(big.Int).Exp(ten, big.NewInt(n), nil)
		for d := int64(-1); d <= 1; d++ {
			m := new(big.Int).Add(power, big.NewInt(d))
			if got := exact.Text(ofBig(m)); got != m.String() {
				t.Error("Text", m, got)
			}
			got, e := exact.Parse(m.String())
			wantOK(t, e, "Parse", m)
			wantInt(t, got, m, "Parse", m)
		}
	}
	for _, a := range []api.Int{{}, {Neg: true}, {Neg: true, Words: []uint32{0, 0}}} {
		if got := exact.Text(a); got != "0" {
			t.Error("Text", a, got)
		}
	}
}

// notIntegers are texts that are not those of an integer.
func notIntegers() []string {
	return []string{"", "-", "--1", "-0", "00", "01", "-01", "000000000000000000001", "+1", "+0", " 1", "1 ", "1\n", "-1\n", "- 1", "1-", "1_000", "0x10", "1e5", "1.0", "a", "12345678a", "123456789a", "a123456789", "1234567890:", "1234567890/", "-/", "\x00", "\u0661", "1\xff", "∞"}
}

func TestParseInvalid(t *testing.T) {
	for _, s := range notIntegers() {
		a, e := exact.Parse(s)
		wantIntError(t, a, e, api.ErrForm, "Parse", s)
	}
	for _, s := range []string{"1/1", "4/2", "1.5", "0.0"} {
		a, e := exact.Parse(s)
		wantIntError(t, a, e, api.ErrForm, "Parse", s)
	}
}

func TestParseLong(t *testing.T) {
	most := strings.Repeat("7", api.MaxDigits)
	for _, s := range []string{most, "-" + most[1:], "1" + strings.Repeat("0", api.MaxDigits-1)} {
		a, e := exact.Parse(s)
		wantOK(t, e, "Parse of the longest text")
		n, _ := new(big.Int).SetString(s, 10)
		wantInt(t, a, n, "Parse of the longest text")
		r, e := exact.ParseRatio(s)
		wantOK(t, e, "ParseRatio of the longest text")
		wantRatio(t, r, new(big.Rat).SetInt(n), "ParseRatio of the longest text")
	}
	for _, s := range []string{most + "7", "-" + most, strings.Repeat("0", api.MaxDigits+1), strings.Repeat("x", api.MaxDigits+1)} {
		a, e := exact.Parse(s)
		wantIntError(t, a, e, api.ErrLong, "Parse of a text that is too long")
		r, e := exact.ParseRatio(s)
		wantRatioError(t, r, e, api.ErrLong, "ParseRatio of a text that is too long")
	}
	for _, s := range []string{strings.Repeat("0", api.MaxDigits), strings.Repeat("x", api.MaxDigits), most[1:] + "x"} {
		a, e := exact.Parse(s)
		wantIntError(t, a, e, api.ErrForm, "Parse of a long text without its form")
		r, e := exact.ParseRatio(s)
		wantRatioError(t, r, e, api.ErrForm, "ParseRatio of a long text without its form")
	}
	half := strings.Repeat("3", api.MaxDigits/2-1)
	r, e := exact.ParseRatio(half + "/" + half + "1")
	wantOK(t, e, "ParseRatio of the longest slash")
	wantRatio(t, r, bigRat(ratio(half+"/"+half+"1")), "ParseRatio of the longest slash")
	r, e = exact.ParseRatio(half + "/" + half + "11")
	wantRatioError(t, r, e, api.ErrLong, "ParseRatio of a slash that is too long")
}

func TestShow(t *testing.T) {
	for _, x := range [][2]string{{"0", "0"}, {"5", "5"}, {"-5", "-5"}, {"1/2", "1/2"}, {"-6/4", "-3/2"}, {"-8/4", "-2"}, {"1/18446744073709551616", "1/18446744073709551616"}, {"-36893488147419103232/18446744073709551615", "-36893488147419103232/18446744073709551615"}} {
		r := ratio(x[0])
		for _, s := range []api.Ratio{r, looseRatio(r)} {
			if got := exact.Show(s); got != x[1] {
				t.Error("Show", s, got)
			}
		}
	}
	for _, r := range []api.Ratio{{}, {Num: exact.Of(5)}, {Num: exact.Of(-5), Den: api.Int{Neg: true, Words: []uint32{0}}}} {
		if got := exact.Show(r); got != "0" {
			t.Error("Show of a ratio with Den 0", r, got)
		}
	}
}

func TestParseRatio(t *testing.T) {
	places := strings.Repeat("01", api.MaxPlaces/2)
	for _, s := range []string{"0", "7", "-7", "123456789012345678901234567890", "0/5", "-6/4", "8/4", "1/1", "10/4", "-1/1000000000000000000000", "4294967296/4294967296", "0.0", "-0.0", "-0.00", "0.5", "-0.5", "-0.25", "12.50", "1.000", "100.001", "-3.141592653589793238462643383279", "0." + places, "-12." + places, "0." + strings.Repeat("0", api.MaxPlaces)} {
		got, e := exact.ParseRatio(s)
		wantOK(t, e, "ParseRatio", s)
		wantRatio(t, got, bigRat(ratio(s)), "ParseRatio", s)
	}
}

func TestParseRatioInvalid(t *testing.T) {
	l := []string{"1/0", "0/0", "1/-2", "1/-0", "1/+2", "1/02", "01/2", "-0/5", "+1/2", "1/", "/2", "/", "-/2", "1//2", "1/2/3", "1 /2", "1/ 2", "1.5/2", "1/2.5", "1/0.5", "1/x", "x/1",
		"00.5", "-00.5", "01.5", ".5", "-.5", "5.", "-5.", ".", "-.", "1.2.3", "1..2", "+0.5", "--0.5", "0.-5", "0.+5", "0. 5", " 0.5", "0.5 ", "0.5\n", "0.5x", "x.5", "1.5e3", "0.5/1", "1,5"}
	for _, s := range notIntegers() {
		if s != "1.0" {
			l = append(l, s)
		}
	}
	for _, n := range []int{api.MaxPlaces + 1, api.MaxPlaces + 2, 1000} {
		l = append(l, "0."+strings.Repeat("0", n), "1."+strings.Repeat("5", n))
	}
	for _, s := range l {
		r, e := exact.ParseRatio(s)
		wantRatioError(t, r, e, api.ErrForm, "ParseRatio", s)
	}
}

func TestDecimal(t *testing.T) {
	for _, x := range []struct {
		r      string
		places int
		text   string
	}{
		{"-1/4", 1, "-0.2"}, {"1/4", 1, "0.3"}, {"2/3", 3, "0.667"}, {"-1/2", 0, "0"}, {"1/2", 0, "1"}, {"-3/2", 0, "-1"}, {"0", 0, "0"}, {"0", 3, "0.000"},
		{"1234", 2, "1234.00"}, {"1/1000", 2, "0.00"}, {"-1/1000", 2, "0.00"}, {"-1/200", 2, "0.00"}, {"-1/199", 2, "-0.01"}, {"1/200", 2, "0.01"}, {"-5/2", 1, "-2.5"},
		{"99999/100000", 4, "1.0000"}, {"-99999/100000", 4, "-1.0000"}, {"12", 0, "12"}, {"-12", 0, "-12"}, {"1/3", api.MaxPlaces, "0." + strings.Repeat("3", api.MaxPlaces)},
		{"10000000000000000000001/10", 1, "1000000000000000000000.1"}, {"100", 1, "100.0"}, {"1/10", 2, "0.10"}, {"7/100", 2, "0.07"},
	} {
		for _, r := range []api.Ratio{ratio(x.r), looseRatio(ratio(x.r))} {
			if s, e := exact.Decimal(r, x.places); s != x.text || e != api.OK {
				t.Error("Decimal", x, s, e)
			}
		}
	}
	for _, places := range []int{-1, api.MaxPlaces + 1, math.MinInt, math.MaxInt} {
		if s, e := exact.Decimal(ratio("1/2"), places); s != "" || e != api.ErrArg {
			t.Error("Decimal", places, s, e)
		}
	}
	if s, e := exact.Decimal(api.Ratio{Num: exact.Of(5)}, 1); s != "0.0" || e != api.OK {
		t.Error("Decimal of a ratio with Den 0", s, e)
	}
}
