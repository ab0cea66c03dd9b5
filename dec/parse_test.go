package dec_test

import (
	library "math/big"
	"regexp"
	"strings"
	"testing"

	"tallage/api"
	"tallage/dec"
	"tallage/rat"
)

// The oracle: what a decimal is, told by patterns.
var (
	decimal = regexp.MustCompile(`\A-?(0|[1-9][0-9]*)(\.[0-9]+)?\z`)
	lessOf0 = regexp.MustCompile(`\A-[0.]*\z`)
	digit   = regexp.MustCompile(`[0-9]`)
)

func isDecimal(s string) bool { return decimal.MatchString(s) && !lessOf0.MatchString(s) }

// placesIn tells how many places a decimal has.
func placesIn(s string) int {
	_, places, _ := strings.Cut(s, ".")
	return len(places)
}

func tooLong(s string) bool { return len(digit.FindAllString(s, -1)) > api.MaxDigits }

// say is what a decimal says.
func say(s string) *library.Rat {
	v, _ := new(library.Rat).SetString(s)
	return v
}

// wantParse is what P6.1 asks of Parse.
func wantParse(s string) (rat.Rat, api.Errno) {
	switch {
	case !isDecimal(s):
		return rat.Rat{}, api.ErrNumber
	case tooLong(s):
		return rat.Rat{}, api.ErrLimit
	}
	return fraction(say(s)), api.OK
}

// wantAmount is what P6.1 asks of Amount.
func wantAmount(s string) (rat.Rat, api.Errno) {
	if isDecimal(s) && placesIn(s) > 2 {
		return rat.Rat{}, api.ErrNumber
	}
	return wantParse(s)
}

// wantShare is what P6.2 asks.
func wantShare(s string) (rat.Rat, api.Errno) {
	d, found := strings.CutSuffix(s, "%")
	if !found || !isDecimal(d) || d[0] == '-' || placesIn(d) > 4 || say(d).Cmp(library.NewRat(100, 1)) > 0 {
		return rat.Rat{}, api.ErrNumber
	}
	return fraction(new(library.Rat).Quo(say(d), library.NewRat(100, 1))), api.OK
}

// checkTexts holds all three calls against what they must answer, nothing but the zero value beside an error.
func checkTexts(t *testing.T, l ...string) {
	t.Helper()
	for _, s := range l {
		for _, c := range []struct {
			name      string
			got, want func(string) (rat.Rat, api.Errno)
		}{{"Parse", dec.Parse, wantParse}, {"Amount", dec.Amount, wantAmount}, {"Share", dec.Share, wantShare}} {
			got, e := c.got(s)
			want, wantE := c.want(s)
			if e != wantE || !alike(got, want) || e != api.OK && !isZeroValue(got) {
				t.Fatalf("%s(%.60q): %v, error %d; want %v, error %d", c.name, s, got, e, want, wantE)
			}
		}
	}
}

// alsoLess are the texts, and each with a - ahead; each of these also with a % behind.
func alsoLess(l ...string) []string {
	var all []string
	for _, s := range l {
		all = append(all, s, "-"+s, s+"%", "-"+s+"%")
	}
	return all
}

// texts are decimals of all sorts of lengths, with places and without.
func texts() []string {
	l := []string{"0", "0.0", "0.00", "1", "7", "10", "12.50", "0.05", "0.10", "1.0", "100", "100.00", "4294967295", "4294967296.5", "18446744073709551616", "0.0001", "1000000.000001", "99.9999", "3.14159265358979"}
	for _, n := range []int{1, 2, 3, 9, 10, 19, 20, 38, 39, 40} {
		l = append(l, strings.Repeat("9", n), "1"+strings.Repeat("0", n-1), strings.Repeat("1234567890", 4)[:n])
		for _, places := range []int{1, 2, 3, 4, 5, 20, n - 1} {
			if places > 0 && places < n {
				stop := n - places
				l = append(l, strings.Repeat("9", stop)+"."+strings.Repeat("9", places), "0."+strings.Repeat("0", places-1)+"1", "5"+strings.Repeat("0", stop-1)+"."+strings.Repeat("0", places))
			}
		}
	}
	return l
}

// P6.1, P6.2

// TestAllShortTexts goes over all texts of at most five of the bytes that matter.
func TestAllShortTexts(t *testing.T) {
	last := []string{""}
	for range 5 {
		var next []string
		for _, s := range last {
			for _, b := range []string{"-", ".", "0", "1", "9", "%", " ", "x"} {
				next = append(next, s+b)
			}
		}
		checkTexts(t, next...)
		last = next
	}
	checkTexts(t, "")
}

func TestParseDecimals(t *testing.T) {
	l := alsoLess(texts()...)
	checkTexts(t, l...)
	for _, s := range texts() {
		if got, e := dec.Parse(s); e != api.OK || !alike(got, fraction(say(s))) {
			t.Errorf("Parse(%s): %v, %d", s, got, e)
		}
	}
}

// TestEdgesOfText writes out each edge that the words name, so that it hangs on no pattern.
func TestEdgesOfText(t *testing.T) {
	for s, want := range map[string]api.Errno{
		"0": api.OK, "0.0": api.OK, "0.000": api.OK, "10": api.OK, "1.10": api.OK, "0.01": api.OK, "-0.01": api.OK, "-1": api.OK, "-10.0": api.OK,
		"": api.ErrNumber, "-": api.ErrNumber, ".": api.ErrNumber, "-.": api.ErrNumber, "%": api.ErrNumber,
		"00": api.ErrNumber, "01": api.ErrNumber, "00.1": api.ErrNumber, "-01": api.ErrNumber, "-00.1": api.ErrNumber,
		".5": api.ErrNumber, "-.5": api.ErrNumber, "5.": api.ErrNumber, "-5.": api.ErrNumber, "0.": api.ErrNumber, "1..2": api.ErrNumber, "1.2.3": api.ErrNumber, "1.-2": api.ErrNumber,
		"-0": api.ErrNumber, "-0.0": api.ErrNumber, "-0.00": api.ErrNumber, "--1": api.ErrNumber, "+1": api.ErrNumber, "1-": api.ErrNumber, "5%": api.ErrNumber,
	} {
		got, e := dec.Parse(s)
		if e != want || e != api.OK && !isZeroValue(got) {
			t.Errorf("Parse(%q): %v, error %d", s, got, e)
		}
	}
}

func TestNoDecimals(t *testing.T) {
	l := []string{" ", " 1", "1 ", "1\n", "1,5", "1_0", "1e3", "0x1", "1/2", "inf", "NaN", "１", "٣", "−1", "1．5", "\x00", "1\x00", "\xff", "1\xff", "1.\xff", "1.5\x00%", strings.Repeat("-", 5000), strings.Repeat(".", 5000), strings.Repeat("%", 5000)}
	for b := range 256 {
		c := string([]byte{byte(b)})
		l = append(l, c, "1"+c, c+"1", "1."+c, "1"+c+"5", "1.5"+c, "-"+c, "0."+c)
	}
	for _, s := range l {
		checkTexts(t, alsoLess(s)...)
		checkTexts(t, s+"%%", "%"+s, s+"% ", s+" %")
	}
}

func TestTooManyDigits(t *testing.T) {
	for _, n := range []int{40, 41, 42, 100, 5000, 1 << 16} {
		want := api.OK
		if n > 40 {
			want = api.ErrLimit
		}
		for _, s := range []string{strings.Repeat("9", n), "1" + strings.Repeat("0", n-1), "0." + strings.Repeat("0", n-1), "0." + strings.Repeat("9", n-1), strings.Repeat("7", n-2) + ".25", strings.Repeat("7", 2) + "." + strings.Repeat("0", n-2)} {
			got, e := dec.Parse(s)
			if e != want || e != api.OK && !isZeroValue(got) {
				t.Errorf("Parse of %d digits, %.5s: %v, error %d", n, s, got, e)
			}
			checkTexts(t, alsoLess(s)...)
			// Who is no decimal has that error first.
			for _, no := range []string{"0" + s, s + ".", s + "x", "x" + s, s + "-", "-0." + strings.Repeat("0", n)} {
				if got, e := dec.Parse(no); e != api.ErrNumber || !isZeroValue(got) {
					t.Errorf("Parse of %d digits and no decimal: %v, error %d", n, got, e)
				}
				checkTexts(t, no, no+"%")
			}
		}
	}
}

func TestAmount(t *testing.T) {
	forty := strings.Repeat("8", 40)
	for s, want := range map[string]api.Errno{
		"0": api.OK, "12": api.OK, "12.5": api.OK, "12.50": api.OK, "-12.50": api.OK, "-0.01": api.OK, "12.500": api.ErrNumber, "0.000": api.ErrNumber, "-0.001": api.ErrNumber, "1.0000": api.ErrNumber,
		forty: api.OK, "-" + forty: api.OK, forty[2:] + ".25": api.OK, forty[1:] + ".25": api.ErrLimit, forty + "8": api.ErrLimit, "-" + forty + ".5": api.ErrLimit,
		forty + ".125": api.ErrNumber, "0." + forty: api.ErrNumber, "-" + forty + "." + forty: api.ErrNumber, "-0.00": api.ErrNumber,
	} {
		got, e := dec.Amount(s)
		if e != want || e != api.OK && !isZeroValue(got) || e == api.OK && !alike(got, fraction(say(s))) {
			t.Errorf("Amount(%s): %v, error %d", s, got, e)
		}
	}
}

func TestShare(t *testing.T) {
	for s, want := range map[string]*library.Rat{
		"0%": library.NewRat(0, 1), "0.0000%": library.NewRat(0, 1), "0.0001%": library.NewRat(1, 1_000_000), "37.5%": library.NewRat(3, 8), "33.3333%": library.NewRat(333_333, 1_000_000),
		"99.9999%": library.NewRat(999_999, 1_000_000), "100%": library.NewRat(1, 1), "100.0%": library.NewRat(1, 1), "100.0000%": library.NewRat(1, 1), "7.10%": library.NewRat(71, 1000),
	} {
		if got, e := dec.Share(s); !alike(got, fraction(want)) || e != api.OK {
			t.Errorf("Share(%s): %v, error %d", s, got, e)
		}
	}
	long := strings.Repeat("9", 41)
	for _, s := range []string{"", "%", "5", "100", "5 %", "5%%", "%5", "5%5", "-5%", "-0%", "-0.5%", "-100%", "00%", "05%", ".5%", "5.%", "0.00000%", "33.33333%", "100.0001%", "100.00000%", "100.1%", "101%", "1000%", long + "%", long + ".5%", "0." + long + "%", "100." + long + "%", long} {
		if got, e := dec.Share(s); !isZeroValue(got) || e != api.ErrNumber {
			t.Errorf("Share(%s): %v, error %d", s, got, e)
		}
	}
}
