package dec_test

import (
	"math"
	library "math/big"
	"strconv"
	"strings"
	"testing"

	"tallage/api"
	"tallage/dec"
	"tallage/rat"
)

// P6.3

func TestPut(t *testing.T) {
	for _, x := range append(fractions(), zeros()...) {
		v := value(x)
		for _, places := range []int{0, 1, 2, 3, 4, 9, 10, 20, api.MaxDigits - 1, api.MaxDigits} {
			if got, want := dec.Put(x, places), written(v, places); got != want {
				t.Fatalf("Put(%v, %d): %s, want %s", v, places, got, want)
			}
		}
		if got, want := dec.Money(x), written(v, 2); got != want {
			t.Fatalf("Money(%v): %s, want %s", v, got, want)
		}
	}
}

func TestPlacesOutOfBounds(t *testing.T) {
	for _, x := range append(fractions(), wrong()...) {
		none, most := dec.Put(x, 0), dec.Put(x, api.MaxDigits)
		if strings.Contains(none, ".") {
			t.Fatalf("Put of no places: %s", none)
		}
		for _, places := range []int{-1, -2, -api.MaxDigits, math.MinInt32, math.MinInt} {
			if got := dec.Put(x, places); got != none {
				t.Fatalf("Put(%v, %d): %s, want %s", x, places, got, none)
			}
		}
		for _, places := range []int{api.MaxDigits + 1, api.MaxDigits + 2, 5000, math.MaxInt32, math.MaxInt} {
			if got := dec.Put(x, places); got != most {
				t.Fatalf("Put(%v, %d): %s, want %s", x, places, got, most)
			}
		}
	}
}

// TestMidway writes out what lies midway, or a little off it, so that it hangs on no reckoning.
func TestMidway(t *testing.T) {
	for _, c := range []struct {
		n, d   int64
		places int
		want   string
	}{
		{1, 2, 0, "0"}, {3, 2, 0, "2"}, {5, 2, 0, "2"}, {7, 2, 0, "4"}, {-1, 2, 0, "0"}, {-3, 2, 0, "-2"}, {-5, 2, 0, "-2"}, {-7, 2, 0, "-4"}, {19, 2, 0, "10"}, {-19, 2, 0, "-10"},
		{1, 20, 1, "0.0"}, {3, 20, 1, "0.2"}, {-1, 20, 1, "0.0"}, {-3, 20, 1, "-0.2"}, {-5, 20, 1, "-0.2"}, {199, 20, 1, "10.0"}, {-199, 20, 1, "-10.0"},
		{1, 200, 2, "0.00"}, {3, 200, 2, "0.02"}, {-1, 200, 2, "0.00"}, {-3, 200, 2, "-0.02"}, {1999, 200, 2, "10.00"}, {-1001, 200_000, 2, "-0.01"}, {1001, 200_000, 2, "0.01"}, {999, 200_000, 2, "0.00"}, {-999, 200_000, 2, "0.00"},
		{1, 3, 3, "0.333"}, {2, 3, 3, "0.667"}, {-2, 3, 3, "-0.667"}, {-1, 100, 2, "-0.01"}, {-1, 100, 1, "0.0"}, {12, 1, 2, "12.00"}, {-12, 1, 0, "-12"}, {0, 1, 0, "0"}, {0, 1, 3, "0.000"}, {100, 1, 0, "100"},
	} {
		if got := dec.Put(of(c.n, c.d), c.places); got != c.want {
			t.Errorf("Put(%d/%d, %d): %s, want %s", c.n, c.d, c.places, got, c.want)
		}
	}
	for _, places := range []int{0, 1, 5, 39, 40} {
		// Half a unit of the last place, on both sides of 0, and of 1.
		half := new(library.Rat).SetFrac(library.NewInt(1), new(library.Int).Mul(tensOf(places), library.NewInt(2)))
		none := strings.TrimSuffix("0."+strings.Repeat("0", places), ".")
		odd := new(library.Rat).Mul(half, library.NewRat(3, 1))
		two := none[:len(none)-1] + "2"
		for v, want := range map[*library.Rat]string{half: none, negOf(half): none, odd: two, negOf(odd): "-" + two} {
			if got := dec.Put(fraction(v), places); got != want {
				t.Errorf("Put(%v, %d): %s, want %s", v, places, got, want)
			}
		}
	}
}

// TestPutOfLongOnes: a writing has no limit of digits, though parsing has one.
func TestPutOfLongOnes(t *testing.T) {
	for _, n := range []int{40, 41, 4096, 4097, 5000} {
		nines := strings.Repeat("9", n)
		for _, sign := range []string{"", "-"} {
			x := fraction(say(sign + nines))
			if dec.Put(x, 0) != sign+nines || dec.Money(x) != sign+nines+".00" || dec.Put(x, 40) != sign+nines+"."+strings.Repeat("0", 40) {
				t.Errorf("%d digits: %d bytes", n, len(dec.Put(x, 0)))
			}
		}
	}
}

// wantShareText tries one by one how many places are enough.
func wantShareText(v *library.Rat) string {
	if v.Sign() < 0 || v.Cmp(library.NewRat(1, 1)) > 0 {
		return ""
	}
	hundred := new(library.Rat).Mul(v, library.NewRat(100, 1))
	for places := range 5 {
		if s := hundred.FloatString(places); say(s).Cmp(hundred) == 0 {
			return s + "%"
		}
	}
	return ""
}

func TestPutShare(t *testing.T) {
	l := append(fractions(), zeros()...)
	for _, n := range []int64{-1, 0, 1, 2, 10, 999_999, 1_000_000, 1_000_001} {
		// Whole numbers of 1/1000000, and what is a little off them.
		l = append(l, of(n, 1_000_000), of(10*n+1, 10_000_000), of(10*n-1, 10_000_000), of(3*n+1, 3_000_000), of(2*n+1, 2_000_000))
	}
	for n := int64(0); n <= 1_000_000; n += 331 {
		l = append(l, of(n, 1_000_000))
	}
	for n := int64(-100); n <= 1100; n++ {
		l = append(l, of(n, 1000))
	}
	for _, x := range l {
		if got, want := dec.PutShare(x), wantShareText(value(x)); got != want {
			t.Fatalf("PutShare(%v): %s, want %s", value(x), got, want)
		}
	}
}

func TestEdgesOfShares(t *testing.T) {
	for _, c := range []struct {
		n, d int64
		want string
	}{
		{0, 1, "0%"}, {1, 1, "100%"}, {1, 2, "50%"}, {1, 10, "10%"}, {1, 100, "1%"}, {1, 1000, "0.1%"}, {1, 10_000, "0.01%"}, {1, 100_000, "0.001%"}, {1, 1_000_000, "0.0001%"}, {999_999, 1_000_000, "99.9999%"}, {3, 8, "37.5%"}, {1, 64, "1.5625%"}, {9, 10, "90%"}, {101, 1000, "10.1%"}, {100_001, 1_000_000, "10.0001%"},
		{1, 128, ""}, {1, 10_000_000, ""}, {1, 3, ""}, {2, 3, ""}, {9_999_999, 10_000_000, ""}, {10_000_001, 10_000_000, ""}, {1_000_001, 1_000_000, ""}, {2, 1, ""}, {100, 1, ""}, {-1, 1_000_000, ""}, {-1, 2, ""}, {-1, 1, ""},
	} {
		if got := dec.PutShare(of(c.n, c.d)); got != c.want {
			t.Errorf("PutShare(%d/%d): %s, want %s", c.n, c.d, got, c.want)
		}
	}
}

// What is not right counts as 0, wherever it is handed in.

func TestWrongCountsAs0(t *testing.T) {
	for _, x := range wrong() {
		for places := -1; places <= api.MaxDigits+1; places++ {
			want := strconv.FormatFloat(0, 'f', min(max(places, 0), api.MaxDigits), 64)
			if got := dec.Put(x, places); got != want {
				t.Errorf("Put(%v, %d): %s", x, places, got)
			}
		}
		if money, share := dec.Money(x), dec.PutShare(x); money != "0.00" || share != "0%" {
			t.Errorf("%v: money %s, share %s", x, money, share)
		}
	}
	if dec.Put(rat.Rat{}, 3) != "0.000" {
		t.Error("the zero value")
	}
}
