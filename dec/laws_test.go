package dec_test

import (
	library "math/big"
	"testing"

	"tallage/api"
	"tallage/dec"
	"tallage/rat"
)

// P6.5

func TestPutIsParsed(t *testing.T) {
	for _, x := range append(fractions(), wrong()...) {
		for _, places := range []int{0, 1, 2, 4, 19, 38, 39, 40} {
			checkPut(t, x, places)
		}
	}
}

func checkPut(t *testing.T, x rat.Rat, places int) {
	t.Helper()
	s := dec.Put(x, places)
	back, e := dec.Parse(s)
	if tooLong(s) {
		if e != api.ErrLimit {
			t.Fatalf("%s, put and parsed: error %d", s, e)
		}
		return
	}
	if e != api.OK || placesIn(s) != places {
		t.Fatalf("%s, put of %d places and parsed: error %d", s, places, e)
	}
	away := rat.Sub(x, back)
	unit := fraction(new(library.Rat).SetFrac(library.NewInt(1), tensOf(places)))
	if rat.Cmp(rat.Max(rat.Sum(away, away), rat.Neg(rat.Sum(away, away))), unit) > 0 {
		t.Fatalf("%v is put as %s", x, s)
	}
	if again := dec.Put(back, places); again != s {
		t.Fatalf("%s, put again: %s", s, again)
	}
}

func TestParsedIsPut(t *testing.T) {
	for _, s := range alsoLess(texts()...) {
		x, e := dec.Parse(s)
		if e != api.OK {
			continue
		}
		if got := dec.Put(x, placesIn(s)); got != s {
			t.Errorf("%s, parsed and put: %s", s, got)
		}
	}
}

func TestMoneyIsAnAmount(t *testing.T) {
	for _, x := range append(fractions(), wrong()...) {
		s := dec.Money(x)
		back, e := dec.Amount(s)
		if tooLong(s) && e == api.ErrLimit {
			continue
		}
		if e != api.OK || dec.Money(back) != s || dec.Put(x, 2) != s {
			t.Fatalf("%s: amount %v, error %d", s, back, e)
		}
	}
}

func TestSharesGoBothWays(t *testing.T) {
	for n := int64(0); n <= 1_000_000; n += 997 {
		for _, x := range []rat.Rat{of(n, 1_000_000), of(n/100, 10_000), of(n/10_000, 100)} {
			s := dec.PutShare(x)
			if back, e := dec.Share(s); !alike(back, x) || e != api.OK {
				t.Fatalf("%v is put as the share %s, and parsed as %v, error %d", value(x), s, back, e)
			}
		}
	}
	for _, s := range []string{"0%", "0.0%", "0.0000%", "5%", "5.0%", "5.2500%", "10%", "10.10%", "100%", "100.00%", "99.9999%", "0.0001%", "0.0100%"} {
		x, e := dec.Share(s)
		short := dec.PutShare(x)
		back, f := dec.Share(short)
		if e != api.OK || f != api.OK || !alike(back, x) || len(short) > len(s) || dec.PutShare(back) != short {
			t.Errorf("%s, parsed and put: %s, errors %d, %d", s, short, e, f)
		}
	}
}
