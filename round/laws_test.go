package round_test

import (
	library "math/big"
	"slices"
	"testing"

	"tallage/api"
	"tallage/big"
	"tallage/rat"
	"tallage/round"
)

// P5.5

func TestFloorAndFrac(t *testing.T) {
	for _, x := range fractions() {
		floor, rest := round.Floor(x), round.Frac(x)
		if rat.Sign(rest) < 0 || rat.Cmp(rest, rat.Whole(1)) >= 0 || !sameFraction(rat.Add(round.Whole(floor), rest), x) {
			t.Fatalf("%v: floor %v and %v", value(x), whole(floor), value(rest))
		}
		if !sameFraction(round.Frac(rest), rest) || big.Sign(round.Floor(rest)) != 0 {
			t.Fatalf("%v: what is above its floor has a floor", value(x))
		}
	}
}

func TestHalfIsNear(t *testing.T) {
	for _, x := range fractions() {
		away := rat.Sub(x, round.Whole(round.Half(x)))
		if rat.Cmp(rat.Max(away, rat.Neg(away)), of(1, 2)) > 0 {
			t.Fatalf("%v: half-even is %v away", value(x), value(away))
		}
	}
}

// TestBelow0 holds fractions below 0 against those above.
func TestBelow0(t *testing.T) {
	for _, x := range fractions() {
		y := rat.Neg(x)
		if !sameNumber(round.Half(y), big.Neg(round.Half(x))) || !sameNumber(round.Trunc(y), big.Neg(round.Trunc(x))) || !sameNumber(round.Floor(y), big.Neg(round.Ceil(x))) || !sameNumber(round.Cents(y), big.Neg(round.Cents(x))) {
			t.Fatalf("%v is brought to other numbers than what is at the other side of 0", value(x))
		}
		n, _ := round.Places(x, 5)
		if m, _ := round.Places(y, 5); !sameNumber(m, big.Neg(n)) {
			t.Fatalf("%v has other places than what is at the other side of 0", value(x))
		}
	}
}

func TestOrderIsKept(t *testing.T) {
	l := fractions()
	slices.SortFunc(l, rat.Cmp)
	places := func(x rat.Rat) big.Int {
		n, _ := round.Places(x, 1)
		return n
	}
	for i, f := range []func(rat.Rat) big.Int{round.Floor, round.Ceil, round.Trunc, round.Half, round.Cents, places} {
		for k, x := range l[1:] {
			if big.Cmp(f(l[k]), f(x)) > 0 {
				t.Fatalf("call %d: %v and %v are brought to numbers in another order", i, value(l[k]), value(x))
			}
		}
	}
}

func TestCentsOfHundredths(t *testing.T) {
	for _, x := range fractions() {
		for _, n := range []big.Int{x.Num, big.Neg(x.Den)} {
			if got := round.Cents(round.FromCents(n)); !sameNumber(got, n) {
				t.Fatalf("Cents of %v hundredths: %v", whole(n), whole(got))
			}
			if !sameNumber(round.Half(round.Whole(n)), n) || !round.IsWhole(round.Whole(n)) || !sameFraction(round.FromCents(big.Mul(n, big.Of(100))), round.Whole(n)) {
				t.Fatalf("%v as a fraction", whole(n))
			}
		}
	}
}

// TestPlacesAndOthers asks in ways that come to one thing.
func TestPlacesAndOthers(t *testing.T) {
	for _, x := range append(fractions(), wrong()...) {
		none, e := round.Places(x, 0)
		two, f := round.Places(x, 2)
		if e != api.OK || f != api.OK || !sameNumber(none, round.Half(x)) || !sameNumber(two, round.Cents(x)) {
			t.Fatalf("%v: places of 0 and of 2: %v, %v", x, whole(none), whole(two))
		}
	}
	// A number of few digits has all of them behind the point.
	x := fraction(new(library.Rat).SetFrac(library.NewInt(-123456789), library.NewInt(1_000_000_000)))
	for n := 9; n <= api.MaxDigits; n++ {
		got, _ := round.Places(x, n)
		want := new(library.Int).Exp(library.NewInt(10), library.NewInt(int64(n-9)), nil)
		checkNumber(t, got, want.Mul(want, library.NewInt(-123456789)), "Places", n)
	}
}
