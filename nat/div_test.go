package nat_test

import (
	"math/big"
	"math/rand/v2"
	"slices"
	"testing"

	"tallage/api"
	"tallage/limb"
	"tallage/nat"
)

// P2.2

func TestDivMod(t *testing.T) {
	pairs(func(a, b []uint32) {
		checkDivMod(t, a, b)
	})
}

func checkDivMod(t *testing.T, a, b []uint32) {
	t.Helper()
	q, r, e := nat.DivMod(a, b)
	if number(b).Sign() == 0 {
		if q != nil || r != nil || e != api.ErrDivide {
			t.Fatalf("DivMod(%v, %v): %v, %v, %d", a, b, q, r, e)
		}
		return
	}
	if e != api.OK {
		t.Fatalf("DivMod(%v, %v): error %d", a, b, e)
	}
	wantQ, wantR := new(big.Int).QuoRem(number(a), number(b), new(big.Int))
	check(t, q, wantQ, "DivMod's quotient", a, b)
	check(t, r, wantR, "DivMod's rest", a, b)
}

func TestDivModByNothing(t *testing.T) {
	for _, a := range append(small(), long()...) {
		for _, b := range [][]uint32{nil, {}, {0}, {0, 0, 0}} {
			if q, r, e := nat.DivMod(a, b); q != nil || r != nil || e != api.ErrDivide {
				t.Errorf("DivMod(%v, %v): %v, %v, %d", a, b, q, r, e)
			}
		}
	}
}

// TestDivModGuessedTooGreat divides where the first limbs promise more than the whole divisor holds, and where the rest is as near to the divisor as can be.
func TestDivModGuessedTooGreat(t *testing.T) {
	for _, x := range []struct{ a, b []uint32 }{
		{[]uint32{0, 0, 1 << 31, 1<<31 - 1}, []uint32{1, 0, 1 << 31}},
		{[]uint32{3, 0, 1 << 31}, []uint32{1, 0, 1 << 29}},
		{[]uint32{0, top - 1, 1 << 31}, []uint32{top, 1 << 31}},
		{[]uint32{0, 0, 0, 1 << 31}, []uint32{1, 1 << 31, 1 << 31}},
		{[]uint32{top, top, 0, 1 << 31}, []uint32{top, 1 << 31, 1 << 31}},
		{[]uint32{0, 0, 1}, []uint32{top, top}},
	} {
		checkDivMod(t, x.a, x.b)
	}
	r := rand.New(rand.NewPCG(7, 8))
	one := big.NewInt(1)
	for range 20000 {
		b := number(append(someRow(r, 1+r.IntN(4)), 1+r.Uint32N(top)))
		a := new(big.Int).Mul(b, number(someRow(r, 1+r.IntN(4))))
		checkDivMod(t, row(a), row(b))
		checkDivMod(t, row(new(big.Int).Add(a, one)), row(b))
		if a.Sign() > 0 {
			checkDivMod(t, row(new(big.Int).Sub(a, one)), row(b))
		}
	}
}

func TestDivModOfLongRows(t *testing.T) {
	a := append(filled(2000, 0), 1)
	for _, b := range [][]uint32{{3}, {3, 0, 0}, filled(2, top), filled(1000, top), append(filled(999, 0), 1), filled(2000, top), a, append(filled(2001, 0), 1)} {
		checkDivMod(t, a, b)
	}
}

func TestGcd(t *testing.T) {
	pairs(func(a, b []uint32) {
		check(t, nat.Gcd(a, b), new(big.Int).GCD(nil, nil, number(a), number(b)), "Gcd", a, b)
	})
}

func TestGcdOfFew(t *testing.T) {
	check(t, nat.Gcd(), new(big.Int), "Gcd")
	check(t, nat.Gcd(nil), new(big.Int), "Gcd", "nothing")
	check(t, nat.Gcd(nil, []uint32{0, 0}, []uint32{}), new(big.Int), "Gcd", "noughts")
	check(t, nat.Gcd([]uint32{12, 0}), big.NewInt(12), "Gcd", "one row")
	check(t, nat.Gcd(nil, []uint32{0, 5}, nil), big.NewInt(5<<32), "Gcd", "one row and noughts")
	check(t, nat.Gcd([]uint32{0, 0, 6}, []uint32{4}, []uint32{0, 2}), big.NewInt(4), "Gcd", "three rows")
	check(t, nat.Gcd([]uint32{6}, []uint32{10}, []uint32{15}), big.NewInt(1), "Gcd", "three rows, of which each two have a common divisor")
}

// TestGcdOfMultiples takes long rows that have a long divisor, and are of like and of unlike lengths.
func TestGcdOfMultiples(t *testing.T) {
	r := rand.New(rand.NewPCG(9, 10))
	for range 3000 {
		g, a, b := someRow(r, r.IntN(6)), someRow(r, r.IntN(12)), someRow(r, r.IntN(12))
		a, b = nat.Mul(a, g), nat.Mul(b, g)
		want := new(big.Int).GCD(nil, nil, number(a), number(b))
		check(t, nat.Gcd(a, b), want, "Gcd", a, b)
		check(t, nat.Gcd(a, b, g), want.GCD(nil, nil, want, number(g)), "Gcd", a, b, g)
	}
}

// TestGcdOfNearRows takes rows of the same first limbs, whose quotients the first limbs don't tell.
func TestGcdOfNearRows(t *testing.T) {
	r := rand.New(rand.NewPCG(11, 12))
	for range 3000 {
		a := number(append(someRow(r, r.IntN(8)), 0, 1+r.Uint32N(top)))
		d := number(someRow(r, r.IntN(4)))
		times := big.NewInt(int64(1 + r.IntN(4)))
		b := new(big.Int).Add(new(big.Int).Mul(a, times), d)
		check(t, nat.Gcd(row(a), row(b)), new(big.Int).GCD(nil, nil, a, b), "Gcd", a, b)
	}
}

// TestGcdOfFibonaccis goes the longest way: each quotient is 1.
func TestGcdOfFibonaccis(t *testing.T) {
	a, b := big.NewInt(0), big.NewInt(1)
	for n := range 1500 {
		check(t, nat.Gcd(row(a), row(b)), big.NewInt(1), "Gcd of two Fibonacci numbers", n)
		a, b = b, a.Add(a, b)
	}
}

func TestGcdOfLongRows(t *testing.T) {
	r := rand.New(rand.NewPCG(13, 14))
	for _, n := range []int{100, 1000} {
		a, b := someRow(r, n), someRow(r, n-n/7)
		check(t, nat.Gcd(a, b), new(big.Int).GCD(nil, nil, number(a), number(b)), "Gcd", "long rows", n)
	}
	check(t, nat.Gcd(filled(2000, top), filled(750, top)), number(filled(250, top)), "Gcd", "filled rows")
}

// P2.6

func TestHowOftenTimesDivisor(t *testing.T) {
	pairs(func(a, b []uint32) {
		if len(limb.Trim(b)) == 0 {
			return
		}
		q, r, e := nat.DivMod(a, b)
		back := limb.Add(nat.Mul(q, b), r)
		if !slices.Equal(back, limb.Trim(a)) || limb.Cmp(r, b) >= 0 || e != api.OK {
			t.Fatalf("%v by %v: %v, %v left, error %d", a, b, q, r, e)
		}
	})
}

func TestProductsAreDivided(t *testing.T) {
	pairs(func(a, b []uint32) {
		if len(limb.Trim(b)) == 0 {
			return
		}
		if q, r, e := nat.DivMod(nat.Mul(a, b), b); !slices.Equal(q, limb.Trim(a)) || r != nil || e != api.OK {
			t.Fatalf("%v times %v by the latter: %v, %v left, error %d", a, b, q, r, e)
		}
	})
}

func TestGreatestDivisorGoesIntoEach(t *testing.T) {
	pairs(func(a, b []uint32) {
		g := nat.Gcd(a, b)
		if len(g) == 0 {
			if len(limb.Trim(a)) > 0 || len(limb.Trim(b)) > 0 {
				t.Fatalf("Gcd(%v, %v): 0", a, b)
			}
			return
		}
		p, restA, _ := nat.DivMod(a, g)
		q, restB, _ := nat.DivMod(b, g)
		if restA != nil || restB != nil {
			t.Fatalf("Gcd(%v, %v): %v does not go into both", a, b, g)
		}
		if one := nat.Gcd(p, q); !slices.Equal(one, []uint32{1}) {
			t.Fatalf("Gcd(%v, %v): %v, and %v goes into both quotients", a, b, g, one)
		}
	})
}
