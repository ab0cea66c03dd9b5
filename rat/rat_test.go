package rat_test

import (
	"encoding/binary"
	"math"
	library "math/big"
	"math/rand/v2"
	"slices"
	"testing"

	"tallage/api"
	"tallage/big"
	"tallage/rat"
)

const top = math.MaxUint32

// whole is what n counts, told by the library's own numbers; n must be right.
func whole(n big.Int) *library.Int {
	var b []byte
	for i := len(n.Mag) - 1; i >= 0; i-- {
		b = binary.BigEndian.AppendUint32(b, n.Mag[i])
	}
	v := new(library.Int).SetBytes(b)
	if n.Neg {
		v.Neg(v)
	}
	return v
}

// number is the right one that counts v.
func number(v *library.Int) big.Int {
	b := v.FillBytes(make([]byte, (v.BitLen()+31)/32*4))
	n := big.Int{Neg: v.Sign() < 0}
	for ; len(b) > 0; b = b[:len(b)-4] {
		n.Mag = append(n.Mag, binary.BigEndian.Uint32(b[len(b)-4:]))
	}
	return n
}

func value(x rat.Rat) *library.Rat {
	return new(library.Rat).SetFrac(whole(x.Num), whole(x.Den))
}

// fraction is the right one that counts v: the library's own fractions are in lowest terms, too.
func fraction(v *library.Rat) rat.Rat {
	return rat.Rat{Num: number(v.Num()), Den: number(v.Denom())}
}

func of(n, d int64) rat.Rat { return fraction(library.NewRat(n, d)) }

// isRight tells it without the packages' own words for it.
func isRight(x rat.Rat) bool {
	for _, n := range []big.Int{x.Num, x.Den} {
		if len(n.Mag) == 0 && n.Neg || len(n.Mag) > 0 && n.Mag[len(n.Mag)-1] == 0 {
			return false
		}
	}
	g := new(library.Int).GCD(nil, nil, new(library.Int).Abs(whole(x.Num)), whole(x.Den))
	return !x.Den.Neg && len(x.Den.Mag) > 0 && g.Cmp(library.NewInt(1)) == 0
}

func alike(a, b rat.Rat) bool {
	return a.Num.Neg == b.Num.Neg && a.Den.Neg == b.Den.Neg && slices.Equal(a.Num.Mag, b.Num.Mag) && slices.Equal(a.Den.Mag, b.Den.Mag)
}

// check holds an answer against the fraction that it must be, limb by limb, so that it must be right, too.
func check(t *testing.T, got rat.Rat, want *library.Rat, what string, args ...any) {
	t.Helper()
	if !isRight(got) {
		t.Fatalf("%s of %v: %v is not right", what, args, got)
	}
	if !alike(got, fraction(want)) {
		t.Fatalf("%s of %v: %v, want %v", what, args, value(got), want)
	}
}

// nothing asks whether an answer is the zero value.
func nothing(t *testing.T, got rat.Rat, what string, args ...any) {
	t.Helper()
	if got.Num.Neg || got.Num.Mag != nil || got.Den.Neg || got.Den.Mag != nil {
		t.Fatalf("%s of %v: %v beside an error", what, args, got)
	}
}

// bounds are numbers about 0 and about the bounds of limbs and of 64 bits, of either sign, as the library tells them.
func bounds() []*library.Int {
	l := []*library.Int{new(library.Int)}
	for _, n := range []int64{1, 2, 3, 4, 6, 9, 10, 12, 100, 1_000_000, top, top + 1, math.MaxInt64} {
		l = append(l, library.NewInt(n), library.NewInt(-n))
	}
	for _, bit := range []uint{63, 64, 96} {
		v := new(library.Int).Lsh(library.NewInt(1), bit)
		l = append(l, v, new(library.Int).Neg(v), new(library.Int).Add(v, library.NewInt(1)))
	}
	return l
}

// small are fractions of short numbers, each once.
func small() []rat.Rat {
	l := []rat.Rat{}
	for n := int64(-6); n <= 6; n++ {
		for d := int64(1); d <= 6; d++ {
			if v := library.NewRat(n, d); v.Denom().Int64() == d {
				l = append(l, fraction(v))
			}
		}
	}
	for _, d := range []int64{8, 100, 1_000_000, top, top + 1, math.MaxInt64} {
		for _, n := range []int64{1, -1, 99, -101, top, -top - 1, math.MaxInt64, math.MinInt64} {
			l = append(l, of(n, d))
		}
	}
	return l
}

// long are fractions of numbers of up to 24 limbs, the same ones each time, many of which have divisors in common.
func long() []rat.Rat {
	r := rand.New(rand.NewPCG(31, 32))
	common := []*library.Int{library.NewInt(1), someNumber(r, 1), someNumber(r, 4), library.NewInt(100)}
	l := make([]rat.Rat, 60)
	for i := range l {
		n := new(library.Int).Mul(someNumber(r, r.IntN(20)), common[r.IntN(4)])
		d := new(library.Int).Mul(someNumber(r, r.IntN(20)), common[r.IntN(4)])
		if r.IntN(2) == 0 {
			n.Neg(n)
		}
		l[i] = fraction(new(library.Rat).SetFrac(n, d))
	}
	return l
}

// someNumber is above 0; many of its limbs are at the bounds.
func someNumber(r *rand.Rand, limbs int) *library.Int {
	n := big.Int{Mag: make([]uint32, limbs)}
	for i := range n.Mag {
		switch r.IntN(5) {
		case 0:
		case 1:
			n.Mag[i] = top
		default:
			n.Mag[i] = r.Uint32()
		}
	}
	return whole(big.Int{Mag: append(n.Mag, 1+r.Uint32N(top))})
}

func fractions() []rat.Rat { return append(small(), long()...) }

// pairs calls f for each two fractions.
func pairs(f func(a, b rat.Rat)) {
	for _, l := range [][]rat.Rat{small(), long()} {
		for _, a := range l {
			for _, b := range l {
				f(a, b)
			}
		}
	}
}

// zeros are the right ways to hand in 0.
func zeros() []rat.Rat {
	one := []uint32{1}
	return []rat.Rat{{Den: big.Int{Mag: one}}, {Num: big.Int{Mag: []uint32{}}, Den: big.Int{Mag: one}}, {Num: big.Int{Mag: []uint32{7, 8}[:0]}, Den: big.Int{Mag: one}}}
}

func mag(limbs ...uint32) big.Int { return big.Int{Mag: limbs} }

func less(limbs ...uint32) big.Int { return big.Int{Neg: true, Mag: limbs} }

// wrong are fractions that are not right: by what is below, by a divisor, and by a number that is not right itself.
func wrong() []rat.Rat {
	long := slices.Repeat([]uint32{6}, 500)
	return []rat.Rat{
		{}, {Num: mag(), Den: mag()}, {Num: mag(1)}, {Num: less(5)}, {Num: mag(1), Den: mag()},
		{Num: mag(1), Den: less(2)}, {Num: less(1), Den: less(2)}, {Den: less(1)}, {Num: mag(5), Den: less(1)},
		{Den: mag(2)}, {Den: mag(0, 1)}, {Num: mag(2), Den: mag(2)}, {Num: mag(6), Den: mag(4)}, {Num: less(6), Den: mag(9)},
		{Num: mag(0, 3), Den: mag(0, 1)}, {Num: mag(0, 0, 1), Den: mag(1 << 31)}, {Num: mag(long...), Den: mag(3)},
		{Num: less(), Den: mag(1)}, {Num: mag(0), Den: mag(1)}, {Num: less(0, 0), Den: mag(1)}, {Num: mag(3, 0), Den: mag(1)}, {Num: mag(3, 0), Den: mag(2)},
		{Num: mag(3), Den: mag(2, 0)}, {Num: mag(3), Den: mag(0)}, {Num: mag(3), Den: less()}, {Num: mag(3), Den: mag(1, 0, 0)}, {Num: mag(3), Den: less(1, 0)},
	}
}

// P4.1

func TestRight(t *testing.T) {
	for _, x := range append(fractions(), zeros()...) {
		if !rat.Right(x) {
			t.Errorf("%v is not right", x)
		}
	}
	for _, x := range wrong() {
		if rat.Right(x) {
			t.Errorf("%v is right", x)
		}
	}
	// The same numbers, none with a divisor in common, are just right.
	for _, x := range []rat.Rat{{Num: mag(1), Den: mag(2)}, {Num: less(5), Den: mag(1)}, {Num: mag(3), Den: mag(0, 1)}, {Num: less(0, 0, 1), Den: mag(top)}} {
		if !rat.Right(x) {
			t.Errorf("%v is not right", x)
		}
	}
	for _, v := range bounds() {
		for _, w := range bounds() {
			x := rat.Rat{Num: number(v), Den: number(w)}
			if rat.Right(x) != isRight(x) {
				t.Errorf("Right of %v by %v: %v", v, w, rat.Right(x))
			}
		}
	}
}

func TestNew(t *testing.T) {
	for _, n := range bounds() {
		for _, d := range bounds() {
			checkNew(t, n, d)
		}
	}
	r := rand.New(rand.NewPCG(33, 34))
	for range 500 {
		common := someNumber(r, r.IntN(8))
		n, d := someNumber(r, r.IntN(8)), someNumber(r, r.IntN(8))
		n.Mul(n, common)
		d.Mul(d, common)
		for range 4 {
			checkNew(t, n, d)
			n, d = d, new(library.Int).Neg(n)
		}
	}
}

func checkNew(t *testing.T, n, d *library.Int) {
	t.Helper()
	got, e := rat.New(number(n), number(d))
	if d.Sign() == 0 {
		nothing(t, got, "New", n, d)
		if e != api.ErrDivide {
			t.Fatalf("New(%v, %v): error %d", n, d, e)
		}
		return
	}
	check(t, got, new(library.Rat).SetFrac(n, d), "New", n, d)
	if e != api.OK {
		t.Fatalf("New(%v, %v): error %d", n, d, e)
	}
}

// TestNewOfWrongNumbers hands in numbers that are not right: they count as 0.
func TestNewOfWrongNumbers(t *testing.T) {
	for _, n := range []big.Int{less(), mag(0), less(0), mag(5, 0), less(5, 0), mag(top, top, 0, 0)} {
		for _, d := range []int64{1, -1, 5, -5, math.MinInt64} {
			got, e := rat.New(n, big.Of(d))
			check(t, got, new(library.Rat), "New", n, d)
			if e != api.OK {
				t.Errorf("New(%v, %d): error %d", n, d, e)
			}
			got, e = rat.New(big.Of(d), n)
			nothing(t, got, "New", d, n)
			if e != api.ErrDivide {
				t.Errorf("New(%d, %v): error %d", d, n, e)
			}
		}
		got, e := rat.New(n, n)
		nothing(t, got, "New", n, n)
		if e != api.ErrDivide {
			t.Errorf("New(%v, %v): error %d", n, n, e)
		}
	}
}

func TestOf(t *testing.T) {
	l := []int64{math.MinInt64, math.MinInt64 + 1, math.MaxInt64, math.MaxInt64 - 1, top, -top, top + 1, -top - 1, 1 << 62, 100, -100}
	for n := int64(-12); n <= 12; n++ {
		l = append(l, n)
	}
	for _, n := range l {
		for _, d := range l {
			got, e := rat.Of(n, d)
			if d == 0 {
				nothing(t, got, "Of", n, d)
				if e != api.ErrDivide {
					t.Errorf("Of(%d, 0): error %d", n, e)
				}
				continue
			}
			check(t, got, new(library.Rat).SetFrac64(n, d), "Of", n, d)
			if e != api.OK {
				t.Errorf("Of(%d, %d): error %d", n, d, e)
			}
		}
		check(t, rat.Whole(n), new(library.Rat).SetInt64(n), "Whole", n)
	}
}

// P4.2

func TestTwo(t *testing.T) {
	pairs(func(a, b rat.Rat) {
		v, w := value(a), value(b)
		check(t, rat.Add(a, b), new(library.Rat).Add(v, w), "Add", v, w)
		check(t, rat.Sub(a, b), new(library.Rat).Sub(v, w), "Sub", v, w)
		check(t, rat.Mul(a, b), new(library.Rat).Mul(v, w), "Mul", v, w)
		if w.Sign() == 0 {
			return
		}
		got, e := rat.Div(a, b)
		check(t, got, new(library.Rat).Quo(v, w), "Div", v, w)
		if e != api.OK {
			t.Fatalf("Div(%v, %v): error %d", v, w, e)
		}
	})
}

func TestNeg(t *testing.T) {
	for _, a := range append(fractions(), zeros()...) {
		check(t, rat.Neg(a), new(library.Rat).Neg(value(a)), "Neg", value(a))
	}
}

func TestDivByNothing(t *testing.T) {
	for _, a := range append(small(), wrong()...) {
		for _, b := range append(zeros(), wrong()...) {
			got, e := rat.Div(a, b)
			nothing(t, got, "Div", a, b)
			if e != api.ErrDivide {
				t.Fatalf("Div(%v, %v): error %d", a, b, e)
			}
		}
	}
}

// P4.3

func TestCmp(t *testing.T) {
	pairs(func(a, b rat.Rat) {
		v, w := value(a), value(b)
		if got := rat.Cmp(a, b); got != v.Cmp(w) {
			t.Fatalf("Cmp(%v, %v): %d", v, w, got)
		}
		if got := rat.Same(a, b); got != (v.Cmp(w) == 0) {
			t.Fatalf("Same(%v, %v): %v", v, w, got)
		}
	})
	for _, a := range append(fractions(), zeros()...) {
		if got := rat.Sign(a); got != value(a).Sign() {
			t.Errorf("Sign(%v): %d", value(a), got)
		}
	}
	for _, a := range zeros() {
		for _, b := range zeros() {
			if rat.Cmp(a, b) != 0 || !rat.Same(a, b) {
				t.Errorf("%v and %v are not the same", a, b)
			}
		}
	}
}

// TestCmpOfNear holds fractions against each other whose neighbours are as near as can be.
func TestCmpOfNear(t *testing.T) {
	r := rand.New(rand.NewPCG(35, 36))
	for range 500 {
		n, d := someNumber(r, r.IntN(9)), someNumber(r, r.IntN(9))
		v := new(library.Rat).SetFrac(n, d)
		w := new(library.Rat).SetFrac(n, new(library.Int).Add(d, library.NewInt(1)))
		a, b := fraction(v), fraction(w)
		if rat.Cmp(a, b) != 1 || rat.Cmp(b, a) != -1 || rat.Cmp(rat.Neg(a), rat.Neg(b)) != -1 || rat.Cmp(rat.Neg(a), b) != -1 || rat.Same(a, b) || rat.Same(a, rat.Neg(a)) {
			t.Fatalf("%v and %v stand in another order", v, w)
		}
	}
}

// What is not right counts as 0, wherever it is handed in.

func TestWrongCountsAs0(t *testing.T) {
	none := of(0, 1)
	for _, w := range wrong() {
		if rat.Sign(w) != 0 {
			t.Errorf("%v: sign %d", w, rat.Sign(w))
		}
		check(t, rat.Neg(w), new(library.Rat), "Neg", w)
		for _, u := range append(wrong(), small()...) {
			x := u
			if !isRight(u) {
				x = none
			}
			checkAlike(t, w, u, none, x)
			checkAlike(t, u, w, x, none)
		}
	}
}

// checkAlike asks whether all calls of two, and of rows, answer for a, b what they answer for c, d.
func checkAlike(t *testing.T, a, b, c, d rat.Rat) {
	t.Helper()
	if rat.Cmp(a, b) != rat.Cmp(c, d) || rat.Same(a, b) != rat.Same(c, d) {
		t.Fatalf("Cmp and Same of %v, %v: %d, %v", a, b, rat.Cmp(a, b), rat.Same(a, b))
	}
	q, e := rat.Div(a, b)
	wantQ, wantE := rat.Div(c, d)
	if !alike(q, wantQ) || e != wantE {
		t.Fatalf("Div(%v, %v): %v, %d", a, b, q, e)
	}
	row := func(f func(l ...rat.Rat) rat.Rat) func(a, b rat.Rat) rat.Rat {
		return func(a, b rat.Rat) rat.Rat { return f(a, b) }
	}
	most := func(f func(first rat.Rat, l ...rat.Rat) rat.Rat) func(a, b rat.Rat) rat.Rat {
		return func(a, b rat.Rat) rat.Rat { return f(a, b) }
	}
	for i, f := range []func(a, b rat.Rat) rat.Rat{rat.Add, rat.Sub, rat.Mul, row(rat.Sum), row(rat.Product), most(rat.Min), most(rat.Max)} {
		if got, want := f(a, b), f(c, d); !alike(got, want) || !isRight(got) {
			t.Fatalf("call %d of %v, %v: %v, want %v", i, a, b, got, want)
		}
	}
}

// The chapter's own examples.

func TestExamples(t *testing.T) {
	x, e := rat.Of(6, -4)
	if !alike(x, rat.Rat{Num: less(3), Den: mag(2)}) || e != api.OK {
		t.Errorf("Of(6, -4): %v, %d", x, e)
	}
	x, e = rat.New(big.Of(0), big.Of(5))
	if !alike(x, rat.Rat{Den: mag(1)}) || e != api.OK {
		t.Errorf("New(0, 5): %v, %d", x, e)
	}
	check(t, rat.Add(of(1, 2), of(1, 3)), library.NewRat(5, 6), "Add")
	check(t, rat.Mul(of(-2, 3), of(9, 4)), library.NewRat(-3, 2), "Mul")
	x, e = rat.Div(of(1, 2), of(-1, 4))
	check(t, x, library.NewRat(-2, 1), "Div")
	if e != api.OK {
		t.Errorf("Div: error %d", e)
	}
	if rat.Cmp(of(1, 3), of(33, 100)) != 1 {
		t.Error("Cmp")
	}
	check(t, rat.Max(of(1, 2), of(2, 3), of(3, 5)), library.NewRat(2, 3), "Max")
	if x, e := rat.Of(1, 0); e != api.ErrDivide {
		t.Errorf("Of(1, 0): %v, %d", x, e)
	}
}
