package round_test

import (
	"encoding/binary"
	"math"
	library "math/big"
	"math/rand/v2"
	"slices"
	"testing"

	"tallage/api"
	"tallage/big"
	"tallage/rat"
	"tallage/round"
)

const top = math.MaxUint32

// whole is what n counts, told by the library's own numbers; n must be right.
func whole(n big.Int) *library.Int {
	var b []byte
	for i := len(n.Mag) - 1; i >= 0; i-- {
		b = binary.BigEndian.AppendUint32(b, n.Mag[i])
	}
	v := new(library.Int).SetBytes(b)
	if n.Neg {
		v.Neg(v)
	}
	return v
}

// number is the right one that counts v.
func number(v *library.Int) big.Int {
	b := v.FillBytes(make([]byte, (v.BitLen()+31)/32*4))
	n := big.Int{Neg: v.Sign() < 0}
	for ; len(b) > 0; b = b[:len(b)-4] {
		n.Mag = append(n.Mag, binary.BigEndian.Uint32(b[len(b)-4:]))
	}
	return n
}

func value(x rat.Rat) *library.Rat {
	return new(library.Rat).SetFrac(whole(x.Num), whole(x.Den))
}

// fraction is the right one that counts v: the library's own fractions are in lowest terms, too.
func fraction(v *library.Rat) rat.Rat {
	return rat.Rat{Num: number(v.Num()), Den: number(v.Denom())}
}

func of(n, d int64) rat.Rat { return fraction(library.NewRat(n, d)) }

func sameNumber(a, b big.Int) bool { return a.Neg == b.Neg && slices.Equal(a.Mag, b.Mag) }

func sameFraction(a, b rat.Rat) bool { return sameNumber(a.Num, b.Num) && sameNumber(a.Den, b.Den) }

// checkNumber holds an answer against the number that it must be, limb by limb, so that it must be right, too.
func checkNumber(t *testing.T, got big.Int, want *library.Int, what string, args ...any) {
	t.Helper()
	if !sameNumber(got, number(want)) {
		t.Fatalf("%s of %v: %v, want %v", what, args, got, want)
	}
}

func checkFraction(t *testing.T, got rat.Rat, want *library.Rat, what string, args ...any) {
	t.Helper()
	if !sameFraction(got, fraction(want)) {
		t.Fatalf("%s of %v: %v, want %v", what, args, got, want)
	}
}

// floorOf is told by the library's division that leaves what is at least 0: with a number below above 0 it is the floor.
func floorOf(v *library.Rat) *library.Int { return new(library.Int).Div(v.Num(), v.Denom()) }

func negOf(v *library.Rat) *library.Rat { return new(library.Rat).Neg(v) }

func ceilOf(v *library.Rat) *library.Int {
	n := floorOf(negOf(v))
	return n.Neg(n)
}

func truncOf(v *library.Rat) *library.Int {
	if v.Sign() < 0 {
		return ceilOf(v)
	}
	return floorOf(v)
}

// halfOf goes by the distances to both sides, and not by floor and rest.
func halfOf(v *library.Rat) *library.Int {
	low, high := floorOf(v), ceilOf(v)
	below := new(library.Rat).Sub(v, new(library.Rat).SetInt(low))
	above := new(library.Rat).Sub(new(library.Rat).SetInt(high), v)
	c := below.Cmp(above)
	if c < 0 || c == 0 && low.Bit(0) == 0 {
		return low
	}
	return high
}

// placesOf is half-even of v times 10 to the n.
func placesOf(v *library.Rat, n int) *library.Int {
	ten := new(library.Int).Exp(library.NewInt(10), library.NewInt(int64(n)), nil)
	return halfOf(new(library.Rat).Mul(v, new(library.Rat).SetInt(ten)))
}

// small are fractions of short numbers, whole ones, halves and hundredths among them, each about the bounds of limbs and of 64 bits, too.
func small() []rat.Rat {
	l := []rat.Rat{}
	for _, d := range []int64{1, 2, 3, 4, 5, 6, 7, 8, 100, 200} {
		for n := -2*d - 3; n <= 2*d+3; n++ {
			l = append(l, of(n, d))
		}
	}
	for _, d := range []int64{1, 2, 3, 200, 1_000_000, top, top + 1, math.MaxInt64} {
		for _, n := range []int64{5, -5, 99, -101, top, -top, top + 2, -top - 1, math.MaxInt64, math.MinInt64} {
			l = append(l, of(n, d))
		}
	}
	return l
}

// long are fractions of numbers of up to 12 limbs, the same ones each time; each second one is as near to a half, or to a whole number, as its number below lets it be.
func long() []rat.Rat {
	r := rand.New(rand.NewPCG(51, 52))
	l := []rat.Rat{}
	for i := range 200 {
		n, d := someNumber(r), someNumber(r)
		if i%2 == 1 {
			d.Add(d, d)
			n.Mul(n, d)
			n.Rsh(n, 1)
			n.Add(n, library.NewInt(int64(r.IntN(3)-1)))
		}
		if r.IntN(2) == 0 {
			n.Neg(n)
		}
		l = append(l, fraction(new(library.Rat).SetFrac(n, d)))
	}
	return l
}

// someNumber is above 0; many of its limbs are at the bounds.
func someNumber(r *rand.Rand) *library.Int {
	n := big.Int{Mag: make([]uint32, r.IntN(12))}
	for i := range n.Mag {
		switch r.IntN(5) {
		case 0:
		case 1:
			n.Mag[i] = top
		default:
			n.Mag[i] = r.Uint32()
		}
	}
	return whole(big.Int{Mag: append(n.Mag, 1+r.Uint32N(top))})
}

func fractions() []rat.Rat { return append(small(), long()...) }

func mag(limbs ...uint32) big.Int { return big.Int{Mag: limbs} }

func less(limbs ...uint32) big.Int { return big.Int{Neg: true, Mag: limbs} }

// wrongNumbers are not right.
func wrongNumbers() []big.Int {
	return []big.Int{less(), mag(0), less(0), mag(5, 0), less(5, 0), mag(0, 0, 0), mag(top, top, 0, 0)}
}

// wrong are fractions that are not right, many of which would be whole ones, or halves.
func wrong() []rat.Rat {
	l := []rat.Rat{
		{}, {Num: mag(1)}, {Num: less(5)}, {Num: mag(7), Den: less(2)}, {Num: less(7), Den: less(2)}, {Num: mag(5), Den: less(1)},
		{Den: mag(2)}, {Den: less(1)}, {Num: mag(4), Den: mag(2)}, {Num: mag(6), Den: mag(4)}, {Num: less(14), Den: mag(4)}, {Num: mag(0, 0, 1), Den: mag(1 << 31)},
	}
	for _, n := range wrongNumbers() {
		l = append(l, rat.Rat{Num: n, Den: mag(1)}, rat.Rat{Num: n, Den: mag(2)}, rat.Rat{Num: mag(7), Den: n}, rat.Rat{Num: n, Den: n})
	}
	return l
}

// zeros are the right ways to hand in 0.
func zeros() []rat.Rat {
	return []rat.Rat{{Den: mag(1)}, {Num: mag(), Den: mag(1)}, {Num: big.Int{Mag: []uint32{7, 8}[:0]}, Den: mag(1)}}
}

// P5.1

func TestRounded(t *testing.T) {
	for _, x := range append(fractions(), zeros()...) {
		v := value(x)
		checkNumber(t, round.Floor(x), floorOf(v), "Floor", v)
		checkNumber(t, round.Ceil(x), ceilOf(v), "Ceil", v)
		checkNumber(t, round.Trunc(x), truncOf(v), "Trunc", v)
		checkNumber(t, round.Half(x), halfOf(v), "Half", v)
		checkFraction(t, round.Frac(x), new(library.Rat).Sub(v, new(library.Rat).SetInt(floorOf(v))), "Frac", v)
	}
}

// TestHalves writes out what stands about each half, so that it hangs on no reckoning.
func TestHalves(t *testing.T) {
	for _, c := range []struct{ n, floor, ceil, trunc, half int64 }{
		{-9, -5, -4, -4, -4}, {-7, -4, -3, -3, -4}, {-5, -3, -2, -2, -2}, {-3, -2, -1, -1, -2}, {-1, -1, 0, 0, 0},
		{1, 0, 1, 0, 0}, {3, 1, 2, 1, 2}, {5, 2, 3, 2, 2}, {7, 3, 4, 3, 4}, {9, 4, 5, 4, 4},
	} {
		x := of(c.n, 2)
		checkNumber(t, round.Floor(x), library.NewInt(c.floor), "Floor", c.n, "halves")
		checkNumber(t, round.Ceil(x), library.NewInt(c.ceil), "Ceil", c.n, "halves")
		checkNumber(t, round.Trunc(x), library.NewInt(c.trunc), "Trunc", c.n, "halves")
		checkNumber(t, round.Half(x), library.NewInt(c.half), "Half", c.n, "halves")
		checkFraction(t, round.Frac(x), library.NewRat(1, 2), "Frac", c.n, "halves")
		// A little more, and a little less, than the half.
		bit := of(1, 1_000_000_000)
		checkNumber(t, round.Half(rat.Sub(x, bit)), library.NewInt(c.floor), "Half of a little less than", c.n, "halves")
		checkNumber(t, round.Half(rat.Add(x, bit)), library.NewInt(c.ceil), "Half of a little more than", c.n, "halves")
	}
}

// TestLongHalves takes halves whose whole numbers have many limbs: evenness is told by the first one, at either side of 0.
func TestLongHalves(t *testing.T) {
	for _, bits := range []uint{31, 32, 33, 64, 95, 96, 320} {
		for _, more := range []int64{-3, -2, -1, 0, 1, 2, 3} {
			n := new(library.Int).Lsh(library.NewInt(1), bits)
			n.Add(n, library.NewInt(more))
			even := new(library.Int).Add(n, library.NewInt(int64(n.Bit(0))))
			x := new(library.Rat).Add(new(library.Rat).SetInt(n), library.NewRat(1, 2))
			checkNumber(t, round.Half(fraction(x)), even, "Half", x)
			checkNumber(t, round.Half(fraction(negOf(x))), even.Neg(even), "Half", negOf(x))
		}
	}
}

func TestWholeOnes(t *testing.T) {
	for _, n := range []int64{0, 1, -1, 2, -2, 100, -100, top, -top, top + 1, math.MaxInt64, math.MinInt64} {
		x := of(n, 1)
		for _, f := range []func(rat.Rat) big.Int{round.Floor, round.Ceil, round.Trunc, round.Half} {
			checkNumber(t, f(x), library.NewInt(n), "a whole number", n)
		}
		checkFraction(t, round.Frac(x), new(library.Rat), "Frac", n)
	}
}

func TestIsWhole(t *testing.T) {
	all := []rat.Rat{}
	for _, x := range append(fractions(), zeros()...) {
		if got := round.IsWhole(x); got != value(x).IsInt() {
			t.Errorf("IsWhole(%v): %v", value(x), got)
		}
		if value(x).IsInt() {
			all = append(all, x)
		}
	}
	if !round.IsWhole() || !round.IsWhole([]rat.Rat{}...) || !round.IsWhole(all[:0]...) {
		t.Error("not all of none are whole")
	}
	if !round.IsWhole(all...) || round.IsWhole(append(all, of(1, 2))...) || round.IsWhole(append([]rat.Rat{of(-1, 3)}, all...)...) {
		t.Errorf("rows of %d whole numbers", len(all))
	}
	half := len(all) / 2
	for _, w := range append(wrong(), of(7, 2)) {
		if round.IsWhole(w) || round.IsWhole(append(slices.Clone(all), w)...) || round.IsWhole(slices.Insert(slices.Clone(all), half, w)...) || round.IsWhole(w, all[0]) {
			t.Errorf("IsWhole of a row with %v", w)
		}
	}
}

// P5.2

func TestCents(t *testing.T) {
	hundred := library.NewRat(100, 1)
	for _, x := range append(fractions(), zeros()...) {
		v := value(x)
		checkNumber(t, round.Cents(x), halfOf(new(library.Rat).Mul(v, hundred)), "Cents", v)
	}
	for _, c := range []struct{ n, d, want int64 }{
		{1, 200, 0}, {-1, 200, 0}, {3, 200, 2}, {-3, 200, -2}, {5, 200, 2}, {7, 200, 4}, {-7, 200, -4}, {1001, 200_000, 1}, {999, 200_000, 0}, {-1001, 200_000, -1},
		{1, 3, 33}, {2, 3, 67}, {-2, 3, -67}, {12345, 100, 12345}, {-1, 100, -1}, {7, 1, 700},
	} {
		checkNumber(t, round.Cents(of(c.n, c.d)), library.NewInt(c.want), "Cents", c.n, c.d)
	}
}

func TestNumbersAsFractions(t *testing.T) {
	l := []*library.Int{}
	for n := int64(-250); n <= 250; n++ {
		l = append(l, library.NewInt(n))
	}
	for _, n := range []int64{top, -top, top + 1, math.MaxInt64, math.MinInt64} {
		l = append(l, library.NewInt(n))
	}
	r := rand.New(rand.NewPCG(53, 54))
	for range 200 {
		n := someNumber(r)
		l = append(l, n, new(library.Int).Neg(n), new(library.Int).Mul(n, library.NewInt(100)), new(library.Int).Mul(n, library.NewInt(-20)))
	}
	for _, n := range l {
		checkFraction(t, round.Whole(number(n)), new(library.Rat).SetInt(n), "Whole", n)
		checkFraction(t, round.FromCents(number(n)), new(library.Rat).SetFrac(n, library.NewInt(100)), "FromCents", n)
	}
}

// P5.3

func TestPlaces(t *testing.T) {
	l := append(small(), long()[:40]...)
	for _, n := range []int{0, 1, 2, 3, 9, 10, 19, 20, api.MaxDigits - 1, api.MaxDigits} {
		for _, x := range l {
			got, e := round.Places(x, n)
			checkNumber(t, got, placesOf(value(x), n), "Places", value(x), n)
			if e != api.OK {
				t.Fatalf("Places(%v, %d): error %d", value(x), n, e)
			}
		}
	}
}

func TestPlacesThatMayNotBe(t *testing.T) {
	for _, x := range []rat.Rat{of(7, 2), of(0, 1), of(-3, 1), {}, {Num: mag(1)}, {Num: mag(4), Den: mag(2)}} {
		for n, want := range map[int]api.Errno{-1: api.ErrArg, -2: api.ErrArg, -api.MaxDigits: api.ErrArg, math.MinInt: api.ErrArg, api.MaxDigits + 1: api.ErrLimit, 1000: api.ErrLimit, math.MaxInt: api.ErrLimit} {
			got, e := round.Places(x, n)
			if e != want || got.Neg || got.Mag != nil {
				t.Errorf("Places(%v, %d): %v, error %d", x, n, got, e)
			}
		}
	}
}

// What is not right counts as 0, wherever it is handed in.

func TestWrongCountsAs0(t *testing.T) {
	zero := new(library.Int)
	for _, w := range wrong() {
		for _, f := range []func(rat.Rat) big.Int{round.Floor, round.Ceil, round.Trunc, round.Half, round.Cents} {
			checkNumber(t, f(w), zero, "what is not right", w)
		}
		checkFraction(t, round.Frac(w), new(library.Rat), "Frac", w)
		for _, n := range []int{0, 1, api.MaxDigits} {
			got, e := round.Places(w, n)
			checkNumber(t, got, zero, "Places", w, n)
			if e != api.OK {
				t.Errorf("Places(%v, %d): error %d", w, n, e)
			}
		}
	}
	for _, n := range wrongNumbers() {
		checkFraction(t, round.Whole(n), new(library.Rat), "Whole", n)
		checkFraction(t, round.FromCents(n), new(library.Rat), "FromCents", n)
	}
}

// The chapter's own examples.

func TestExamples(t *testing.T) {
	x := of(-7, 2)
	for i, c := range []struct {
		got  big.Int
		want int64
	}{
		{round.Floor(x), -4}, {round.Ceil(x), -3}, {round.Trunc(x), -3}, {round.Half(x), -4},
		{round.Half(of(5, 2)), 2}, {round.Half(of(7, 2)), 4}, {round.Half(of(8, 3)), 3},
		{round.Cents(of(1, 3)), 33}, {round.Cents(of(1, 200)), 0}, {round.Cents(of(3, 200)), 2},
	} {
		checkNumber(t, c.got, library.NewInt(c.want), "example", i)
	}
	checkFraction(t, round.Frac(x), library.NewRat(1, 2), "Frac")
	checkFraction(t, round.FromCents(big.Of(-150)), library.NewRat(-3, 2), "FromCents")
	n, e := round.Places(of(2, 3), 3)
	checkNumber(t, n, library.NewInt(667), "Places")
	if e != api.OK {
		t.Errorf("Places(2/3, 3): error %d", e)
	}
	if n, e := round.Places(of(1, 1), -1); e != api.ErrArg {
		t.Errorf("Places(1, -1): %v, %d", n, e)
	}
}
