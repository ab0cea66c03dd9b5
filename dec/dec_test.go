package dec_test

import (
	"encoding/binary"
	"math"
	library "math/big"
	"math/rand/v2"
	"slices"
	"testing"

	"tallage/api"
	"tallage/big"
	"tallage/dec"
	"tallage/rat"
)

const top = math.MaxUint32

// whole is what n counts, told by the library's own numbers; n must be right.
func whole(n big.Int) *library.Int {
	var b []byte
	for i := len(n.Mag) - 1; i >= 0; i-- {
		b = binary.BigEndian.AppendUint32(b, n.Mag[i])
	}
	v := new(library.Int).SetBytes(b)
	if n.Neg {
		v.Neg(v)
	}
	return v
}

// number is the right one that counts v.
func number(v *library.Int) big.Int {
	b := v.FillBytes(make([]byte, (v.BitLen()+31)/32*4))
	n := big.Int{Neg: v.Sign() < 0}
	for ; len(b) > 0; b = b[:len(b)-4] {
		n.Mag = append(n.Mag, binary.BigEndian.Uint32(b[len(b)-4:]))
	}
	return n
}

func value(x rat.Rat) *library.Rat {
	return new(library.Rat).SetFrac(whole(x.Num), whole(x.Den))
}

// fraction is the right one that counts v: the library's own fractions are in lowest terms, too.
func fraction(v *library.Rat) rat.Rat {
	return rat.Rat{Num: number(v.Num()), Den: number(v.Denom())}
}

func of(n, d int64) rat.Rat { return fraction(library.NewRat(n, d)) }

// alike holds two fractions against each other limb by limb, so that what is not right is like nothing that is.
func alike(a, b rat.Rat) bool {
	return a.Num.Neg == b.Num.Neg && a.Den.Neg == b.Den.Neg && slices.Equal(a.Num.Mag, b.Num.Mag) && slices.Equal(a.Den.Mag, b.Den.Mag)
}

func isZeroValue(x rat.Rat) bool {
	return !x.Num.Neg && !x.Den.Neg && x.Num.Mag == nil && x.Den.Mag == nil
}

func negOf(v *library.Rat) *library.Rat { return new(library.Rat).Neg(v) }

// tensOf is 10 to the n.
func tensOf(n int) *library.Int {
	return new(library.Int).Exp(library.NewInt(10), library.NewInt(int64(n)), nil)
}

// nearest is the decimal of so many places that is nearest to v, by the distances to those on both sides.
func nearest(v *library.Rat, places int) *library.Rat {
	ten := tensOf(places)
	scaled := new(library.Rat).Mul(v, new(library.Rat).SetInt(ten))
	low := new(library.Int).Div(scaled.Num(), scaled.Denom())
	high := new(library.Int).Add(low, library.NewInt(1))
	below := new(library.Rat).Sub(scaled, new(library.Rat).SetInt(low))
	above := new(library.Rat).Sub(new(library.Rat).SetInt(high), scaled)
	c := below.Cmp(above)
	if c < 0 || c == 0 && low.Bit(0) == 0 {
		return new(library.Rat).SetFrac(low, ten)
	}
	return new(library.Rat).SetFrac(high, ten)
}

// written is v with so many places; the library writes what needs no rounding.
func written(v *library.Rat, places int) string { return nearest(v, places).FloatString(places) }

// small are fractions of short numbers, whole ones, tenths and hundredths among them, and what lies midway between two of those, each about the bounds of limbs and of 64 bits, too.
func small() []rat.Rat {
	l := []rat.Rat{}
	for _, d := range []int64{1, 2, 3, 7, 8, 20, 200, 2000, 20_000} {
		for n := int64(-25); n <= 25; n++ {
			l = append(l, of(n, d), of(100*d+n, d))
		}
	}
	for _, d := range []int64{1, 2, 3, 200, 2_000_000, top, top + 1, math.MaxInt64} {
		for _, n := range []int64{5, -5, 99, -101, top, -top, top + 2, -top - 1, math.MaxInt64, math.MinInt64} {
			l = append(l, of(n, d))
		}
	}
	return l
}

// long are fractions of numbers of up to 12 limbs, the same ones each time.
func long() []rat.Rat {
	r := rand.New(rand.NewPCG(61, 62))
	l := []rat.Rat{}
	for range 60 {
		n, d := someNumber(r), someNumber(r)
		if r.IntN(2) == 0 {
			n.Neg(n)
		}
		l = append(l, fraction(new(library.Rat).SetFrac(n, d)))
	}
	return l
}

// someNumber is above 0; many of its limbs are at the bounds.
func someNumber(r *rand.Rand) *library.Int {
	n := big.Int{Mag: make([]uint32, r.IntN(12))}
	for i := range n.Mag {
		switch r.IntN(5) {
		case 0:
		case 1:
			n.Mag[i] = top
		default:
			n.Mag[i] = r.Uint32()
		}
	}
	return whole(big.Int{Mag: append(n.Mag, 1+r.Uint32N(top))})
}

func fractions() []rat.Rat { return append(small(), long()...) }

func mag(limbs ...uint32) big.Int { return big.Int{Mag: limbs} }

func less(limbs ...uint32) big.Int { return big.Int{Neg: true, Mag: limbs} }

// wrong are fractions that are not right, many of which would be shares, or amounts.
func wrong() []rat.Rat {
	l := []rat.Rat{
		{}, {Num: mag(1)}, {Num: less(5)}, {Num: mag(7), Den: less(8)}, {Num: less(7), Den: less(8)}, {Num: mag(5), Den: less(1)},
		{Den: mag(2)}, {Den: less(1)}, {Num: mag(2), Den: mag(4)}, {Num: less(2), Den: mag(4)}, {Num: mag(14), Den: mag(4)}, {Num: mag(0, 0, 1), Den: mag(1 << 31)}, {Num: mag(100), Den: mag(100)},
	}
	for _, n := range []big.Int{less(), mag(0), less(0), mag(5, 0), less(5, 0), mag(0, 0, 0), mag(top, top, 0, 0)} {
		l = append(l, rat.Rat{Num: n, Den: mag(1)}, rat.Rat{Num: n, Den: mag(8)}, rat.Rat{Num: mag(7), Den: n}, rat.Rat{Num: n, Den: n})
	}
	return l
}

// zeros are the right ways to hand in 0.
func zeros() []rat.Rat {
	return []rat.Rat{{Den: mag(1)}, {Num: mag(), Den: mag(1)}, {Num: big.Int{Mag: []uint32{7, 8}[:0]}, Den: mag(1)}}
}

// The chapter's own examples.

func TestExamples(t *testing.T) {
	for i, c := range []struct {
		call func(string) (rat.Rat, api.Errno)
		text string
		want rat.Rat
		e    api.Errno
	}{
		{dec.Parse, "-12.50", of(-25, 2), api.OK}, {dec.Amount, "0.05", of(1, 20), api.OK}, {dec.Amount, "1.005", rat.Rat{}, api.ErrNumber},
		{dec.Share, "37.5%", of(3, 8), api.OK}, {dec.Share, "100%", of(1, 1), api.OK}, {dec.Share, "100.1%", rat.Rat{}, api.ErrNumber}, {dec.Share, "5", rat.Rat{}, api.ErrNumber},
	} {
		if got, e := c.call(c.text); !alike(got, c.want) || e != c.e {
			t.Errorf("example %d, %s: %v, %d", i, c.text, got, e)
		}
	}
	for i, c := range []struct{ got, want string }{
		{dec.Money(of(1, 8)), "0.12"}, {dec.Money(of(3, 8)), "0.38"}, {dec.Money(of(-1, 1000)), "0.00"}, {dec.Put(of(7, 2), 0), "4"},
		{dec.PutShare(of(3, 8)), "37.5%"}, {dec.PutShare(of(1, 3)), ""},
	} {
		if c.got != c.want {
			t.Errorf("example %d: %s, want %s", i, c.got, c.want)
		}
	}
}
