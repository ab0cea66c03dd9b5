package big_test

import (
	"encoding/binary"
	"math"
	library "math/big"
	"math/rand/v2"
	"slices"
	"testing"

	"tallage/api"
	"tallage/big"
)

const top = math.MaxUint32

// value is what x counts, told by the library's own numbers; x must be right.
func value(x big.Int) *library.Int {
	var b []byte
	for i := len(x.Mag) - 1; i >= 0; i-- {
		b = binary.BigEndian.AppendUint32(b, x.Mag[i])
	}
	v := new(library.Int).SetBytes(b)
	if x.Neg {
		v.Neg(v)
	}
	return v
}

// number is the right one that counts v.
func number(v *library.Int) big.Int {
	b := v.FillBytes(make([]byte, (v.BitLen()+31)/32*4))
	x := big.Int{Neg: v.Sign() < 0}
	for ; len(b) > 0; b = b[:len(b)-4] {
		x.Mag = append(x.Mag, binary.BigEndian.Uint32(b[len(b)-4:]))
	}
	return x
}

// isRight tells it without the package's own word for it.
func isRight(x big.Int) bool {
	if len(x.Mag) == 0 {
		return !x.Neg
	}
	return x.Mag[len(x.Mag)-1] != 0
}

func same(a, b big.Int) bool { return a.Neg == b.Neg && slices.Equal(a.Mag, b.Mag) }

// check holds an answer against the number that it must be, and asks whether it is right.
func check(t *testing.T, got big.Int, want *library.Int, what string, args ...any) {
	t.Helper()
	if !isRight(got) {
		t.Fatalf("%s of %v: %v is not right", what, args, got)
	}
	if value(got).Cmp(want) != 0 {
		t.Fatalf("%s of %v: %v, want %v", what, args, got, want)
	}
}

// nothing asks whether an answer is the zero value.
func nothing(t *testing.T, got big.Int, what string, args ...any) {
	t.Helper()
	if got.Neg || got.Mag != nil {
		t.Fatalf("%s of %v: %v beside an error", what, args, got)
	}
}

// small are numbers about 0 and about the bounds of limbs and of 64 bits, of either sign.
func small() []big.Int {
	l := []big.Int{{}}
	for _, bit := range []uint{0, 1, 2, 3, 8, 31, 32, 33, 62, 63, 64, 65, 95, 96, 128} {
		for _, add := range []int64{-2, -1, 0, 1, 2} {
			v := new(library.Int).Lsh(library.NewInt(1), bit)
			v.Add(v, library.NewInt(add))
			l = append(l, number(v), number(v.Neg(v)))
		}
	}
	for _, n := range []int64{6, 10, 12, 18, 30, 99, 1_000_000_000} {
		l = append(l, number(library.NewInt(n)), number(library.NewInt(-n)))
	}
	return l
}

// long are numbers of up to 40 limbs, the same ones each time; many limbs are at the bounds.
func long() []big.Int {
	r := rand.New(rand.NewPCG(21, 22))
	l := make([]big.Int, 60)
	for i := range l {
		l[i] = someNumber(r, r.IntN(41))
	}
	return l
}

func someNumber(r *rand.Rand, limbs int) big.Int {
	x := big.Int{Mag: make([]uint32, limbs)}
	if limbs == 0 {
		return x
	}
	for i := range x.Mag {
		switch r.IntN(6) {
		case 0:
		case 1:
			x.Mag[i] = top
		case 2:
			x.Mag[i] = 1 << 31
		default:
			x.Mag[i] = r.Uint32()
		}
	}
	x.Mag[limbs-1] |= 1
	x.Neg = r.IntN(2) == 0
	return x
}

// pairs calls f for each two numbers.
func pairs(f func(a, b big.Int)) {
	for _, l := range [][]big.Int{small(), long()} {
		for _, a := range l {
			for _, b := range l {
				f(a, b)
			}
		}
	}
}

// wrong are numbers that are not right.
func wrong() []big.Int {
	return []big.Int{
		{Neg: true}, {Neg: true, Mag: []uint32{}}, {Mag: []uint32{0}}, {Neg: true, Mag: []uint32{0}},
		{Mag: []uint32{0, 0}}, {Mag: []uint32{5, 0}}, {Neg: true, Mag: []uint32{5, 0}},
		{Mag: []uint32{top, top, 0, 0}}, {Neg: true, Mag: []uint32{0, 1, 0}}, {Neg: true, Mag: append(slices.Repeat([]uint32{7}, 3000), 0)},
	}
}

// zeros are the right ways to hand in 0.
func zeros() []big.Int { return []big.Int{{}, {Mag: []uint32{}}, {Mag: []uint32{1, 2}[:0]}} }

// P3.1

func TestRight(t *testing.T) {
	for _, x := range append(append(small(), long()...), zeros()...) {
		if !big.Right(x) {
			t.Errorf("%v is not right", x)
		}
	}
	for _, x := range []big.Int{{Mag: []uint32{0, 1}}, {Neg: true, Mag: []uint32{1}}, {Neg: true, Mag: []uint32{0, 0, top}}} {
		if !big.Right(x) {
			t.Errorf("%v is not right", x)
		}
	}
	for _, x := range wrong() {
		if big.Right(x) {
			t.Errorf("%v is right", x)
		}
	}
}

// words are numbers about all bounds of int64.
func words() []int64 {
	l := []int64{0, math.MaxInt64, math.MinInt64, math.MinInt64 + 1}
	for bit := range 63 {
		for add := range int64(3) {
			n := int64(1)<<bit + add - 1
			l = append(l, n, -n)
		}
	}
	return l
}

func TestOf(t *testing.T) {
	for _, n := range words() {
		check(t, big.Of(n), library.NewInt(n), "Of", n)
		if got, ok := big.Int64(big.Of(n)); got != n || !ok {
			t.Errorf("Int64(Of(%d)): %d, %v", n, got, ok)
		}
	}
	if x := big.Of(0); x.Neg || x.Mag != nil {
		t.Errorf("Of(0): %v", x)
	}
}

func TestInt64(t *testing.T) {
	for _, x := range append(small(), long()...) {
		v := value(x)
		want := int64(0)
		if v.IsInt64() {
			want = v.Int64()
		}
		if got, ok := big.Int64(x); got != want || ok != v.IsInt64() {
			t.Errorf("Int64(%v): %d, %v", v, got, ok)
		}
	}
	for _, x := range []struct {
		x    big.Int
		want int64
		ok   bool
	}{
		{big.Int{Mag: []uint32{top, 1<<31 - 1}}, math.MaxInt64, true},
		{big.Int{Mag: []uint32{0, 1 << 31}}, 0, false},
		{big.Int{Mag: []uint32{top, top}}, 0, false},
		{big.Int{Mag: []uint32{0, 0, 1}}, 0, false},
		{big.Int{Neg: true, Mag: []uint32{top, 1<<31 - 1}}, -math.MaxInt64, true},
		{big.Int{Neg: true, Mag: []uint32{0, 1 << 31}}, math.MinInt64, true},
		{big.Int{Neg: true, Mag: []uint32{1, 1 << 31}}, 0, false},
		{big.Int{Neg: true, Mag: []uint32{top, top}}, 0, false},
		{big.Int{Neg: true, Mag: []uint32{0, 0, 1}}, 0, false},
		{big.Int{Mag: slices.Repeat([]uint32{1}, 3000)}, 0, false},
	} {
		if got, ok := big.Int64(x.x); got != x.want || ok != x.ok {
			t.Errorf("Int64(%v): %d, %v", value(x.x), got, ok)
		}
	}
	for _, x := range append(wrong(), zeros()...) {
		if got, ok := big.Int64(x); got != 0 || !ok {
			t.Errorf("Int64(%v): %d, %v", x, got, ok)
		}
	}
}

func TestCmp(t *testing.T) {
	pairs(func(a, b big.Int) {
		if got, want := big.Cmp(a, b), value(a).Cmp(value(b)); got != want {
			t.Fatalf("Cmp(%v, %v): %d, want %d", value(a), value(b), got, want)
		}
	})
}

func TestSides(t *testing.T) {
	for _, x := range append(append(small(), long()...), zeros()...) {
		v := value(x)
		if got, want := big.Sign(x), v.Sign(); got != want {
			t.Fatalf("Sign(%v): %d, want %d", v, got, want)
		}
		check(t, big.Neg(x), new(library.Int).Neg(v), "Neg", v)
		check(t, big.Abs(x), new(library.Int).Abs(v), "Abs", v)
	}
}

// P3.2

func TestAdd(t *testing.T) {
	pairs(func(a, b big.Int) {
		check(t, big.Add(a, b), new(library.Int).Add(value(a), value(b)), "Add", a, b)
	})
}

func TestSub(t *testing.T) {
	pairs(func(a, b big.Int) {
		check(t, big.Sub(a, b), new(library.Int).Sub(value(a), value(b)), "Sub", a, b)
	})
}

func TestMul(t *testing.T) {
	pairs(func(a, b big.Int) {
		check(t, big.Mul(a, b), new(library.Int).Mul(value(a), value(b)), "Mul", a, b)
	})
}

func TestSum(t *testing.T) {
	check(t, big.Sum(), new(library.Int), "Sum")
	check(t, big.Sum([]big.Int{}...), new(library.Int), "Sum")
	check(t, big.Sum(zeros()...), new(library.Int), "Sum", "noughts")
	for _, x := range append(small(), long()...) {
		check(t, big.Sum(x), value(x), "Sum", x)
		check(t, big.Sum(x, big.Neg(x)), new(library.Int), "Sum", x, "and its other side")
		check(t, big.Sum(x, big.Int{}, x, big.Neg(x)), value(x), "Sum", x)
	}
	want := new(library.Int)
	l := append(small(), long()...)
	for i, x := range l {
		want.Add(want, value(x))
		check(t, big.Sum(l[:i+1]...), want, "Sum of many", i+1)
	}
}

func TestSumOfMany(t *testing.T) {
	l := slices.Repeat([]big.Int{{Mag: []uint32{top}}, {Neg: true, Mag: []uint32{top, top}}, {}}, 1<<16)
	want := new(library.Int).Sub(library.NewInt(top), value(big.Int{Mag: []uint32{top, top}}))
	check(t, big.Sum(l...), want.Lsh(want, 16), "Sum", "many numbers")
	l = slices.Repeat([]big.Int{{Neg: true, Mag: []uint32{top}}}, 1<<16)
	check(t, big.Sum(l...), new(library.Int).Lsh(library.NewInt(-top), 16), "Sum", "many numbers below 0")
}

// P3.3

func TestDivMod(t *testing.T) {
	pairs(func(a, b big.Int) {
		if value(b).Sign() == 0 {
			return
		}
		q, r, e := big.DivMod(a, b)
		wantQ, wantR := floor(value(a), value(b))
		check(t, q, wantQ, "DivMod's quotient", a, b)
		check(t, r, wantR, "DivMod's rest", a, b)
		if e != api.OK {
			t.Fatalf("DivMod(%v, %v): error %d", a, b, e)
		}
	})
}

// floor mends the library's division, which cuts towards 0.
func floor(a, b *library.Int) (q, r *library.Int) {
	q, r = new(library.Int).QuoRem(a, b, new(library.Int))
	if r.Sign() != 0 && r.Sign() != b.Sign() {
		q.Sub(q, library.NewInt(1))
		r.Add(r, b)
	}
	return q, r
}

// TestFloor tries one by one which quotient the words ask for.
func TestFloor(t *testing.T) {
	for a := int64(-40); a <= 40; a++ {
		for b := int64(-15); b <= 15; b++ {
			if b == 0 {
				continue
			}
			want := int64(1000)
			for b > 0 && want*b > a || b < 0 && want*b < a {
				want--
			}
			q, r, e := big.DivMod(big.Of(a), big.Of(b))
			if !same(q, big.Of(want)) || !same(r, big.Of(a-want*b)) || e != api.OK {
				t.Errorf("DivMod(%d, %d): %v, %v, %d; want %d, %d left", a, b, q, r, e, want, a-want*b)
			}
		}
	}
}

func TestDivModByNothing(t *testing.T) {
	for _, a := range append(small(), wrong()...) {
		for _, b := range append(zeros(), wrong()...) {
			q, r, e := big.DivMod(a, b)
			nothing(t, q, "DivMod", a, b)
			nothing(t, r, "DivMod", a, b)
			if e != api.ErrDivide {
				t.Fatalf("DivMod(%v, %v): error %d", a, b, e)
			}
		}
	}
}

func TestGcd(t *testing.T) {
	pairs(func(a, b big.Int) {
		want := new(library.Int).GCD(nil, nil, new(library.Int).Abs(value(a)), new(library.Int).Abs(value(b)))
		check(t, big.Gcd(a, b), want, "Gcd", a, b)
	})
	for _, a := range zeros() {
		for _, b := range zeros() {
			check(t, big.Gcd(a, b), new(library.Int), "Gcd", "noughts")
		}
	}
}

// What is not right counts as 0, wherever it is handed in.

func TestWrongCountsAs0(t *testing.T) {
	none := big.Int{}
	for _, w := range wrong() {
		if big.Sign(w) != 0 || big.Put(w) != "0" {
			t.Errorf("%v: sign %d, text %s", w, big.Sign(w), big.Put(w))
		}
		check(t, big.Neg(w), new(library.Int), "Neg", w)
		check(t, big.Abs(w), new(library.Int), "Abs", w)
		check(t, big.Sum(w), new(library.Int), "Sum", w)
		check(t, big.Sum(w, big.Of(3), w, big.Of(-5), w), library.NewInt(-2), "Sum", w)
		for _, u := range append(wrong(), small()...) {
			x := u
			if !isRight(u) {
				x = none
			}
			checkAlike(t, w, u, none, x)
			checkAlike(t, u, w, x, none)
		}
	}
}

// checkAlike asks whether all calls of two answer for a, b what they answer for c, d.
func checkAlike(t *testing.T, a, b, c, d big.Int) {
	t.Helper()
	if big.Cmp(a, b) != big.Cmp(c, d) {
		t.Fatalf("Cmp(%v, %v): %d, want %d", a, b, big.Cmp(a, b), big.Cmp(c, d))
	}
	q, r, e := big.DivMod(a, b)
	wantQ, wantR, wantE := big.DivMod(c, d)
	if !same(q, wantQ) || !same(r, wantR) || e != wantE {
		t.Fatalf("DivMod(%v, %v): %v, %v, %d", a, b, q, r, e)
	}
	for i, f := range []func(a, b big.Int) big.Int{big.Add, big.Sub, big.Mul, big.Gcd} {
		if got, want := f(a, b), f(c, d); !same(got, want) {
			t.Fatalf("call %d of %v, %v: %v, want %v", i, a, b, got, want)
		}
	}
}

// The chapter's own examples.

func TestExamples(t *testing.T) {
	for _, x := range []struct{ a, b, q, r int64 }{{-7, 2, -4, 1}, {7, -2, -4, -1}, {-7, -2, 3, -1}, {7, 2, 3, 1}} {
		if q, r, e := big.DivMod(big.Of(x.a), big.Of(x.b)); !same(q, big.Of(x.q)) || !same(r, big.Of(x.r)) || e != api.OK {
			t.Errorf("DivMod(%d, %d): %v, %v, %d", x.a, x.b, q, r, e)
		}
	}
	if g := big.Gcd(big.Of(-12), big.Of(18)); !same(g, big.Of(6)) {
		t.Errorf("Gcd(-12, 18): %v", g)
	}
	if g := big.Gcd(big.Int{}, big.Of(-5)); !same(g, big.Of(5)) {
		t.Errorf("Gcd(0, -5): %v", g)
	}
	p := big.Mul(big.Of(-4294967296), big.Of(4294967296))
	if got := big.Put(p); got != "-18446744073709551616" {
		t.Errorf("Put: %s", got)
	}
	if got, ok := big.Int64(p); got != 0 || ok {
		t.Errorf("Int64: %d, %v", got, ok)
	}
}
