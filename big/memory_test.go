package big_test

import (
	"math/rand/v2"
	"slices"
	"testing"

	"tallage/api"
	"tallage/big"
)

// P3.5

// answers are those of all calls that answer numbers, errors' ones among them.
func answers(a, b big.Int) []big.Int {
	q, r, _ := big.DivMod(a, b)
	u, v, _ := big.DivMod(b, a)
	once, whole, _ := big.DivMod(a, big.Of(1))
	back, turned, _ := big.DivMod(a, big.Of(-1))
	never, left, _ := big.DivMod(a, big.Int{})
	l := []big.Int{q, r, u, v, once, whole, back, turned, never, left,
		big.Neg(a), big.Abs(a), big.Add(a, b), big.Add(a, big.Int{}), big.Add(big.Int{}, a),
		big.Sub(a, b), big.Sub(b, a), big.Sub(a, a), big.Sub(a, big.Int{}), big.Sub(big.Int{}, a),
		big.Mul(a, b), big.Mul(a, big.Of(1)), big.Mul(big.Of(-1), a), big.Mul(a, big.Int{}),
		big.Gcd(a, b), big.Gcd(a, a), big.Gcd(a, big.Int{}), big.Gcd(big.Int{}, a),
		big.Sum(), big.Sum(a), big.Sum(a, b), big.Sum(a, b, a), big.Sum(big.Int{}, a, big.Int{})}
	for _, n := range []int64{0, 1, -1, 1 << 40, -1 << 63} {
		l = append(l, big.Of(n))
	}
	for _, s := range []string{"", "0", "-0", "7", "-7", "-18446744073709551616"} {
		x, _ := big.Parse(s)
		l = append(l, x)
	}
	big.Right(a)
	big.Int64(a)
	big.Cmp(a, b)
	big.Sign(a)
	big.Put(a)
	return l
}

// within lays a's row into the midst of other memory.
func within(a big.Int) (memory []uint32, x big.Int) {
	memory = append(append([]uint32{11, 12}, a.Mag...), 0, 13, 14, 15)
	return memory, big.Int{Neg: a.Neg, Mag: memory[2 : 2+len(a.Mag)]}
}

func copies(l []big.Int) []big.Int {
	c := make([]big.Int, len(l))
	for i, x := range l {
		c[i] = big.Int{Neg: x.Neg, Mag: slices.Clone(x.Mag)}
	}
	return c
}

// spoil writes over a row, and all the memory that it could grow into.
func spoil(a []uint32) {
	a = a[:cap(a)]
	for i := range a {
		a[i] ^= 0xA5A5A5A5
	}
}

func TestMemory(t *testing.T) {
	l := []big.Int{{}, {Mag: []uint32{1}}, {Neg: true, Mag: []uint32{1}}, {Neg: true, Mag: []uint32{0, 1}}, {Mag: []uint32{top}}, {Neg: true, Mag: []uint32{top, top}},
		{Mag: []uint32{3, 4}}, {Neg: true, Mag: []uint32{1, 2, 3, 4, 5}}, {Mag: []uint32{0, 0, 0, 1 << 31}}, {Neg: true, Mag: slices.Repeat([]uint32{9}, 300)},
		{Neg: true}, {Mag: []uint32{5, 0}}, {Neg: true, Mag: []uint32{0, 7, 0}}}
	for _, a := range l {
		for _, b := range l {
			checkMemory(t, a, b)
		}
	}
}

func checkMemory(t *testing.T, a, b big.Int) {
	t.Helper()
	inA, xA := within(a)
	inB, xB := within(b)
	wasA, wasB := slices.Clone(inA), slices.Clone(inB)
	unchanged := func(what string) {
		t.Helper()
		if !slices.Equal(inA, wasA) || !slices.Equal(inB, wasB) {
			t.Fatalf("%v, %v: %s changed what was handed in: %v, %v", a, b, what, inA, inB)
		}
	}
	first, second := answers(xA, xB), answers(xA, xB)
	unchanged("a call")
	want := copies(first)
	for i := range first {
		if !isRight(first[i]) {
			t.Fatalf("%v, %v: answer %d is not right: %v", a, b, i, first[i])
		}
		spoil(first[i].Mag)
		unchanged("a write to an answer")
		for j := i + 1; j < len(first); j++ {
			if !same(first[j], want[j]) {
				t.Fatalf("%v, %v: answers %d and %d share memory", a, b, i, j)
			}
		}
	}
	for i := range inA {
		inA[i] = 99
	}
	for i := range inB {
		inB[i] = 99
	}
	if !slices.EqualFunc(second, want, same) {
		t.Fatalf("%v, %v: answers hang on memory of others", a, b)
	}
	if third := answers(a, b); !slices.EqualFunc(third, want, same) {
		t.Fatalf("%v, %v: the same calls answer other numbers later", a, b)
	}
}

func TestListIsKept(t *testing.T) {
	a, b := []uint32{6}, []uint32{4}
	list := []big.Int{{Mag: a}, {Neg: true}, {Neg: true, Mag: b}, {Mag: []uint32{9}}}
	big.Sum(list[:3]...)
	if len(list[0].Mag) != 1 || &list[0].Mag[0] != &a[0] || !list[1].Neg || list[1].Mag != nil || &list[2].Mag[0] != &b[0] || !list[2].Neg || !same(list[3], big.Of(9)) {
		t.Errorf("the list is now %v", list)
	}
}

// P3.6

func TestSumsHangOnNoOrder(t *testing.T) {
	pairs(func(a, b big.Int) {
		if !same(big.Add(a, b), big.Add(b, a)) || !same(big.Mul(a, b), big.Mul(b, a)) || !same(big.Sub(a, b), big.Neg(big.Sub(b, a))) {
			t.Fatalf("%v and %v hang on their order", a, b)
		}
	})
	l := long()[:12]
	sum, product := big.Sum(l...), productOf(l)
	r := rand.New(rand.NewPCG(23, 24))
	for range 50 {
		r.Shuffle(len(l), func(i, j int) { l[i], l[j] = l[j], l[i] })
		cut := r.IntN(len(l) + 1)
		if !same(big.Sum(l...), sum) || !same(big.Add(big.Sum(l[:cut]...), big.Sum(l[cut:]...)), sum) {
			t.Fatalf("the sum of %v hangs on its order", l)
		}
		if !same(productOf(l), product) || !same(big.Mul(productOf(l[:cut]), productOf(l[cut:])), product) {
			t.Fatalf("the product of %v hangs on its order", l)
		}
	}
}

func productOf(l []big.Int) big.Int {
	p := big.Of(1)
	for _, x := range l {
		p = big.Mul(p, x)
	}
	return p
}

func TestProductOfSums(t *testing.T) {
	l := append(long(), small()...)
	n := 0
	pairs(func(a, b big.Int) {
		n++
		c, d := l[n%len(l)], l[(7*n+3)%len(l)]
		whole := big.Mul(big.Add(a, b), big.Sub(c, d))
		parts := big.Sum(big.Mul(a, c), big.Mul(b, c), big.Neg(big.Mul(a, d)), big.Neg(big.Mul(b, d)))
		if !same(whole, parts) {
			t.Fatalf("(%v + %v) by (%v - %v): %v, in parts %v", a, b, c, d, whole, parts)
		}
	})
}

func TestDivisionIsWhole(t *testing.T) {
	pairs(func(a, b big.Int) {
		q, r, e := big.DivMod(a, b)
		if big.Sign(b) == 0 {
			return
		}
		if e != api.OK || !same(big.Add(big.Mul(q, b), r), a) {
			t.Fatalf("DivMod(%v, %v): %v, %v, %d", a, b, q, r, e)
		}
		if s := big.Sign(r); s != 0 && s != big.Sign(b) || big.Cmp(big.Abs(r), big.Abs(b)) >= 0 {
			t.Fatalf("DivMod(%v, %v): %v left", a, b, r)
		}
	})
}

func TestGcdGoesIntoBoth(t *testing.T) {
	pairs(func(a, b big.Int) {
		g := big.Gcd(a, b)
		if big.Sign(g) == 0 {
			if big.Sign(a) != 0 || big.Sign(b) != 0 {
				t.Fatalf("Gcd(%v, %v): 0", a, b)
			}
			return
		}
		u, restA, _ := big.DivMod(a, g)
		v, restB, _ := big.DivMod(b, g)
		if big.Sign(g) < 0 || big.Sign(restA) != 0 || big.Sign(restB) != 0 || !same(big.Gcd(u, v), big.Of(1)) {
			t.Fatalf("Gcd(%v, %v): %v", a, b, g)
		}
	})
}
