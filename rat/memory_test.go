package rat_test

import (
	"slices"
	"testing"

	"tallage/big"
	"tallage/rat"
)

// P4.5

// answers are those of all calls that answer fractions, errors' ones among them.
func answers(a, b rat.Rat) []rat.Rat {
	p, _ := rat.New(a.Num, b.Den)
	q, _ := rat.New(a.Num, big.Of(1))
	r, _ := rat.New(b.Den, a.Num)
	s, _ := rat.New(a.Num, big.Int{})
	one := rat.Whole(1)
	u, _ := rat.Div(a, b)
	v, _ := rat.Div(a, one)
	w, _ := rat.Div(one, a)
	x, _ := rat.Div(a, rat.Rat{})
	y, _ := rat.Div(a, rat.Whole(-1))
	z, _ := rat.Of(1, -2)
	l := []rat.Rat{p, q, r, s, u, v, w, x, y, z, one, rat.Whole(0), rat.Whole(-1 << 63),
		rat.Add(a, b), rat.Add(a, rat.Rat{}), rat.Add(rat.Whole(0), a), rat.Sub(a, b), rat.Sub(a, rat.Whole(0)), rat.Sub(rat.Rat{}, a), rat.Sub(a, a),
		rat.Mul(a, b), rat.Mul(a, one), rat.Mul(one, a), rat.Mul(a, rat.Whole(0)), rat.Neg(a), rat.Neg(rat.Rat{}),
		rat.Sum(), rat.Sum(a), rat.Sum(a, b), rat.Sum(a, b, a), rat.Sum(rat.Rat{}, a), rat.Product(), rat.Product(a), rat.Product(a, b), rat.Product(one, a, one),
		rat.Min(a), rat.Min(a, b), rat.Min(a, a), rat.Min(b, a, b), rat.Max(a), rat.Max(a, b), rat.Max(a, a), rat.Max(b, a, b)}
	rat.Right(a)
	rat.Cmp(a, b)
	rat.Sign(a)
	rat.Same(a, b)
	return l
}

// within lays a's rows into the midst of other memory.
func within(a rat.Rat) (memory []uint32, x rat.Rat) {
	memory = append(append([]uint32{11, 12}, a.Num.Mag...), 0, 13)
	den := len(memory)
	memory = append(append(memory, a.Den.Mag...), 0, 14, 15)
	x.Num = big.Int{Neg: a.Num.Neg, Mag: memory[2 : 2+len(a.Num.Mag)]}
	x.Den = big.Int{Neg: a.Den.Neg, Mag: memory[den : den+len(a.Den.Mag)]}
	return memory, x
}

func copies(l []rat.Rat) []rat.Rat {
	c := make([]rat.Rat, len(l))
	for i, x := range l {
		c[i].Num = big.Int{Neg: x.Num.Neg, Mag: slices.Clone(x.Num.Mag)}
		c[i].Den = big.Int{Neg: x.Den.Neg, Mag: slices.Clone(x.Den.Mag)}
	}
	return c
}

// spoil writes over a row, and all the memory that it could grow into.
func spoil(a []uint32) {
	a = a[:cap(a)]
	for i := range a {
		a[i] ^= 0xA5A5A5A5
	}
}

func TestMemory(t *testing.T) {
	l := append(zeros(), of(1, 1), of(-1, 1), of(1, 2), of(-3, 2), of(1<<62, 3), of(-7, 1<<40), long()[0], long()[1])
	l = append(l, wrong()...)
	for _, a := range l {
		for _, b := range l {
			checkMemory(t, a, b)
		}
	}
}

func checkMemory(t *testing.T, a, b rat.Rat) {
	t.Helper()
	inA, xA := within(a)
	inB, xB := within(b)
	wasA, wasB := slices.Clone(inA), slices.Clone(inB)
	unchanged := func(what string) {
		t.Helper()
		if !slices.Equal(inA, wasA) || !slices.Equal(inB, wasB) {
			t.Fatalf("%v, %v: %s changed what was handed in: %v, %v", a, b, what, inA, inB)
		}
	}
	first, second := answers(xA, xB), answers(xA, xB)
	unchanged("a call")
	want := copies(first)
	for i, x := range first {
		spoil(x.Num.Mag)
		if !slices.Equal(x.Den.Mag, want[i].Den.Mag) {
			t.Fatalf("%v, %v: answer %d shares memory within itself", a, b, i)
		}
		spoil(x.Den.Mag)
		unchanged("a write to an answer")
		for j := i + 1; j < len(first); j++ {
			if !alike(first[j], want[j]) {
				t.Fatalf("%v, %v: answers %d and %d share memory", a, b, i, j)
			}
		}
	}
	for i := range inA {
		inA[i] = 99
	}
	for i := range inB {
		inB[i] = 99
	}
	if !slices.EqualFunc(second, want, alike) {
		t.Fatalf("%v, %v: answers hang on memory of others", a, b)
	}
	if third := answers(a, b); !slices.EqualFunc(third, want, alike) {
		t.Fatalf("%v, %v: the same calls answer other fractions later", a, b)
	}
}

func TestListIsKept(t *testing.T) {
	list := []rat.Rat{of(6, 5), {Num: mag(4), Den: mag(6)}, of(-1, 3), of(9, 2)}
	was := slices.Clone(list)
	row := list[:3]
	for range 2 {
		rat.Sum(row...)
		rat.Product(row...)
		rat.Min(list[0], row...)
		rat.Max(list[2], row...)
	}
	for i := range list {
		if !alike(list[i], was[i]) || &list[i].Den.Mag[0] != &was[i].Den.Mag[0] || &list[i].Num.Mag[0] != &was[i].Num.Mag[0] {
			t.Errorf("the list is now %v", list)
		}
	}
}
