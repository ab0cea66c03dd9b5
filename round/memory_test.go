package round_test

import (
	"slices"
	"testing"

	"tallage/api"
	"tallage/big"
	"tallage/rat"
	"tallage/round"
)

// P5.4

// answers are the rows of limbs of all that the calls answer.
func answers(x rat.Rat) [][]uint32 {
	l := [][]uint32{}
	numbers := func(n ...big.Int) {
		for _, n := range n {
			l = append(l, n.Mag)
		}
	}
	numbers(round.Floor(x), round.Ceil(x), round.Trunc(x), round.Half(x), round.Cents(x))
	for _, n := range []int{0, 1, 2, api.MaxDigits, -1, api.MaxDigits + 1} {
		p, _ := round.Places(x, n)
		numbers(p)
	}
	for _, y := range []rat.Rat{round.Frac(x), round.FromCents(x.Num), round.FromCents(x.Den), round.Whole(x.Num), round.Whole(x.Den)} {
		numbers(y.Num, y.Den)
	}
	round.IsWhole(x, x)
	return l
}

// within lays x's rows into the midst of other memory.
func within(x rat.Rat) (memory []uint32, y rat.Rat) {
	memory = append(append([]uint32{11, 12}, x.Num.Mag...), 0, 13)
	den := len(memory)
	memory = append(append(memory, x.Den.Mag...), 0, 14, 15)
	y.Num = big.Int{Neg: x.Num.Neg, Mag: memory[2 : 2+len(x.Num.Mag)]}
	y.Den = big.Int{Neg: x.Den.Neg, Mag: memory[den : den+len(x.Den.Mag)]}
	return memory, y
}

// spoil writes over a row, and all the memory that it could grow into.
func spoil(a []uint32) {
	a = a[:cap(a)]
	for i := range a {
		a[i] ^= 0xA5A5A5A5
	}
}

func TestMemory(t *testing.T) {
	for _, x := range append(append(fractions(), zeros()...), wrong()...) {
		checkMemory(t, x)
	}
}

func checkMemory(t *testing.T, x rat.Rat) {
	t.Helper()
	memory, y := within(x)
	was := slices.Clone(memory)
	first, second := answers(y), answers(y)
	if !slices.Equal(memory, was) {
		t.Fatalf("%v: a call changed what was handed in", x)
	}
	want := make([][]uint32, len(first))
	for i, a := range first {
		want[i] = slices.Clone(a)
	}
	for i, a := range first {
		spoil(a)
		if !slices.Equal(memory, was) {
			t.Fatalf("%v: answer %d lies in the memory of what was handed in", x, i)
		}
		for j := i + 1; j < len(first); j++ {
			if !slices.Equal(first[j], want[j]) {
				t.Fatalf("%v: answers %d and %d share memory", x, i, j)
			}
		}
	}
	for i := range memory {
		memory[i] = 99
	}
	if !slices.EqualFunc(second, want, slices.Equal) {
		t.Fatalf("%v: answers hang on memory of others", x)
	}
	if third := answers(x); !slices.EqualFunc(third, want, slices.Equal) {
		t.Fatalf("%v: the same calls answer other numbers later", x)
	}
}

func TestListIsKept(t *testing.T) {
	list := []rat.Rat{of(6, 1), {Num: mag(4), Den: mag(2)}, of(-1, 3), of(9, 2)}
	was := slices.Clone(list)
	round.IsWhole(list[:1]...)
	round.IsWhole(list[:2]...)
	round.IsWhole(list...)
	for i := range list {
		if !sameFraction(list[i], was[i]) || &list[i].Den.Mag[0] != &was[i].Den.Mag[0] || &list[i].Num.Mag[0] != &was[i].Num.Mag[0] {
			t.Errorf("the list is now %v", list)
		}
	}
}
