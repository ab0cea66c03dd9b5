package dec_test

import (
	"slices"
	"strings"
	"testing"

	"tallage/big"
	"tallage/dec"
	"tallage/rat"
)

// P6.4

// parsed are the rows of limbs of all that the calls answer of a text.
func parsed(s string) [][]uint32 {
	x, _ := dec.Parse(s)
	y, _ := dec.Amount(s)
	z, _ := dec.Share(s)
	w, _ := dec.Share(s + "%")
	return [][]uint32{x.Num.Mag, x.Den.Mag, y.Num.Mag, y.Den.Mag, z.Num.Mag, z.Den.Mag, w.Num.Mag, w.Den.Mag}
}

// spoil writes over a row, and all the memory that it could grow into.
func spoil(a []uint32) {
	a = a[:cap(a)]
	for i := range a {
		a[i] ^= 0xA5A5A5A5
	}
}

func copies(l [][]uint32) [][]uint32 {
	c := make([][]uint32, len(l))
	for i, a := range l {
		c[i] = slices.Clone(a)
	}
	return c
}

func TestParsedIsNewMemory(t *testing.T) {
	for _, s := range append(texts(), "", "-", "-0", "-1", "-12.50", "0.5%", "100%", strings.Repeat("9", 41)) {
		first, second := parsed(s), parsed(s)
		want := copies(first)
		for i, a := range first {
			spoil(a)
			for j := i + 1; j < len(first); j++ {
				if !slices.Equal(first[j], want[j]) {
					t.Fatalf("%s: answers' rows %d and %d share memory", s, i, j)
				}
			}
		}
		if !slices.EqualFunc(second, want, slices.Equal) || !slices.EqualFunc(parsed(s), want, slices.Equal) {
			t.Fatalf("%s: an answer hangs on another one's memory", s)
		}
	}
}

// TestTextIsNotKept parses bytes that are written over behind the call.
func TestTextIsNotKept(t *testing.T) {
	bytes := []byte("-1234567890.25")
	x, _ := dec.Parse(string(bytes))
	for i := range bytes {
		bytes[i] = '7'
	}
	if dec.Money(x) != "-1234567890.25" {
		t.Errorf("%v", x)
	}
}

// put are the texts that the calls answer of a fraction.
func put(x rat.Rat) []string {
	return []string{dec.Put(x, 0), dec.Put(x, 2), dec.Put(x, 40), dec.Put(x, -1), dec.Money(x), dec.PutShare(x)}
}

// within lays x's rows into the midst of other memory.
func within(x rat.Rat) (memory []uint32, y rat.Rat) {
	memory = append(append([]uint32{11, 12}, x.Num.Mag...), 0, 13)
	den := len(memory)
	memory = append(append(memory, x.Den.Mag...), 0, 14, 15)
	y.Num = big.Int{Neg: x.Num.Neg, Mag: memory[2 : 2+len(x.Num.Mag)]}
	y.Den = big.Int{Neg: x.Den.Neg, Mag: memory[den : den+len(x.Den.Mag)]}
	return memory, y
}

func TestFractionsAreOnlyRead(t *testing.T) {
	for _, x := range append(append(fractions(), zeros()...), wrong()...) {
		memory, y := within(x)
		was := slices.Clone(memory)
		first := put(y)
		if !slices.Equal(memory, was) {
			t.Fatalf("%v: a call changed what was handed in", x)
		}
		kept := strings.Clone(strings.Join(first, " "))
		for i := range memory {
			memory[i] = 99
		}
		if strings.Join(first, " ") != kept || !slices.Equal(put(x), first) {
			t.Fatalf("%v: an answer hangs on memory of others", x)
		}
	}
}
