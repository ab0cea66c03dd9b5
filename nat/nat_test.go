package nat_test

import (
	"encoding/binary"
	"math"
	"math/big"
	"math/rand/v2"
	"slices"
	"testing"

	"tallage/api"
	"tallage/limb"
	"tallage/nat"
)

const top = math.MaxUint32

// number is what a row counts, told by the library's own numbers.
func number(a []uint32) *big.Int {
	var b []byte
	for i := len(a) - 1; i >= 0; i-- {
		b = binary.BigEndian.AppendUint32(b, a[i])
	}
	return new(big.Int).SetBytes(b)
}

// row is the number's trimmed row.
func row(x *big.Int) []uint32 {
	b := x.FillBytes(make([]byte, (x.BitLen()+31)/32*4))
	var a []uint32
	for ; len(b) > 0; b = b[:len(b)-4] {
		a = append(a, binary.BigEndian.Uint32(b[len(b)-4:]))
	}
	return a
}

// check holds an answer against the number that it must be, and asks whether it is trimmed.
func check(t *testing.T, got []uint32, want *big.Int, what string, args ...any) {
	t.Helper()
	if len(got) > 0 && got[len(got)-1] == 0 {
		t.Fatalf("%s of %v: %v is not trimmed", what, args, got)
	}
	if number(got).Cmp(want) != 0 {
		t.Fatalf("%s of %v: %v, want %v", what, args, got, want)
	}
}

// small are all rows of at most three limbs about the limbs' bounds, trimmed and not.
func small() [][]uint32 {
	rows := [][]uint32{nil}
	last := rows
	for range 3 {
		var next [][]uint32
		for _, a := range last {
			for _, x := range []uint32{0, 1, 1<<31 - 1, 1 << 31, top} {
				next = append(next, append(slices.Clone(a), x))
			}
		}
		rows = append(rows, next...)
		last = next
	}
	return rows
}

// long are rows of up to 40 limbs, the same ones each time; many limbs are at the bounds.
func long() [][]uint32 {
	r := rand.New(rand.NewPCG(3, 4))
	rows := make([][]uint32, 60)
	for i := range rows {
		rows[i] = someRow(r, r.IntN(41))
	}
	return rows
}

func someRow(r *rand.Rand, n int) []uint32 {
	a := make([]uint32, n)
	for i := range a {
		switch r.IntN(6) {
		case 0:
		case 1:
			a[i] = top
		case 2:
			a[i] = 1 << 31
		default:
			a[i] = r.Uint32()
		}
	}
	return a
}

// pairs calls f for each two rows.
func pairs(f func(a, b []uint32)) {
	for _, rows := range [][][]uint32{small(), long()} {
		for _, a := range rows {
			for _, b := range rows {
				f(a, b)
			}
		}
	}
}

func filled(n int, x uint32) []uint32 {
	return slices.Repeat([]uint32{x}, n)
}

// P2.1

func TestMul(t *testing.T) {
	pairs(func(a, b []uint32) {
		check(t, nat.Mul(a, b), new(big.Int).Mul(number(a), number(b)), "Mul", a, b)
	})
}

func TestMulWithNothing(t *testing.T) {
	for _, none := range [][]uint32{nil, {}, {0}, {0, 0, 0}} {
		for _, a := range append(long(), nil, filled(3000, top)) {
			check(t, nat.Mul(a, none), new(big.Int), "Mul", "a row by none")
			check(t, nat.Mul(none, a), new(big.Int), "Mul", "none by a row")
		}
	}
}

func TestMulOfLongRows(t *testing.T) {
	for _, n := range []int{1, 2, 50, 1000} {
		a, b := filled(1000, top), filled(n, top)
		check(t, nat.Mul(a, b), new(big.Int).Mul(number(a), number(b)), "Mul", "long rows", n)
		check(t, nat.Mul(b, a), new(big.Int).Mul(number(a), number(b)), "Mul", "long rows", n)
	}
}

func TestProductOfFew(t *testing.T) {
	check(t, nat.Product(), big.NewInt(1), "Product")
	check(t, nat.Product([]uint32{7, 0}), big.NewInt(7), "Product", "one row")
	check(t, nat.Product(nil), new(big.Int), "Product", "one row of none")
	check(t, nat.Product([]uint32{7}, []uint32{0, 0}, []uint32{1, 2}), new(big.Int), "Product", "a nought among others")
	rows := small()
	for i, a := range rows {
		b, c := rows[(7*i+3)%len(rows)], rows[(31*i+5)%len(rows)]
		want := new(big.Int).Mul(number(a), number(b))
		check(t, nat.Product(a, b), want, "Product", a, b)
		check(t, nat.Product(a, b, c), want.Mul(want, number(c)), "Product", a, b, c)
	}
}

func TestProductOfMany(t *testing.T) {
	for n := range 40 {
		rows, want := [][]uint32{}, big.NewInt(1)
		for i := range n {
			a := []uint32{uint32(i + 1), uint32(i % 3)}
			rows = append(rows, a)
			want.Mul(want, number(a))
		}
		check(t, nat.Product(rows...), want, "Product", rows)
	}
	got := nat.Product(slices.Repeat([][]uint32{{1 << 31}}, 3000)...)
	check(t, got, new(big.Int).Lsh(big.NewInt(1), 31*3000), "Product", "3000 rows")
}

// P2.3

func TestPow(t *testing.T) {
	exponents := []int{0, 1, 2, 3, 4, 5, 6, 7, 8, 9, 31, 32, 33, 63, 64, 65, 100, 1000, 4095, 4096}
	for _, base := range []uint32{0, 1, 2, 3, 10, 65535, 65536, 1_000_000_000, 1 << 31, top} {
		for _, n := range exponents {
			got, e := nat.Pow(base, n)
			want := new(big.Int).Exp(big.NewInt(int64(base)), big.NewInt(int64(n)), nil)
			check(t, got, want, "Pow", base, n)
			if e != api.OK {
				t.Fatalf("Pow(%d, %d): error %d", base, n, e)
			}
		}
	}
}

func TestPowOfNoPower(t *testing.T) {
	for _, base := range []uint32{0, 1, 2, 10, top} {
		for _, n := range []int{-1, -2, -4097, math.MinInt32, math.MinInt} {
			if got, e := nat.Pow(base, n); got != nil || e != api.ErrArg {
				t.Errorf("Pow(%d, %d): %v, %d", base, n, got, e)
			}
		}
		for _, n := range []int{4097, 4098, 8192, 1 << 32, math.MaxInt} {
			if got, e := nat.Pow(base, n); got != nil || e != api.ErrLimit {
				t.Errorf("Pow(%d, %d): %v, %d", base, n, got, e)
			}
		}
	}
}

// P2.5

// answers are those of all calls that answer rows, errors' ones among them.
func answers(a, b []uint32) [][]uint32 {
	q, r, _ := nat.DivMod(a, b)
	u, v, _ := nat.DivMod(b, a)
	once, whole, _ := nat.DivMod(a, []uint32{1})
	never, left, _ := nat.DivMod(a, nil)
	rows := [][]uint32{q, r, u, v, once, whole, never, left,
		nat.Mul(a, b), nat.Mul(a, []uint32{1}), nat.Mul([]uint32{1}, a), nat.Mul(a, nil),
		nat.Product(), nat.Product(a), nat.Product(a, b), nat.Product(a, b, a), nat.Product(nil, a),
		nat.Gcd(), nat.Gcd(a), nat.Gcd(a, b), nat.Gcd(a, a), nat.Gcd(nil, a), nat.Gcd(a, nil, b)}
	for _, n := range []int{-1, 0, 1, 5, 5000} {
		p, _ := nat.Pow(7, n)
		rows = append(rows, p)
	}
	for _, s := range []string{"", "0", "7", "00", "18446744073709551616"} {
		p, _ := nat.Parse(s)
		rows = append(rows, p)
	}
	nat.Put(a)
	return rows
}

// within lays a into the midst of other memory.
func within(a []uint32) (memory, row []uint32) {
	memory = append(append([]uint32{11, 12}, a...), 0, 13, 14, 15)
	return memory, memory[2 : 2+len(a)]
}

func copies(rows [][]uint32) [][]uint32 {
	l := make([][]uint32, len(rows))
	for i, a := range rows {
		l[i] = slices.Clone(a)
	}
	return l
}

// spoil writes over a row, and all the memory that it could grow into.
func spoil(a []uint32) {
	a = a[:cap(a)]
	for i := range a {
		a[i] ^= 0xA5A5A5A5
	}
}

func TestMemory(t *testing.T) {
	rows := [][]uint32{nil, {0}, {0, 0}, {1}, {0, 1}, {top}, {top, top}, {3, 4, 0}, {5, 0, 0, 0}, {top, 0, top, 7}, {1, 2, 3, 4, 5}, {0, 0, 0, 1 << 31}, filled(500, 9)}
	for _, a := range rows {
		for _, b := range rows {
			checkMemory(t, a, b)
		}
	}
}

func checkMemory(t *testing.T, a, b []uint32) {
	t.Helper()
	inA, rowA := within(a)
	inB, rowB := within(b)
	wasA, wasB := slices.Clone(inA), slices.Clone(inB)
	unchanged := func(what string) {
		t.Helper()
		if !slices.Equal(inA, wasA) || !slices.Equal(inB, wasB) {
			t.Fatalf("%v, %v: %s changed what was handed in: %v, %v", a, b, what, inA, inB)
		}
	}
	first, second := answers(rowA, rowB), answers(rowA, rowB)
	unchanged("a call")
	want := copies(first)
	for i := range first {
		if n := len(first[i]); n > 0 && first[i][n-1] == 0 {
			t.Fatalf("%v, %v: answer %d is not trimmed: %v", a, b, i, first[i])
		}
		spoil(first[i])
		unchanged("a write to an answer")
		for j := i + 1; j < len(first); j++ {
			if !slices.Equal(first[j], want[j]) {
				t.Fatalf("%v, %v: answers %d and %d share memory", a, b, i, j)
			}
		}
	}
	for i := range inA {
		inA[i] = 99
	}
	for i := range inB {
		inB[i] = 99
	}
	for i := range second {
		if !slices.Equal(second[i], want[i]) {
			t.Fatalf("%v, %v: answer %d hangs on memory of another: %v, want %v", a, b, i, second[i], want[i])
		}
	}
	if third := answers(wasRow(wasA), wasRow(wasB)); !slices.EqualFunc(third, want, slices.Equal) {
		t.Fatalf("%v, %v: the same calls answer other rows later", a, b)
	}
}

// wasRow is the row that within laid into memory.
func wasRow(memory []uint32) []uint32 { return memory[2 : len(memory)-4] }

func TestListsAreKept(t *testing.T) {
	a, b := []uint32{6, 0}, []uint32{4}
	list := [][]uint32{a, nil, b, {9}}
	nat.Product(list[:3]...)
	nat.Gcd(list[:3]...)
	if len(list[0]) != 2 || &list[0][0] != &a[0] || list[1] != nil || &list[2][0] != &b[0] || !slices.Equal(list[3], []uint32{9}) {
		t.Errorf("the list is now %v", list)
	}
}

// P2.6

func TestProductsHangOnNoOrder(t *testing.T) {
	pairs(func(a, b []uint32) {
		if p, q := nat.Mul(a, b), nat.Mul(b, a); !slices.Equal(p, q) {
			t.Fatalf("%v by %v: %v, and %v", a, b, p, q)
		}
	})
	rows := long()[1:12]
	want := nat.Product(rows...)
	r := rand.New(rand.NewPCG(5, 6))
	for range 20 {
		r.Shuffle(len(rows), func(i, j int) { rows[i], rows[j] = rows[j], rows[i] })
		cut := r.IntN(len(rows) + 1)
		parts := nat.Mul(nat.Product(rows[:cut]...), nat.Product(rows[cut:]...))
		if got := nat.Product(rows...); !slices.Equal(got, want) || !slices.Equal(parts, want) {
			t.Fatalf("%v: %v, in parts %v, want %v", rows, got, parts, want)
		}
	}
}

func TestProductOfASum(t *testing.T) {
	rows := append(long(), small()...)
	pairs(func(a, b []uint32) {
		c := rows[(len(a)*31+len(b))%len(rows)]
		whole := nat.Mul(limb.Add(a, b), c)
		if parts := limb.Add(nat.Mul(a, c), nat.Mul(b, c)); !slices.Equal(whole, parts) {
			t.Fatalf("(%v + %v) by %v: %v, in parts %v", a, b, c, whole, parts)
		}
	})
}

func TestPowIsAProduct(t *testing.T) {
	for n := range 70 {
		for _, base := range []uint32{0, 1, 7, top} {
			p, _ := nat.Pow(base, n)
			if want := nat.Product(slices.Repeat([][]uint32{{base}}, n)...); !slices.Equal(p, want) {
				t.Fatalf("Pow(%d, %d): %v, want %v", base, n, p, want)
			}
		}
	}
}
