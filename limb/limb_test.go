package limb_test

import (
	"encoding/binary"
	"math"
	"math/big"
	"math/rand/v2"
	"slices"
	"testing"

	"tallage/api"
	"tallage/limb"
)

const top = math.MaxUint32

// number is what a row counts, told by the library's own numbers.
func number(a []uint32) *big.Int {
	var b []byte
	for i := len(a) - 1; i >= 0; i-- {
		b = binary.BigEndian.AppendUint32(b, a[i])
	}
	return new(big.Int).SetBytes(b)
}

// check holds an answer against the number that it must be, and asks whether it is trimmed.
func check(t *testing.T, got []uint32, want *big.Int, what string, args ...any) {
	t.Helper()
	if number(got).Cmp(want) != 0 {
		t.Fatalf("%s of %v: %v, want %v", what, args, got, want)
	}
	if len(got) > 0 && got[len(got)-1] == 0 {
		t.Fatalf("%s of %v: %v is not trimmed", what, args, got)
	}
}

// small are all rows of at most three limbs about the limbs' bounds, trimmed and not.
func small() [][]uint32 {
	rows := [][]uint32{nil}
	last := rows
	for range 3 {
		var next [][]uint32
		for _, a := range last {
			for _, x := range []uint32{0, 1, 1<<31 - 1, 1 << 31, top} {
				next = append(next, append(slices.Clone(a), x))
			}
		}
		rows = append(rows, next...)
		last = next
	}
	return rows
}

// long are rows of up to 40 limbs, the same ones each time; many limbs are 0 or the greatest.
func long() [][]uint32 {
	r := rand.New(rand.NewPCG(1, 2))
	rows := make([][]uint32, 60)
	for i := range rows {
		rows[i] = make([]uint32, r.IntN(41))
		for j := range rows[i] {
			switch r.IntN(4) {
			case 0:
			case 1:
				rows[i][j] = top
			default:
				rows[i][j] = r.Uint32()
			}
		}
	}
	return rows
}

// pairs calls f for each two rows.
func pairs(f func(a, b []uint32)) {
	for _, rows := range [][][]uint32{small(), long()} {
		for _, a := range rows {
			for _, b := range rows {
				f(a, b)
			}
		}
	}
}

func filled(n int, x uint32) []uint32 {
	return slices.Repeat([]uint32{x}, n)
}

func factors() []uint32 {
	return []uint32{1, 2, 3, 10, 65535, 65536, 1_000_000_000, 1<<31 - 1, 1 << 31, 1<<31 + 1, top - 1, top}
}

// P1.1

func TestTrim(t *testing.T) {
	for _, x := range []struct{ a, want []uint32 }{
		{nil, nil}, {[]uint32{}, nil}, {[]uint32{0}, nil}, {[]uint32{0, 0, 0}, nil},
		{[]uint32{1}, []uint32{1}}, {[]uint32{0, 1}, []uint32{0, 1}}, {[]uint32{0, 1, 0, 0}, []uint32{0, 1}},
		{[]uint32{top, 0, 7, 0}, []uint32{top, 0, 7}},
	} {
		if got := limb.Trim(x.a); !slices.Equal(got, x.want) {
			t.Errorf("Trim(%v): %v", x.a, got)
		}
	}
}

func TestCmp(t *testing.T) {
	pairs(func(a, b []uint32) {
		if got, want := limb.Cmp(a, b), number(a).Cmp(number(b)); got != want {
			t.Fatalf("Cmp(%v, %v): %d, want %d", a, b, got, want)
		}
	})
}

func TestBitsOfEachByte(t *testing.T) {
	for place := range 12 {
		for b := range 256 {
			for _, below := range []uint32{0, top} {
				a := []uint32{below, below, below, 0, 0}
				at := place / 4
				for i := at; i < 3; i++ {
					a[i] = 0
				}
				a[at] = uint32(b)<<(8*(place%4)) | below&(1<<(8*(place%4))-1)
				if got, want := limb.Bits(a), number(a).BitLen(); got != want {
					t.Fatalf("Bits(%v): %d, want %d", a, got, want)
				}
			}
		}
	}
}

func TestBitsOfRows(t *testing.T) {
	for _, a := range append(append(small(), long()...), nil, filled(3000, 0), filled(3000, top)) {
		if got, want := limb.Bits(a), number(a).BitLen(); got != want {
			t.Fatalf("Bits(%v): %d, want %d", a, got, want)
		}
	}
}

// P1.2

func TestAdd(t *testing.T) {
	pairs(func(a, b []uint32) {
		check(t, limb.Add(a, b), new(big.Int).Add(number(a), number(b)), "Add", a, b)
	})
}

func TestAddCarriesFar(t *testing.T) {
	got := limb.Add(filled(5000, top), []uint32{1})
	if want := append(filled(5000, 0), 1); !slices.Equal(got, want) {
		t.Errorf("a carry through 5000 limbs: %d limbs", len(got))
	}
}

func TestSub(t *testing.T) {
	pairs(func(a, b []uint32) {
		got, e := limb.Sub(a, b)
		if number(a).Cmp(number(b)) < 0 {
			if len(got) != 0 || e != api.ErrArg {
				t.Fatalf("Sub(%v, %v): %v, %d", a, b, got, e)
			}
			return
		}
		if e != api.OK {
			t.Fatalf("Sub(%v, %v): error %d", a, b, e)
		}
		check(t, got, new(big.Int).Sub(number(a), number(b)), "Sub", a, b)
	})
}

func TestSubBorrowsFar(t *testing.T) {
	got, e := limb.Sub(append(filled(5000, 0), 1), []uint32{1})
	if !slices.Equal(got, filled(5000, top)) || e != api.OK {
		t.Errorf("a borrow through 5000 limbs: %d limbs, %d", len(got), e)
	}
}

func TestSumOfFew(t *testing.T) {
	check(t, limb.Sum(), new(big.Int), "Sum")
	check(t, limb.Sum(nil, nil, []uint32{0, 0}), new(big.Int), "Sum", "noughts")
	check(t, limb.Sum([]uint32{5, 0}), big.NewInt(5), "Sum", "one row")
	check(t, limb.Sum([]uint32{1}, filled(9, 0), nil, []uint32{2}), big.NewInt(3), "Sum", "an untrimmed row")
	rows := small()
	for i, a := range rows {
		b, c := rows[(7*i+3)%len(rows)], rows[(31*i+5)%len(rows)]
		want := new(big.Int).Add(number(a), number(b))
		check(t, limb.Sum(a, b, c), want.Add(want, number(c)), "Sum", a, b, c)
	}
}

func TestSumOfMany(t *testing.T) {
	want := new(big.Int)
	for _, a := range long() {
		want.Add(want, number(a))
	}
	check(t, limb.Sum(long()...), want, "Sum", "long rows")

	rows := slices.Repeat([][]uint32{{top}}, 1<<17)
	check(t, limb.Sum(rows...), new(big.Int).Lsh(big.NewInt(top), 17), "Sum", "many rows")

	rows[0] = filled(1<<17, top)
	want = new(big.Int).Lsh(big.NewInt(top), 17)
	want.Add(want, number(rows[0])).Sub(want, big.NewInt(top))
	check(t, limb.Sum(rows...), want, "Sum", "many rows and a long one")
}

// P1.3

func TestMulSmall(t *testing.T) {
	for _, a := range append(small(), long()...) {
		for _, m := range append(factors(), 0) {
			want := new(big.Int).Mul(number(a), big.NewInt(int64(m)))
			check(t, limb.MulSmall(a, m), want, "MulSmall", a, m)
		}
	}
}

func TestDivSmall(t *testing.T) {
	for _, a := range append(small(), long()...) {
		for _, d := range factors() {
			q, r, e := limb.DivSmall(a, d)
			want, rest := new(big.Int).QuoRem(number(a), big.NewInt(int64(d)), new(big.Int))
			check(t, q, want, "DivSmall", a, d)
			if int64(r) != rest.Int64() || e != api.OK {
				t.Fatalf("DivSmall(%v, %d): %d left, error %d; want %v left", a, d, r, e, rest)
			}
		}
	}
}

func TestDivSmallByNothing(t *testing.T) {
	for _, a := range [][]uint32{nil, {0}, {7}, {1, 2, 0}} {
		if q, r, e := limb.DivSmall(a, 0); len(q) != 0 || r != 0 || e != api.ErrDivide {
			t.Errorf("DivSmall(%v, 0): %v, %d, %d", a, q, r, e)
		}
	}
}

// P1.4

func TestShiftUp(t *testing.T) {
	for _, a := range append(small(), long()...) {
		for _, n := range []int{0, 1, 2, 7, 8, 30, 31, 32, 33, 63, 64, 65, 95, 96, 1000, 65535, 65536} {
			got, e := limb.Shift(a, n)
			check(t, got, new(big.Int).Lsh(number(a), uint(n)), "Shift", a, n)
			if e != api.OK {
				t.Fatalf("Shift(%v, %d): error %d", a, n, e)
			}
		}
	}
}

func TestShiftUpTooFar(t *testing.T) {
	for _, n := range []int{65537, 65538, 65536 + 32, 1 << 20, 1 << 32, math.MaxInt} {
		for _, a := range [][]uint32{{1}, {0, 1}, {5, 0, 0}, {top, top}} {
			if got, e := limb.Shift(a, n); len(got) != 0 || e != api.ErrLimit {
				t.Errorf("Shift(%v, %d): %v, %d", a, n, got, e)
			}
		}
		for _, a := range [][]uint32{nil, {}, {0}, {0, 0, 0}} {
			if got, e := limb.Shift(a, n); len(got) != 0 || e != api.OK {
				t.Errorf("Shift(%v, %d): %v, %d", a, n, got, e)
			}
		}
	}
}

func TestShiftDown(t *testing.T) {
	for _, a := range append(small(), long()...) {
		for _, n := range []int{1, 2, 7, 8, 30, 31, 32, 33, 63, 64, 65, 95, 96, 97, 1000, 65535, 65536, 65537, 1 << 40} {
			got, e := limb.Shift(a, -n)
			check(t, got, new(big.Int).Rsh(number(a), uint(n)), "Shift", a, -n)
			if e != api.OK {
				t.Fatalf("Shift(%v, %d): error %d", a, -n, e)
			}
		}
	}
}

func TestShiftDownHasNoLimit(t *testing.T) {
	a := append(filled(3000, 0), 6, 7)
	got, e := limb.Shift(a, -(3000*32 + 1))
	if !slices.Equal(got, []uint32{1<<31 | 3, 3}) || e != api.OK {
		t.Errorf("down by 96001: %v, %d", got, e)
	}
	for _, n := range []int{math.MinInt, math.MinInt + 1, math.MinInt + 31, math.MinInt32, -math.MaxInt32, -(1 << 37)} {
		if got, e := limb.Shift(a, n); len(got) != 0 || e != api.OK {
			t.Errorf("Shift by %d: %v, %d", n, got, e)
		}
	}
}

// P1.5

// answers are those of all calls that answer rows, errors' ones among them.
func answers(a, b []uint32) [][]uint32 {
	less, _ := limb.Sub(a, b)
	none, _ := limb.Sub(a, a)
	all, _ := limb.Sub(a, nil)
	quotient, _, _ := limb.DivSmall(a, 7)
	once, _, _ := limb.DivSmall(a, 1)
	never, _, _ := limb.DivSmall(a, 0)
	rows := [][]uint32{limb.Trim(a), limb.Add(a, b), limb.Add(a, nil), limb.Add(nil, a), less, none, all, limb.Sum(a), limb.Sum(a, nil), limb.Sum(nil, a, b, a), limb.MulSmall(a, 0), limb.MulSmall(a, 1), limb.MulSmall(a, top), quotient, once, never}
	for _, n := range []int{0, 1, 31, 32, 65536, 65537, -1, -31, -32, -65536} {
		s, _ := limb.Shift(a, n)
		rows = append(rows, s)
	}
	limb.Cmp(a, b)
	limb.Bits(a)
	return rows
}

// within lays a into the midst of other memory.
func within(a []uint32) (memory, row []uint32) {
	memory = append(append([]uint32{11, 12}, a...), 0, 13, 14, 15)
	return memory, memory[2 : 2+len(a)]
}

func copies(rows [][]uint32) [][]uint32 {
	l := make([][]uint32, len(rows))
	for i, a := range rows {
		l[i] = slices.Clone(a)
	}
	return l
}

// spoil writes over a row, and all the memory that it could grow into.
func spoil(a []uint32) {
	a = a[:cap(a)]
	for i := range a {
		a[i] ^= 0xA5A5A5A5
	}
}

func TestMemory(t *testing.T) {
	rows := [][]uint32{nil, {0}, {0, 0}, {1}, {0, 1}, {top}, {top, top}, {3, 4, 0}, {5, 0, 0, 0}, {top, 0, top, 7}, {1, 2, 3, 4, 5}}
	for _, a := range rows {
		for _, b := range rows {
			checkMemory(t, a, b)
		}
	}
}

func checkMemory(t *testing.T, a, b []uint32) {
	t.Helper()
	inA, rowA := within(a)
	inB, rowB := within(b)
	wasA, wasB := slices.Clone(inA), slices.Clone(inB)
	unchanged := func(what string) {
		t.Helper()
		if !slices.Equal(inA, wasA) || !slices.Equal(inB, wasB) {
			t.Fatalf("%v, %v: %s changed what was handed in: %v, %v", a, b, what, inA, inB)
		}
	}
	first, second := answers(rowA, rowB), answers(rowA, rowB)
	unchanged("a call")
	want := copies(first)
	for i := range first {
		spoil(first[i])
		unchanged("a write to an answer")
		for j := i + 1; j < len(first); j++ {
			if !slices.Equal(first[j], want[j]) {
				t.Fatalf("%v, %v: answers %d and %d share memory", a, b, i, j)
			}
		}
	}
	for i := range inA {
		inA[i] = 99
	}
	for i := range inB {
		inB[i] = 99
	}
	for i := range second {
		if !slices.Equal(second[i], want[i]) {
			t.Fatalf("%v, %v: answer %d hangs on memory of another: %v, want %v", a, b, i, second[i], want[i])
		}
	}
}

func TestSumKeepsItsList(t *testing.T) {
	a, b := []uint32{1, 0}, []uint32{2}
	list := [][]uint32{a, nil, b, {9}}
	limb.Sum(list[:3]...)
	if len(list[0]) != 2 || &list[0][0] != &a[0] || list[1] != nil || &list[2][0] != &b[0] || !slices.Equal(list[3], []uint32{9}) {
		t.Errorf("the list is now %v", list)
	}
}

// P1.6

func TestSumLessOnePart(t *testing.T) {
	pairs(func(a, b []uint32) {
		sum := limb.Add(a, b)
		if limb.Cmp(sum, a) < 0 || limb.Cmp(sum, b) < 0 {
			t.Fatalf("%v + %v is less than a part: %v", a, b, sum)
		}
		if got, e := limb.Sub(sum, b); !slices.Equal(got, limb.Trim(a)) || e != api.OK {
			t.Fatalf("%v + %v - %v: %v, %d", a, b, b, got, e)
		}
		if got, e := limb.Sub(sum, a); !slices.Equal(got, limb.Trim(b)) || e != api.OK {
			t.Fatalf("%v + %v - %v: %v, %d", a, b, a, got, e)
		}
	})
}

func TestHowOftenTimesDivisor(t *testing.T) {
	for _, a := range append(small(), long()...) {
		for _, d := range factors() {
			q, r, e := limb.DivSmall(a, d)
			back := limb.Add(limb.MulSmall(q, d), []uint32{r})
			if !slices.Equal(back, limb.Trim(a)) || r >= d || e != api.OK {
				t.Fatalf("%v by %d: %v, %d left, error %d", a, d, q, r, e)
			}
		}
	}
}

func TestShiftThereAndBack(t *testing.T) {
	for _, a := range append(small(), long()...) {
		for _, n := range []int{0, 1, 31, 32, 33, 100, 65535, 65536} {
			up, e := limb.Shift(a, n)
			if e != api.OK {
				t.Fatalf("Shift(%v, %d): error %d", a, n, e)
			}
			if back, e := limb.Shift(up, -n); !slices.Equal(back, limb.Trim(a)) || e != api.OK {
				t.Fatalf("%v by %d and back: %v, %d", a, n, back, e)
			}
		}
	}
}

// The chapter's own examples.

func TestExamples(t *testing.T) {
	if got := limb.Add([]uint32{top}, []uint32{1}); !slices.Equal(got, []uint32{0, 1}) {
		t.Errorf("Add: %v", got)
	}
	if got, e := limb.Sub([]uint32{0, 1}, []uint32{1}); !slices.Equal(got, []uint32{top}) || e != api.OK {
		t.Errorf("Sub: %v, %d", got, e)
	}
	if got, e := limb.Sub([]uint32{1}, []uint32{2}); len(got) != 0 || e != api.ErrArg {
		t.Errorf("Sub: %v, %d", got, e)
	}
	if q, r, e := limb.DivSmall([]uint32{0, 1}, 10); !slices.Equal(q, []uint32{429496729}) || r != 6 || e != api.OK {
		t.Errorf("DivSmall: %v, %d, %d", q, r, e)
	}
	if got, e := limb.Shift([]uint32{1}, 33); !slices.Equal(got, []uint32{0, 2}) || e != api.OK {
		t.Errorf("Shift up: %v, %d", got, e)
	}
	if got, e := limb.Shift([]uint32{2, 3}, -33); !slices.Equal(got, []uint32{1}) || e != api.OK {
		t.Errorf("Shift down: %v, %d", got, e)
	}
	if got := limb.Bits([]uint32{0, 1}); got != 33 {
		t.Errorf("Bits: %d", got)
	}
}
