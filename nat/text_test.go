package nat_test

import (
	"math/big"
	"math/rand/v2"
	"slices"
	"strings"
	"testing"

	"tallage/api"
	"tallage/limb"
	"tallage/nat"
)

// texts are writings of all lengths about those of one big digit and one limb, and about the limit.
func texts() []string {
	l := []string{"0", "4294967295", "4294967296", "18446744073709551615", "18446744073709551616"}
	for _, n := range []int{1, 2, 8, 9, 10, 17, 18, 19, 27, 28, 100, 4086, 4087, 4094, 4095, 4096} {
		l = append(l, strings.Repeat("9", n), "1"+strings.Repeat("0", n-1), "5"+strings.Repeat("0", n-1), strings.Repeat("1", n), strings.Repeat("1234567890", 410)[:n])
	}
	return l
}

// noTexts are texts of at most MaxLong bytes that write no number.
func noTexts() []string {
	l := []string{"", " ", "-", "+", "-1", "-0", "+1", "00", "01", "007", "0000000000", "1 ", " 1", "1_000", "1,000", "1.0", "1e3", "0x10", "0b1", "0o7", "abc", "12a", "a12", "1/", "1:", "/1", ":1", "\x001", "1\x00", "1\n", "\xff", "１", "1\u0660", "∞", "NaN"}
	return append(l, strings.Repeat("0", 4096), strings.Repeat("1", 4095)+"x", strings.Repeat("1", 2000)+"."+strings.Repeat("1", 2000))
}

func fromText(s string) *big.Int {
	x, _ := new(big.Int).SetString(s, 10)
	return x
}

// P2.4

func TestParse(t *testing.T) {
	for _, s := range texts() {
		got, e := nat.Parse(s)
		check(t, got, fromText(s), "Parse", s)
		if e != api.OK {
			t.Fatalf("Parse(%s): error %d", s, e)
		}
	}
}

func TestParseNoNumber(t *testing.T) {
	for _, s := range noTexts() {
		if got, e := nat.Parse(s); got != nil || e != api.ErrNumber {
			t.Errorf("Parse(%q): %v, %d", s, got, e)
		}
	}
	for b := range 256 {
		if b >= '0' && b <= '9' {
			continue
		}
		for _, s := range []string{string([]byte{byte(b)}), "1" + string([]byte{byte(b)}), string([]byte{byte(b)}) + "1", "123456789" + string([]byte{byte(b)}) + "0"} {
			if got, e := nat.Parse(s); got != nil || e != api.ErrNumber {
				t.Errorf("Parse(%q): %v, %d", s, got, e)
			}
		}
	}
}

func TestParseTooLong(t *testing.T) {
	for _, n := range []int{4097, 4098, 4104, 4105, 5000, 1 << 20} {
		for _, s := range []string{strings.Repeat("9", n), "1" + strings.Repeat("0", n-1)} {
			if got, e := nat.Parse(s); got != nil || e != api.ErrLimit {
				t.Errorf("Parse of %d digits: %v, %d", n, got, e)
			}
		}
		// What is no number is told first.
		for _, s := range []string{strings.Repeat("0", n), "0" + strings.Repeat("9", n-1), strings.Repeat("9", n-1) + "x", "-" + strings.Repeat("9", n), strings.Repeat("9", 4096) + "." + strings.Repeat("9", n)} {
			if got, e := nat.Parse(s); got != nil || e != api.ErrNumber {
				t.Errorf("Parse of %d bytes that are no number: %v, %d", n, got, e)
			}
		}
	}
}

func TestPut(t *testing.T) {
	for _, a := range append(append(small(), long()...), []uint32{999_999_999}, []uint32{1_000_000_000}, []uint32{1_000_000_001}) {
		if got, want := nat.Put(a), number(a).String(); got != want {
			t.Fatalf("Put(%v): %s, want %s", a, got, want)
		}
	}
	for _, a := range [][]uint32{nil, {}, {0}, {0, 0, 0}, filled(3000, 0)} {
		if got := nat.Put(a); got != "0" {
			t.Errorf("Put of 0: %q", got)
		}
	}
}

// TestPutOfLongRows takes numbers of more digits than may be parsed; many have noughts where blocks of digits meet.
func TestPutOfLongRows(t *testing.T) {
	r := rand.New(rand.NewPCG(15, 16))
	for _, n := range []int{400, 413, 414, 415, 425, 426, 427, 428, 852, 853, 854, 1000, 3000} {
		for _, a := range [][]uint32{filled(n, top), append(filled(n-1, 0), 1), someRow(r, n)} {
			if got, want := nat.Put(a), number(a).String(); got != want {
				t.Fatalf("Put of %d limbs: %s, want %s", n, got, want)
			}
		}
	}
	for _, n := range []int{4095, 4096, 4097, 4103, 4104, 4105, 8207, 8208, 8209, 12312, 12313} {
		for _, add := range []int64{-1, 0, 1, 1_000_000_000} {
			x := new(big.Int).Exp(big.NewInt(10), big.NewInt(int64(n)), nil)
			x.Add(x, big.NewInt(add))
			if got, want := nat.Put(row(x)), x.String(); got != want {
				t.Fatalf("Put of 10 to the %d and %d: %d digits, want %d", n, add, len(got), len(want))
			}
		}
	}
}

// P2.6

func TestPutIsParsed(t *testing.T) {
	most := row(fromText(strings.Repeat("9", 4096)))
	for _, a := range append(append(small(), long()...), most) {
		if back, e := nat.Parse(nat.Put(a)); !slices.Equal(back, limb.Trim(a)) || e != api.OK {
			t.Fatalf("%v put and parsed: %v, %d", a, back, e)
		}
	}
	if got, e := nat.Parse(nat.Put(limb.Add(most, []uint32{1}))); got != nil || e != api.ErrLimit {
		t.Errorf("a number of 4097 digits, put and parsed: %v, %d", got, e)
	}
}

func TestParsedIsPut(t *testing.T) {
	for _, s := range texts() {
		a, _ := nat.Parse(s)
		if got := nat.Put(a); got != s {
			t.Fatalf("%s parsed and put: %s", s, got)
		}
	}
}

// The chapter's own examples.

func TestExamples(t *testing.T) {
	if got := nat.Mul([]uint32{top}, []uint32{top}); !slices.Equal(got, []uint32{1, 4294967294}) {
		t.Errorf("Mul: %v", got)
	}
	if q, r, e := nat.DivMod([]uint32{0, 0, 1}, []uint32{3}); !slices.Equal(q, []uint32{1431655765, 1431655765}) || !slices.Equal(r, []uint32{1}) || e != api.OK {
		t.Errorf("DivMod: %v, %v, %d", q, r, e)
	}
	if got := nat.Gcd([]uint32{12}, []uint32{18}, []uint32{30}); !slices.Equal(got, []uint32{6}) {
		t.Errorf("Gcd: %v", got)
	}
	if got, e := nat.Pow(10, 10); !slices.Equal(got, []uint32{1410065408, 2}) || e != api.OK {
		t.Errorf("Pow: %v, %d", got, e)
	}
	if got, e := nat.Parse("10000000000"); !slices.Equal(got, []uint32{1410065408, 2}) || e != api.OK {
		t.Errorf("Parse: %v, %d", got, e)
	}
	for _, s := range []string{"01", ""} {
		if got, e := nat.Parse(s); got != nil || e != api.ErrNumber {
			t.Errorf("Parse(%q): %v, %d", s, got, e)
		}
	}
	if got := nat.Put([]uint32{0, 1}); got != "4294967296" {
		t.Errorf("Put: %s", got)
	}
}
