package ast_test

import (
	"encoding/binary"
	"math"
	library "math/big"
	"regexp"
	"strings"
	"testing"

	"tallage/ast"
	"tallage/big"
	"tallage/rat"
)

// P8.1

const top = math.MaxUint32

// whole is what n counts, told by the library's own numbers; n must be right.
func whole(n big.Int) *library.Int {
	var b []byte
	for i := len(n.Mag) - 1; i >= 0; i-- {
		b = binary.BigEndian.AppendUint32(b, n.Mag[i])
	}
	v := new(library.Int).SetBytes(b)
	if n.Neg {
		v.Neg(v)
	}
	return v
}

// number is the right one that counts v.
func number(v *library.Int) big.Int {
	b := v.FillBytes(make([]byte, (v.BitLen()+31)/32*4))
	n := big.Int{Neg: v.Sign() < 0}
	for ; len(b) > 0; b = b[:len(b)-4] {
		n.Mag = append(n.Mag, binary.BigEndian.Uint32(b[len(b)-4:]))
	}
	return n
}

func value(x rat.Rat) *library.Rat {
	return new(library.Rat).SetFrac(whole(x.Num), whole(x.Den))
}

// fraction is the right one that counts v: the library's own fractions are in lowest terms, too.
func fraction(v *library.Rat) rat.Rat { return rat.Rat{Num: number(v.Num()), Den: number(v.Denom())} }

func of(n, d int64) rat.Rat { return fraction(library.NewRat(n, d)) }

// said is the right fraction that the library reads.
func said(s string) rat.Rat {
	v, ok := new(library.Rat).SetString(s)
	if !ok {
		panic(s)
	}
	return fraction(v)
}

func negOf(x rat.Rat) rat.Rat { return fraction(new(library.Rat).Neg(value(x))) }

func mag(limbs ...uint32) big.Int { return big.Int{Mag: limbs} }

func less(limbs ...uint32) big.Int { return big.Int{Neg: true, Mag: limbs} }

// wrong are fractions that are not right, though many of them would be money, or shares, if they were looked at carelessly.
func wrong() []rat.Rat {
	l := []rat.Rat{
		{}, {Num: mag(1)}, {Num: less(5)}, {Den: mag(2)}, {Den: less(1)}, {Num: mag(1), Den: less(1)}, {Num: less(1), Den: less(2)}, {Num: less(7), Den: less(2)},
		{Num: mag(2), Den: mag(2)}, {Num: mag(4), Den: mag(2)}, {Num: mag(2), Den: mag(4)}, {Num: mag(50), Den: mag(100)}, {Num: less(14), Den: mag(4)},
		{Den: mag(100)}, {Den: mag(5)}, {Num: mag(0, 0, 1), Den: mag(1 << 31)}, {Num: mag(0, 1), Den: mag(0, 1)},
	}
	for _, n := range []big.Int{less(), mag(0), less(0), mag(1, 0), mag(5, 0), less(5, 0), mag(0, 0, 0), mag(100, 0, 0)} {
		l = append(l, rat.Rat{Num: n, Den: mag(1)}, rat.Rat{Num: n, Den: mag(2)}, rat.Rat{Num: mag(1), Den: n}, rat.Rat{Num: less(1), Den: n}, rat.Rat{Den: n}, rat.Rat{Num: n, Den: n})
	}
	return l
}

// zeros are the right ways to hand in 0.
func zeros() []rat.Rat {
	return []rat.Rat{{Den: mag(1)}, {Num: mag(), Den: mag(1)}, {Num: big.Int{Mag: []uint32{7, 8}[:0]}, Den: mag(1)}}
}

// fractions stand about all bounds of money, of shares, and of limbs, on both sides of 0.
func fractions() []rat.Rat {
	l := []rat.Rat{}
	for _, d := range []int64{1, 2, 3, 4, 5, 7, 8, 10, 16, 20, 25, 40, 50, 64, 99, 100, 101, 125, 128, 200, 300, 1000, 999_999, 1_000_000, 1_000_001, 2_000_000, 3_000_000, 1 << 32, 100 << 32, math.MaxInt64} {
		for _, n := range []int64{0, 1, 2, 3, 7, 39, 40, 41, 99, 100, 101, d - 1, d, d + 1, 2*d - 1, 39*d + 1, top, top + 1, math.MaxInt64} {
			l = append(l, of(n, d), of(-n, d))
		}
	}
	for _, s := range []string{"1e29", "1e30", "1e31", "1e100", "123456789012345678901234567890", "1000000000000000000000000000000.01", "999999999999999999999999999999", "999999999999999999999999999999.99", "999999999999999999999999999999.999", "999999999999999999999999999999.995", "99999999999999999999999999999.97", "18446744073709551616.5", "79228162514264337593543950336", "0.000001", "0.999999", "1.000001", "0.9999995", "0.0000001", "0.1234567", "0.123456", "0.015625", "0.0078125", "1e-30"} {
		l = append(l, said(s), said("-"+s))
	}
	return append(l, zeros()...)
}

// wholeIn tells, by the library's own numbers, whether v is a whole number of parts of 1.
func wholeIn(v *library.Rat, parts int64) bool {
	return new(library.Rat).Mul(v, library.NewRat(parts, 1)).IsInt()
}

func isMoney(v *library.Rat) bool {
	return wholeIn(v, 100) && new(library.Rat).Abs(v).Cmp(value(said("1e30"))) < 0
}

func isShare(v *library.Rat) bool {
	return wholeIn(v, 1_000_000) && v.Sign() >= 0 && v.Cmp(library.NewRat(1, 1)) <= 0
}

func TestMoneyAndShares(t *testing.T) {
	for _, x := range fractions() {
		v := value(x)
		if got := ast.IsMoney(x); got != isMoney(v) {
			t.Errorf("IsMoney(%v): %v", v, got)
		}
		if got := ast.IsShare(x); got != isShare(v) {
			t.Errorf("IsShare(%v): %v", v, got)
		}
	}
}

// TestBoundsOfMoney writes out the answers, so that they hang on no reckoning.
func TestBoundsOfMoney(t *testing.T) {
	for s, want := range map[string]bool{
		"0": true, "1": true, "0.01": true, "0.1": true, "5/2": true, "12.34": true, "12.340": true, "1/4": true, "1/25": true,
		"0.001": false, "0.005": false, "1/3": false, "1/8": false, "1/99": false, "1/200": false, "1/1000000": false, "12.345": false, "1/4294967296": false,
		"999999999999999999999999999999.99": true, "999999999999999999999999999999": true, "1e29": true,
		"999999999999999999999999999999.995": false, "1e30": false, "1000000000000000000000000000000.01": false, "1e31": false, "1e300": false,
	} {
		for _, x := range []rat.Rat{said(s), negOf(said(s))} {
			if got := ast.IsMoney(x); got != want {
				t.Errorf("IsMoney(%v): %v", value(x), got)
			}
		}
	}
}

func TestBoundsOfShares(t *testing.T) {
	for s, want := range map[string]bool{
		"0": true, "1": true, "3/8": true, "1/2": true, "0.000001": true, "0.999999": true, "1/64": true, "1/1000000": true, "7/15625": true,
		"1/3": false, "1/128": false, "1/2000000": false, "0.0000015": false, "0.9999995": false, "1.000001": false, "2": false, "1000000": false, "1e30": false, "1/4294967296": false,
		"-1": false, "-0.000001": false, "-1/2": false, "-1000000": false,
	} {
		if got := ast.IsShare(said(s)); got != want {
			t.Errorf("IsShare(%s): %v", s, got)
		}
	}
}

func TestWrongIsNeither(t *testing.T) {
	for _, x := range wrong() {
		if rat.Right(x) || ast.IsMoney(x) || ast.IsShare(x) {
			t.Errorf("%v: right %v, money %v, share %v", x, rat.Right(x), ast.IsMoney(x), ast.IsShare(x))
		}
	}
	// So much as to be told at once, or never.
	long := make([]uint32, 1<<20)
	long[len(long)-1] = 1
	for _, x := range []rat.Rat{{Num: mag(1), Den: mag(long...)}, {Num: mag(long...), Den: mag(long...)}, {Num: mag(long...), Den: mag(1)}, {Num: mag(long...), Den: mag(100)}} {
		if ast.IsMoney(x) || ast.IsShare(x) {
			t.Errorf("a fraction of %d and %d limbs", len(x.Num.Mag), len(x.Den.Mag))
		}
	}
}

var isName = regexp.MustCompile(`\A[A-Za-z][0-9A-Za-z_-]{0,31}\z`)

func TestNames(t *testing.T) {
	l := []string{"", "P", "a-1", "1a", "a_b", "_a", "-a", "a--", "a__", "A0-_z", "a b", "a ", " a", "a.b", "a\n", "\na", "a\x00", "é", "aé", "a\xff", "ä-1", "ａ", "aａ", "año", "K"}
	for b := range 256 {
		s := string([]byte{byte(b)})
		for _, frame := range [][2]string{{"", ""}, {"a", ""}, {"", "a"}, {"a", "b"}, {"1", ""}, {"", s}, {strings.Repeat("n", 31), ""}, {strings.Repeat("n", 32), ""}} {
			l = append(l, frame[0]+s+frame[1])
		}
	}
	for _, s := range l {
		// As the bytes are, for the patterns go by runes: a text of other bytes has runes that fit no class.
		if got := ast.IsName(s); got != isName.MatchString(s) {
			t.Errorf("IsName(%q): %v", s, got)
		}
	}
	for n, want := range map[int]bool{0: false, 1: true, 31: true, 32: true, 33: false, 64: false, 1 << 20: false} {
		for _, of := range []string{"a", "Z"} {
			if got := ast.IsName(strings.Repeat(of, n)); got != want {
				t.Errorf("IsName of %d times %s: %v", n, of, got)
			}
		}
	}
	for _, s := range []string{strings.Repeat("1", 32), strings.Repeat("-", 5), strings.Repeat("é", 16), "a" + strings.Repeat("é", 3)} {
		if ast.IsName(s) {
			t.Errorf("IsName(%q): true", s)
		}
	}
	if s := "a" + strings.Repeat("-_9Z", 7) + "xyz"; len(s) != 32 || !ast.IsName(s) || ast.IsName(s+"x") {
		t.Errorf("a name of %d bytes", len(s))
	}
}

// The chapter's own examples.

func TestExamples(t *testing.T) {
	for i, c := range []struct{ got, want bool }{
		{ast.IsName("a-1"), true}, {ast.IsName("1a"), false},
		{ast.IsMoney(of(5, 2)), true}, {ast.IsMoney(of(1, 3)), false},
		{ast.IsShare(of(3, 8)), true}, {ast.IsShare(of(1, 3)), false},
	} {
		if c.got != c.want {
			t.Errorf("example %d: %v", i, c.got)
		}
	}
}
