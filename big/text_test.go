package big_test

import (
	library "math/big"
	"strings"
	"testing"

	"tallage/api"
	"tallage/big"
	"tallage/nat"
)

// texts are writings of naturals, of all lengths about those of 32 and 64 binary digits, and about the limit.
func texts() []string {
	l := []string{"0", "1", "7", "10", "4294967295", "4294967296", "9223372036854775807", "9223372036854775808", "18446744073709551615", "18446744073709551616"}
	for _, n := range []int{9, 10, 19, 40, 100, 4095, 4096} {
		l = append(l, strings.Repeat("9", n), "1"+strings.Repeat("0", n-1), strings.Repeat("1234567890", 410)[:n])
	}
	return l
}

func fromText(s string) *library.Int {
	v, _ := new(library.Int).SetString(s, 10)
	return v
}

// P3.4

func TestParse(t *testing.T) {
	for _, s := range texts() {
		got, e := big.Parse(s)
		check(t, got, fromText(s), "Parse", s)
		if e != api.OK {
			t.Fatalf("Parse(%s): error %d", s, e)
		}
		if s == "0" {
			continue
		}
		got, e = big.Parse("-" + s)
		check(t, got, fromText("-"+s), "Parse", "-", s)
		if e != api.OK {
			t.Fatalf("Parse(-%s): error %d", s, e)
		}
	}
}

func TestParseOfLess0(t *testing.T) {
	got, e := big.Parse("-0")
	nothing(t, got, "Parse", "-0")
	if e != api.ErrArg {
		t.Errorf("Parse(-0): error %d", e)
	}
}

func TestParseNoNumber(t *testing.T) {
	l := []string{"", " ", "+", "+1", "-+1", "+-1", "--1", "--0", "- 1", " -1", "-1 ", "1-", "1-1", "00", "01", "-00", "-01", "1 ", " 1", "1_0", "1.0", "-1.0", "1e3", "0x1", "-0x1", "abc", "−1", "–1", "１", "\x00", "-\x00", "\xff", "-\xff", "1\n", "-1\n", strings.Repeat("-", 5000)}
	l = append(l, "0"+strings.Repeat("1", 5000), "-0"+strings.Repeat("1", 5000), "-"+strings.Repeat("1", 5000)+"x", strings.Repeat("1", 5000)+"-")
	for b := range 256 {
		if b < '0' || b > '9' {
			l = append(l, string([]byte{byte(b)}), "-"+string([]byte{byte(b)}), "-1"+string([]byte{byte(b)}), "-"+string([]byte{byte(b)})+"1")
		}
	}
	for _, s := range l {
		got, e := big.Parse(s)
		nothing(t, got, "Parse", s)
		if e != api.ErrNumber {
			t.Errorf("Parse(%.20q): error %d", s, e)
		}
	}
}

func TestParseTooLong(t *testing.T) {
	for _, n := range []int{4097, 4098, 5000, 1 << 17} {
		for _, digits := range []string{strings.Repeat("9", n), "1" + strings.Repeat("0", n-1)} {
			for _, s := range []string{digits, "-" + digits} {
				got, e := big.Parse(s)
				nothing(t, got, "Parse", n, "digits")
				if e != api.ErrLimit {
					t.Errorf("Parse of %d bytes: error %d", len(s), e)
				}
			}
		}
	}
}

// TestParseIsNatsOwn holds each text's error against that of layer 2, without the - ahead.
func TestParseIsNatsOwn(t *testing.T) {
	for _, s := range append(texts(), "", "-", "--", "-1", "01", "x", strings.Repeat("1", 4097), strings.Repeat("1", 4097)+"x") {
		for _, ahead := range []string{"", "-"} {
			_, want := nat.Parse(strings.TrimPrefix(ahead+s, "-"))
			if ahead+s == "-0" {
				want = api.ErrArg
			}
			if _, e := big.Parse(ahead + s); e != want {
				t.Errorf("Parse(%.20q): error %d, want %d", ahead+s, e, want)
			}
		}
	}
}

func TestPut(t *testing.T) {
	for _, x := range append(append(small(), long()...), zeros()...) {
		if got, want := big.Put(x), value(x).String(); got != want {
			t.Fatalf("Put(%v): %s, want %s", x, got, want)
		}
	}
	// A writing has no limit of digits, though parsing has one.
	x := number(fromText("-" + strings.Repeat("9", 5000)))
	if got, want := big.Put(x), value(x).String(); got != want {
		t.Errorf("Put of 5000 digits: %d bytes", len(got))
	}
}

// P3.6

func TestPutIsParsed(t *testing.T) {
	most := number(fromText(strings.Repeat("9", 4096)))
	for _, x := range append(append(small(), long()...), most, big.Neg(most)) {
		if back, e := big.Parse(big.Put(x)); !same(back, x) || e != api.OK {
			t.Fatalf("%v put and parsed: %v, %d", x, back, e)
		}
	}
	if _, e := big.Parse(big.Put(big.Sub(big.Neg(most), big.Of(1)))); e != api.ErrLimit {
		t.Errorf("a number of 4097 digits, put and parsed: error %d", e)
	}
}

func TestParsedIsPut(t *testing.T) {
	for _, s := range texts() {
		for _, ahead := range []string{"", "-"} {
			if x, e := big.Parse(ahead + s); e == api.OK && big.Put(x) != ahead+s {
				t.Fatalf("%s%s parsed and put: %s", ahead, s, big.Put(x))
			}
		}
	}
}
