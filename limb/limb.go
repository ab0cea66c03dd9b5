// Package limb is layer 1: naturals as rows of limbs. See shared/doc/01-limb.md.
package limb

import (
	"math/bits"

	"tallage/api"
)

const (
	limbBits = 32
	maxShift = 1 << 16
)

// halfDigits tells how many binary digits half of a byte has: one fewer than the byte itself. A row for each byte would make the table longer than a table may be.
var halfDigits = [128]uint8{
	0, 1, 2, 2, 3, 3, 3, 3, 4, 4, 4, 4, 4, 4, 4, 4,
	5, 5, 5, 5, 5, 5, 5, 5, 5, 5, 5, 5, 5, 5, 5, 5,
	6, 6, 6, 6, 6, 6, 6, 6, 6, 6, 6, 6, 6, 6, 6, 6,
	6, 6, 6, 6, 6, 6, 6, 6, 6, 6, 6, 6, 6, 6, 6, 6,
	7, 7, 7, 7, 7, 7, 7, 7, 7, 7, 7, 7, 7, 7, 7, 7,
	7, 7, 7, 7, 7, 7, 7, 7, 7, 7, 7, 7, 7, 7, 7, 7,
	7, 7, 7, 7, 7, 7, 7, 7, 7, 7, 7, 7, 7, 7, 7, 7,
	7, 7, 7, 7, 7, 7, 7, 7, 7, 7, 7, 7, 7, 7, 7, 7,
}

// Trim is without noughts at the end.
func Trim(a []uint32) []uint32 {
	// slices.Clone of an empty row would point to where that row points.
	return append([]uint32(nil), used(a)...)
}

// Cmp tells which one is greater.
func Cmp(a, b []uint32) int {
	a, b = used(a), used(b)
	if len(a) != len(b) {
		return sign(len(a) > len(b))
	}
	for i := len(a) - 1; i >= 0; i-- {
		if a[i] != b[i] {
			return sign(a[i] > b[i])
		}
	}
	return 0
}

// Add is the sum.
func Add(a, b []uint32) []uint32 { return Sum(a, b) }

// Sub is the difference.
func Sub(a, b []uint32) ([]uint32, api.Errno) {
	if Cmp(a, b) < 0 {
		return nil, api.ErrArg
	}
	d := Trim(a)
	takeFrom(d, used(b))
	return used(d), api.OK
}

// Sum is the sum of all.
func Sum(l ...[]uint32) []uint32 {
	most := 0
	for _, a := range l {
		most = max(most, len(used(a)))
	}
	// So many rows that their carries need more than two limbs fit in no memory.
	sum := make([]uint32, most+2)
	for _, a := range l {
		addTo(sum, used(a))
	}
	return used(sum)
}

// MulSmall is the product with a limb.
func MulSmall(a []uint32, m uint32) []uint32 {
	a = used(a)
	p := make([]uint32, len(a)+1)
	high := uint32(0)
	for i, x := range a {
		h, low := bits.Mul32(x, m)
		sum, carry := bits.Add32(low, high, 0)
		p[i], high = sum, h+carry
	}
	p[len(a)] = high
	return used(p)
}

// DivSmall is how often a limb goes in, and what is left.
func DivSmall(a []uint32, d uint32) (q []uint32, r uint32, e api.Errno) {
	if d == 0 {
		return nil, 0, api.ErrDivide
	}
	a = used(a)
	q = make([]uint32, len(a))
	for i := len(a) - 1; i >= 0; i-- {
		q[i], r = bits.Div32(r, a[i], d)
	}
	return used(q), r, api.OK
}

// Shift shifts by binary digits.
func Shift(a []uint32, n int) ([]uint32, api.Errno) {
	a = used(a)
	if n < 0 {
		// Unsigned, for the least int's negative is no int.
		return shiftDown(a, -uint(n)), api.OK
	}
	if len(a) == 0 {
		return nil, api.OK
	}
	if n > maxShift {
		return nil, api.ErrLimit
	}
	return shiftUp(a, uint(n)), api.OK
}

// Bits tells how many binary digits there are.
func Bits(a []uint32) int {
	a = used(a)
	if len(a) == 0 {
		return 0
	}
	n := limbBits * (len(a) - 1)
	last := a[len(a)-1]
	for last > 255 {
		last >>= 8
		n += 8
	}
	return n + 1 + int(halfDigits[last>>1])
}

// used is a's own memory without the noughts at its end, so it is handed out only of rows that were made here; 0 is always nil, so that answers of 0 are all alike.
func used(a []uint32) []uint32 {
	n := len(a)
	for n > 0 && a[n-1] == 0 {
		n--
	}
	if n == 0 {
		return nil
	}
	return a[:n]
}

func sign(greater bool) int {
	if greater {
		return 1
	}
	return -1
}

// addTo adds a to sum in place; sum must be long enough for the last carry.
func addTo(sum, a []uint32) {
	carry := uint32(0)
	for i, x := range a {
		sum[i], carry = bits.Add32(sum[i], x, carry)
	}
	for i := len(a); carry != 0; i++ {
		sum[i], carry = bits.Add32(sum[i], 0, carry)
	}
}

// takeFrom takes b from d in place; b must not be greater.
func takeFrom(d, b []uint32) {
	borrow := uint32(0)
	for i, x := range b {
		d[i], borrow = bits.Sub32(d[i], x, borrow)
	}
	for i := len(b); borrow != 0; i++ {
		d[i], borrow = bits.Sub32(d[i], 0, borrow)
	}
}

func shiftUp(a []uint32, n uint) []uint32 {
	limbs, digits := int(n/limbBits), n%limbBits
	s := make([]uint32, len(a)+limbs+1)
	for i, x := range a {
		// A shift by all 32 digits, where digits is 0, leaves 0.
		s[i+limbs] |= x << digits
		s[i+limbs+1] = x >> (limbBits - digits)
	}
	return used(s)
}

func shiftDown(a []uint32, n uint) []uint32 {
	limbs, digits := n/limbBits, n%limbBits
	if limbs >= uint(len(a)) {
		return nil
	}
	a = a[limbs:]
	s := make([]uint32, len(a))
	for i, x := range a {
		s[i] = x >> digits
		if i > 0 {
			s[i-1] |= x << (limbBits - digits)
		}
	}
	return used(s)
}
