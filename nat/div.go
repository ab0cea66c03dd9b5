package nat

import (
	"math/bits"

	"tallage/api"
	"tallage/limb"
)

// DivMod is how often b goes into a, and what is left.
func DivMod(a, b []uint32) (q, r []uint32, e api.Errno) {
	a, b = limb.Trim(a), limb.Trim(b)
	switch {
	case len(b) == 0:
		return nil, nil, api.ErrDivide
	case limb.Cmp(a, b) < 0:
		return nil, a, api.OK
	case len(b) == 1:
		q, last, _ := limb.DivSmall(a, b[0])
		return q, limb.Trim([]uint32{last}), api.OK
	}
	q, r = divide(a, b)
	return q, r, api.OK
}

// divide is for b of two limbs at least, and not greater than a.
func divide(a, b []uint32) (q, r []uint32) {
	// A guess from the first limbs is near only if the divisor's first binary digit is 1.
	n := limbBits*len(b) - limb.Bits(b)
	v, _ := limb.Shift(b, n)
	shifted, _ := limb.Shift(a, n)
	u := make([]uint32, len(a)+1)
	copy(u, shifted)
	q = make([]uint32, len(u)-len(v))
	for j := len(q) - 1; j >= 0; j-- {
		q[j] = takeDigit(u[j:j+len(v)+1], v)
	}
	r, _ = limb.Shift(u, -n)
	return limb.Trim(q), r
}

// takeDigit tells how often v goes into u, which has a limb more, and leaves the rest in u.
func takeDigit(u, v []uint32) uint32 {
	d := guess(u, v)
	if takeTimes(u, v, d) {
		// Limbs beyond the two that the guess looked at may still make it one too great.
		putBack(u, v)
		d--
	}
	return d
}

// guess is how often v goes into u, or one more.
func guess(u, v []uint32) uint32 {
	n := len(v)
	first, second := uint64(v[n-1]), uint64(v[n-2])
	high := uint64(u[n])<<limbBits | uint64(u[n-1])
	d, rest := high/first, high%first
mend:
	for {
		switch {
		case d > topLimb, d*second > rest<<limbBits|uint64(u[n-2]):
			d--
			rest += first
			if rest > topLimb {
				// What is left is now more than the second limb could ask for.
				break mend
			}
		default:
			break mend
		}
	}
	return uint32(d)
}

// takeTimes takes d times v from u in place, and tells whether that was too much: then a 1 is lent from beyond u.
func takeTimes(u, v []uint32, d uint32) bool {
	carry, borrow := uint64(0), uint32(0)
	for i, x := range v {
		carry += uint64(x) * uint64(d)
		u[i], borrow = bits.Sub32(u[i], uint32(carry), borrow)
		carry >>= limbBits
	}
	u[len(v)], borrow = bits.Sub32(u[len(v)], uint32(carry), borrow)
	return borrow != 0
}

// putBack adds v to u in place; the last carry gives back what takeTimes lent.
func putBack(u, v []uint32) {
	carry := uint32(0)
	for i, x := range v {
		u[i], carry = bits.Add32(u[i], x, carry)
	}
	u[len(v)] += carry
}
