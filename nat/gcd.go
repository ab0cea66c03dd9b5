package nat

import "tallage/limb"

// Gcd is the greatest divisor of all.
func Gcd(l ...[]uint32) []uint32 {
	var g []uint32
	for _, a := range l {
		g = gcdOfTwo(g, a)
	}
	return g
}

func gcdOfTwo(a, b []uint32) []uint32 {
	a, b = limb.Trim(a), limb.Trim(b)
	if limb.Cmp(a, b) < 0 {
		a, b = b, a
	}
	for limb.Bits(b) > wordBits {
		a, b = lessened(a, b)
	}
	if limb.Bits(a) > wordBits && len(b) > 0 {
		a, b = divided(a, b)
	}
	if len(b) == 0 {
		return a
	}
	return rowOf(gcdOfWords(wordOf(a), wordOf(b)))
}

func gcdOfWords(a, b uint64) uint64 {
	for b != 0 {
		a, b = b, a%b
	}
	return a
}

// divided are two with the same greatest divisor: b, and what b leaves of a.
func divided(a, b []uint32) (c, d []uint32) {
	_, r, _ := DivMod(a, b)
	return b, r
}

// lessened are two with the same greatest divisor as a and b, the greater one first, and neither greater than b. Their first word tells several quotients at once, where whole divisions would go over all limbs for each.
func lessened(a, b []uint32) (c, d []uint32) {
	below := limb.Bits(a) - wordBits
	highA, _ := limb.Shift(a, -below)
	highB, _ := limb.Shift(b, -below)
	u, v := turns(wordOf(highA), wordOf(highB))
	if u.ofB == 0 {
		// Not even one whole turn is sure.
		return divided(a, b)
	}
	return apart(a, b, u), apart(a, b, v)
}

// share tells a rest of a chain of divisions: how often a and how often b it counts, one of both taken away from the other.
type share struct{ ofA, ofB uint64 }

// turns goes through the divisions that begin with a and b, the first words of two longer numbers, as long as they must be those of the longer numbers too, and tells the last two rests.
//
// What a rest lacks by leaving out the lower limbs is less than ofB; so it is sure while the next rest is not less than its own ofB (it is not below 0), and both are as far apart as their two ofB together (it is less than the one ahead). By the first of both, what is told fits in a limb: next times next.ofB is at most a.
func turns(a, b uint64) (u, v share) {
	u, v, next := share{}, share{ofA: 1}, share{ofB: 1}
	for b >= next.ofB && a-b >= v.ofB+next.ofB {
		q := a / b
		a, b = b, a%b
		u, v, next = v, next, share{v.ofA + q*next.ofA, v.ofB + q*next.ofB}
	}
	return u, v
}

// apart is the rest that s tells; which part is taken from which changes from rest to rest.
func apart(a, b []uint32, s share) []uint32 {
	x, y := limb.MulSmall(a, uint32(s.ofA)), limb.MulSmall(b, uint32(s.ofB))
	if limb.Cmp(x, y) < 0 {
		x, y = y, x
	}
	d, _ := limb.Sub(x, y)
	return d
}

// wordOf is a as one word; it has at most two limbs.
func wordOf(a []uint32) uint64 {
	w := uint64(0)
	for i, x := range a {
		w |= uint64(x) << (limbBits * i)
	}
	return w
}

func rowOf(w uint64) []uint32 {
	return limb.Trim([]uint32{uint32(w), uint32(w >> limbBits)})
}
