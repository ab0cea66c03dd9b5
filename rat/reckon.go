package rat

import "tallage/big"

// The functions here take fractions that are right (but foremost, joined and counted, which take any), and may answer in their memory unless it is said to be new; so copied stands where such an answer leaves the package.

// order is one in which fractions stand in a row.
type order int

const (
	rising  order = 1
	falling order = -1
)

// ahead tells whether a stands ahead of b.
func (o order) ahead(a, b Rat) bool { return compared(a, b) == -int(o) }

// foremost is the one of all that no other one is ahead of.
func foremost(ahead func(a, b Rat) bool, first Rat, l []Rat) Rat {
	best := counted(first)
	for _, x := range l {
		if x = counted(x); ahead(x, best) {
			best = x
		}
	}
	return best
}

// joined is all of l put together two by two, or none if there is nothing; it must not matter how they are parted.
func joined(none Rat, two func(a, b Rat) Rat, l []Rat) Rat {
	switch len(l) {
	case 0:
		return none
	case 1:
		return counted(l[0])
	}
	// By halves, for one by one the long numbers would be gone over once a fraction.
	half := len(l) / 2
	return two(joined(none, two, l[:half]), joined(none, two, l[half:]))
}

// sumOfTwo is in new memory. Both being right, only a divisor of both numbers below can go into what is then above and below, so no number need be longer than that.
func sumOfTwo(a, b Rat) Rat {
	g := big.Gcd(a.Den, b.Den)
	below := by(a.Den, g)
	above := big.Add(big.Mul(a.Num, by(b.Den, g)), big.Mul(b.Num, below))
	h := big.Gcd(above, g)
	return Rat{Num: by(above, h), Den: big.Mul(below, by(b.Den, h))}
}

// productOfTwo is in new memory. Both being right, only what is above in one and below in the other can have a divisor.
func productOfTwo(a, b Rat) Rat {
	g, h := big.Gcd(a.Num, b.Den), big.Gcd(b.Num, a.Den)
	return Rat{Num: big.Mul(by(a.Num, g), by(b.Num, h)), Den: big.Mul(by(a.Den, h), by(b.Den, g))}
}

// compared is -1, 0, 1: both numbers below are above 0, so to multiply by them keeps the order.
func compared(a, b Rat) int { return big.Cmp(big.Mul(a.Num, b.Den), big.Mul(b.Num, a.Den)) }

// counted is what a fraction counts as that is handed in.
func counted(x Rat) Rat {
	if !Right(x) {
		return Whole(0)
	}
	return x
}

// turned is the fraction on the other side of 0.
func turned(x Rat) Rat { return Rat{Num: big.Neg(x.Num), Den: x.Den} }

// upsideDown is 1 by x, which is not 0.
func upsideDown(x Rat) Rat {
	if big.Sign(x.Num) < 0 {
		return Rat{Num: big.Neg(x.Den), Den: big.Neg(x.Num)}
	}
	return Rat{Num: x.Den, Den: x.Num}
}

// copied is x in new memory.
func copied(x Rat) Rat { return Rat{Num: big.Sum(x.Num), Den: big.Sum(x.Den)} }

// by is n by d, which is not 0 and goes into n.
func by(n, d big.Int) big.Int {
	q, _, _ := big.DivMod(n, d)
	return q
}
