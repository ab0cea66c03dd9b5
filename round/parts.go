package round

import (
	"tallage/big"
	"tallage/rat"
)

// rounded is x's floor, or the number above it, if up tells so of the floor and of what is above it.
func rounded(x rat.Rat, up func(floor big.Int, rest rat.Rat) bool) big.Int {
	floor, rest := parts(x)
	if up(floor, rest) {
		return big.Add(floor, big.Of(1))
	}
	return floor
}

// parts are x's floor, and what is above it, in new memory.
func parts(x rat.Rat) (floor big.Int, rest rat.Rat) {
	if !rat.Right(x) {
		return big.Int{}, rat.Whole(0)
	}
	floor, left, _ := big.DivMod(x.Num, x.Den)
	// What goes into what is left, and into Den, goes into Num, too: so nothing but 1 does.
	return floor, rat.Rat{Num: left, Den: big.Sum(x.Den)}
}

// sideOfHalf is -1, 0, 1: rest, which is right, is below, at, above a half.
func sideOfHalf(rest rat.Rat) int {
	return big.Cmp(big.Add(rest.Num, rest.Num), rest.Den)
}

// isOdd asks a number that is right: its first limb tells for all of it, on both sides of 0.
func isOdd(n big.Int) bool { return len(n.Mag) > 0 && n.Mag[0]%2 == 1 }

// over is n by d, which is not 0.
func over(n big.Int, d int64) rat.Rat {
	x, _ := rat.New(n, big.Of(d))
	return x
}

// tens is 10 to the n.
func tens(n int) big.Int {
	p := big.Of(1)
	for range n {
		p = big.Mul(p, big.Of(10))
	}
	return p
}
