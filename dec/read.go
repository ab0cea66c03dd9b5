package dec

import (
	"cmp"
	"strings"

	"tallage/api"
	"tallage/big"
	"tallage/nat"
	"tallage/rat"
)

// left is the text that is left to be read.
type left string

// take tells whether that stands ahead, and takes it off then.
func (l *left) take(ahead string) bool {
	after, found := strings.CutPrefix(string(*l), ahead)
	*l = left(after)
	return found
}

// digits takes off all digits that stand ahead.
func (l *left) digits() string {
	n := 0
	for n < len(*l) && (*l)[n] >= '0' && (*l)[n] <= '9' {
		n++
	}
	taken := string((*l)[:n])
	*l = (*l)[n:]
	return taken
}

// reader takes decimals off the text that is left.
type reader struct{ left }

// decimal is one as it is written, part by part.
type decimal struct {
	neg           bool
	whole, places string
}

// decimalOf is the decimal that all of s is, but for what stands behind it.
func decimalOf(s, behind string) (d decimal, ok bool) {
	r := reader{left(s)}
	d, ok = r.decimal()
	if !ok || string(r.left) != behind {
		return decimal{}, false
	}
	return d, true
}

// decimal takes off as much as may belong to a decimal, and tells whether that is one.
func (r *reader) decimal() (d decimal, ok bool) {
	d.neg = r.take("-")
	d.whole = r.digits()
	stop := r.take(".")
	if stop {
		d.places = r.digits()
	}
	switch {
	case d.whole == "", d.whole[0] == '0' && len(d.whole) > 1, stop && d.places == "", d.neg && d.isNought():
		return decimal{}, false
	}
	return d, true
}

// isNought tells whether it says 0.
func (d decimal) isNought() bool {
	return strings.Trim(d.whole, "0") == "" && strings.Trim(d.places, "0") == ""
}

// limited is the number that it says, if it has no more digits than it may.
func (d decimal) limited() (rat.Rat, api.Errno) {
	if len(d.whole)+len(d.places) > api.MaxDigits {
		return rat.Rat{}, api.ErrLimit
	}
	return d.number(), api.OK
}

// number is what it says; its places must not be too many for a power.
func (d decimal) number() rat.Rat {
	// Noughts that stood behind the full stop may now stand ahead of all, where a natural has none.
	above, _ := nat.Parse(cmp.Or(strings.TrimLeft(d.whole+d.places, "0"), "0"))
	below, _ := nat.Pow(10, len(d.places))
	x, _ := rat.New(big.Int{Neg: d.neg, Mag: above}, big.Int{Mag: below})
	return x
}
