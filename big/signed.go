package big

import "tallage/limb"

// signed is a number that is right, and only read: its memory is another's.
type signed struct{ Int }

// counted is what a number counts as that is handed in.
func counted(x Int) signed {
	if !Right(x) {
		return signed{}
	}
	return signed{x}
}

// number is the one of that sign and of a trimmed row, which it keeps; 0 has no sign.
func number(neg bool, mag []uint32) Int {
	return Int{Neg: neg && len(mag) > 0, Mag: mag}
}

// difference is above less below.
func difference(above, below []uint32) Int {
	if limb.Cmp(above, below) < 0 {
		d, _ := limb.Sub(below, above)
		return number(true, d)
	}
	d, _ := limb.Sub(above, below)
	return number(false, d)
}

// turned is the number on the other side of 0, in the same memory.
func (s signed) turned() Int { return number(!s.Neg, s.Mag) }

// unlike tells whether just one of both is below 0.
func (s signed) unlike(t signed) bool { return s.Neg != t.Neg }

// word is how far it is from 0; it has at most two limbs.
func (s signed) word() uint64 {
	w := uint64(0)
	for i, x := range s.Mag {
		w |= uint64(x) << (limbBits * i)
	}
	return w
}
