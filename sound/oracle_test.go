package sound_test

import (
	"encoding/binary"
	library "math/big"

	"tallage/api"
	"tallage/ast"
	"tallage/big"
	"tallage/rat"
	"tallage/sound"
)

// The oracle: each rule asked of each thing by itself, as the chapter's table words it, of the library's numbers.

// of is the right fraction that the library reads.
func of(s string) rat.Rat {
	v, ok := new(library.Rat).SetString(s)
	if !ok {
		panic(s)
	}
	return rat.Rat{Num: number(v.Num()), Den: number(v.Denom())}
}

func number(v *library.Int) big.Int {
	b := v.FillBytes(make([]byte, (v.BitLen()+31)/32*4))
	n := big.Int{Neg: v.Sign() < 0}
	for ; len(b) > 0; b = b[:len(b)-4] {
		n.Mag = append(n.Mag, binary.BigEndian.Uint32(b[len(b)-4:]))
	}
	return n
}

// value is the library's number of a right fraction.
func value(x rat.Rat) *library.Rat {
	whole := func(n big.Int) *library.Int {
		v := new(library.Int)
		for i := len(n.Mag) - 1; i >= 0; i-- {
			v.Lsh(v, 32).Add(v, library.NewInt(int64(n.Mag[i])))
		}
		if n.Neg {
			v.Neg(v)
		}
		return v
	}
	return new(library.Rat).SetFrac(whole(x.Num), whole(x.Den))
}

func least(x rat.Rat, n int64) bool { return value(x).Cmp(library.NewRat(n, 1)) >= 0 }

// asked is a rule: how many things it is asked of (in a year, if it is yearly), and whether one of them keeps it.
type asked struct {
	yearly bool
	things func(f ast.Filing, y ast.Year) int
	keeps  func(f ast.Filing, y, i int) bool
}

func wantAll(f ast.Filing) []sound.Fault {
	var l []sound.Fault
	for n, r := range append(oracleOfLaw(), oracleOfYears()...) {
		years := []int{-1}
		if r.yearly {
			years = nil
			for y := range f.Years {
				years = append(years, y)
			}
		}
		for _, y := range years {
			var in ast.Year
			if r.yearly {
				in = f.Years[y]
			}
			for i := range r.things(f, in) {
				if !r.keeps(f, y, i) {
					l = append(l, sound.Fault{Rule: uint8(n + 1), Year: y, At: i})
				}
			}
		}
	}
	return l
}

func oracleOfLaw() []asked {
	one := func(ast.Filing, ast.Year) int { return 1 }
	return []asked{
		{false, func(f ast.Filing, _ ast.Year) int { return max(1, len(f.Brackets)) }, func(f ast.Filing, _, i int) bool {
			switch {
			case len(f.Brackets) == 0:
				return false
			case i == 0:
				return value(f.Brackets[0].From).Sign() == 0
			}
			return value(f.Brackets[i].From).Cmp(value(f.Brackets[i-1].From)) > 0
		}},
		{false, one, func(f ast.Filing, _, _ int) bool {
			return value(f.Threshold).Sign() > 0 && value(f.Floor).Sign() >= 0
		}},
		{false, func(f ast.Filing, _ ast.Year) int { return len(f.Classes) }, func(f ast.Filing, _, i int) bool {
			c := f.Classes[i]
			for _, ahead := range f.Classes[:i] {
				if ahead.Name == c.Name {
					return false
				}
			}
			return (c.Kind != api.Deferred || least(c.Arg, 1)) && (c.Kind != api.Capped || least(c.Arg, 0))
		}},
		{false, func(f ast.Filing, _ ast.Year) int { return len(f.Entities) }, func(f ast.Filing, _, i int) bool {
			return !isIn(f.Entities[:i], f.Entities[i])
		}},
		{false, one, func(f ast.Filing, _, _ int) bool { return isIn(f.Entities, f.Parent) }},
		{false, func(f ast.Filing, _ ast.Year) int { return max(1, len(f.Years)) }, func(f ast.Filing, _, i int) bool {
			return len(f.Years) > 0 && (i == 0 || f.Years[i].Number-f.Years[i-1].Number == 1)
		}},
	}
}

func oracleOfYears() []asked {
	holds := func(_ ast.Filing, y ast.Year) int { return len(y.Holds) }
	deals := func(_ ast.Filing, y ast.Year) int { return len(y.Deals) }
	return []asked{
		{true, holds, func(f ast.Filing, y, i int) bool {
			h := f.Years[y].Holds[i]
			for _, ahead := range f.Years[y].Holds[:i] {
				if ahead.Owner == h.Owner && ahead.Owned == h.Owned {
					return false
				}
			}
			return value(h.Share).Sign() > 0 && isIn(f.Entities, h.Owner) && isIn(f.Entities, h.Owned) && h.Owner != h.Owned && h.Owned != f.Parent
		}},
		{true, holds, func(f ast.Filing, y, i int) bool {
			sum := new(library.Rat)
			for _, h := range f.Years[y].Holds[:i+1] {
				if h.Owned == f.Years[y].Holds[i].Owned {
					sum.Add(sum, value(h.Share))
				}
			}
			return sum.Cmp(library.NewRat(1, 1)) <= 0
		}},
		{true, holds, func(f ast.Filing, y, i int) bool {
			h := f.Years[y].Holds[i]
			return h.Owner != h.Owned && !isIn(ownedBy(h.Owned, f.Years[y].Holds[:i]), h.Owner)
		}},
		{true, func(_ ast.Filing, y ast.Year) int { return len(y.Books) }, func(f ast.Filing, y, i int) bool {
			b := f.Years[y].Books[i]
			return isIn(f.Entities, b.Entity) && kindOf(f, b.Class) > 0
		}},
		{true, deals, func(f ast.Filing, y, i int) bool {
			d := f.Years[y].Deals[i]
			return value(d.Amount).Sign() > 0 && isIn(f.Entities, d.Payee) && isIn(f.Entities, d.Payer) && d.Payee != d.Payer && wantFits(d.Kind, d.Give, kindOf(f, d.Class))
		}},
		{true, deals, wantMatched},
		{true, func(_ ast.Filing, y ast.Year) int { return len(y.Stocks) }, func(f ast.Filing, y, i int) bool {
			s := f.Years[y].Stocks[i]
			for _, ahead := range f.Years[y].Stocks[:i] {
				if ahead.ID == s.ID {
					return false
				}
			}
			for _, d := range f.Years[y].Deals {
				if d.ID == s.ID && d.Kind == api.Goods && value(d.Amount).Cmp(value(s.Margin)) >= 0 && value(s.Margin).Sign() >= 0 {
					return true
				}
			}
			return false
		}},
		{true, func(_ ast.Filing, y ast.Year) int { return len(y.Solds) }, wantSold},
	}
}

func isIn(names []string, name string) bool {
	for _, s := range names {
		if s == name {
			return true
		}
	}
	return false
}

// ownedBy goes over the holds again and again, until nobody more is found.
func ownedBy(owner string, holds []ast.Hold) []string {
	var owned []string
	for more := true; more; {
		more = false
		for _, h := range holds {
			if (h.Owner == owner || isIn(owned, h.Owner)) && !isIn(owned, h.Owned) {
				owned, more = append(owned, h.Owned), true
			}
		}
	}
	return owned
}

func kindOf(f ast.Filing, class string) uint8 {
	for _, c := range f.Classes {
		if c.Name == class {
			return c.Kind
		}
	}
	return 0
}

func wantMatched(f ast.Filing, y, i int) bool {
	d := f.Years[y].Deals[i]
	for _, earlier := range f.Years[:y] {
		for _, other := range earlier.Deals {
			if other.ID == d.ID {
				return false
			}
		}
	}
	others, matching := 0, 0
	for j, other := range f.Years[y].Deals {
		if j == i || other.ID != d.ID {
			continue
		}
		others++
		if other.Give == !d.Give && other.Kind == d.Kind && other.Payee == d.Payee && other.Payer == d.Payer && value(other.Amount).Cmp(value(d.Amount)) == 0 {
			matching++
		}
	}
	return others == 1 && matching == 1
}

func wantSold(f ast.Filing, y, i int) bool {
	id, isThere, sum := f.Years[y].Solds[i].ID, false, new(library.Rat)
	for z, year := range f.Years[:y+1] {
		for j, x := range year.Solds {
			if x.ID == id && (z < y || j <= i) {
				sum.Add(sum, value(x.Share))
			}
		}
		for _, s := range year.Stocks {
			isThere = isThere || z < y && s.ID == id
		}
	}
	return isThere && sum.Cmp(library.NewRat(1, 1)) <= 0
}

// side is a deal's kind, whose record it is, and a class's kind.
type side struct {
	kind  uint8
	give  bool
	class uint8
}

func wantFits(kind uint8, give bool, class uint8) bool {
	switch (side{kind, give, class}) {
	case side{1, true, 1}, side{1, false, 2}, side{1, false, 4}, side{1, false, 5}, side{1, false, 6}, side{1, false, 7},
		side{2, true, 1}, side{2, false, 2}, side{2, false, 4}, side{2, false, 5}, side{2, false, 6}, side{2, false, 7},
		side{3, true, 8}, side{3, false, 9}, side{4, true, 10}, side{4, false, 11}:
		return true
	}
	return false
}
