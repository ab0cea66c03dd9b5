package print_test

import (
	"encoding/binary"
	library "math/big"
	"math/rand/v2"
	"strconv"
	"strings"

	"tallage/api"
	"tallage/ast"
	"tallage/big"
	"tallage/rat"
)

// The oracle: a filing's lines, of the library's numbers.

// of is the right fraction that the library reads.
func of(s string) rat.Rat {
	v, ok := new(library.Rat).SetString(s)
	if !ok {
		panic(s)
	}
	return fraction(v)
}

func fraction(v *library.Rat) rat.Rat { return rat.Rat{Num: number(v.Num()), Den: number(v.Denom())} }

func number(v *library.Int) big.Int {
	b := v.FillBytes(make([]byte, (v.BitLen()+31)/32*4))
	n := big.Int{Neg: v.Sign() < 0}
	for ; len(b) > 0; b = b[:len(b)-4] {
		n.Mag = append(n.Mag, binary.BigEndian.Uint32(b[len(b)-4:]))
	}
	return n
}

// value is what a fraction counts as.
func value(x rat.Rat) *library.Rat {
	if !rat.Right(x) {
		return new(library.Rat)
	}
	whole := func(n big.Int) *library.Int {
		v := new(library.Int)
		for i := len(n.Mag) - 1; i >= 0; i-- {
			v.Lsh(v, 32).Add(v, library.NewInt(int64(n.Mag[i])))
		}
		if n.Neg {
			v.Neg(v)
		}
		return v
	}
	return new(library.Rat).SetFrac(whole(x.Num), whole(x.Den))
}

// written is a fraction with so many places, the nearest one, of two the even one.
func written(x rat.Rat, places int) string {
	v := value(x)
	scale := new(library.Int).Exp(library.NewInt(10), library.NewInt(int64(places)), nil)
	v.Mul(v, new(library.Rat).SetInt(scale))
	n, rest := new(library.Int).DivMod(v.Num(), v.Denom(), new(library.Int))
	up := rest.Lsh(rest, 1).Cmp(v.Denom())
	if up > 0 || up == 0 && n.Bit(0) == 1 {
		n.Add(n, library.NewInt(1))
	}
	return new(library.Rat).SetFrac(n, scale).FloatString(places)
}

func money(x rat.Rat) string { return written(x, 2) }

func share(x rat.Rat) string {
	v := value(x)
	v.Mul(v, library.NewRat(100, 1))
	if v.Sign() < 0 || v.Cmp(library.NewRat(100, 1)) > 0 {
		return ""
	}
	for places := range 5 {
		s := v.FloatString(places)
		if back, _ := new(library.Rat).SetString(s); back.Cmp(v) == 0 {
			return s + "%"
		}
	}
	return ""
}

var (
	classKinds = []string{"", "income", "expense", "exempt", "denied", "capped", "deferred", "depreciation", "interest-in", "interest-out", "dividend", "distribution"}
	dealKinds  = []string{"", "goods", "service", "interest", "dividend"}
)

func wordOf(kinds []string, kind uint8) string {
	if int(kind) < len(kinds) {
		return kinds[kind]
	}
	return ""
}

func wantClass(c ast.Class) string {
	s := "class " + c.Name + " " + wordOf(classKinds, c.Kind)
	switch c.Kind {
	case api.Denied:
		s += " " + share(c.Arg)
	case api.Capped:
		s += " " + money(c.Arg)
	case api.Deferred:
		s += " " + written(c.Arg, 0)
	}
	return s
}

func wantDeal(d ast.Deal) string {
	s := map[bool]string{true: "give ", false: "take "}[d.Give]
	return s + d.ID + " " + wordOf(dealKinds, d.Kind) + " " + d.Payee + " " + d.Payer + " " + d.Class + " " + money(d.Amount)
}

// wantPrinted is the text of a filing that is right.
func wantPrinted(f ast.Filing) string {
	var b strings.Builder
	put := func(s string) { b.WriteString(s + "\n") }
	put("filing " + f.Name + " " + f.Parent)
	for _, x := range f.Brackets {
		put("bracket " + money(x.From) + " " + share(x.Rate))
	}
	put("threshold " + share(f.Threshold))
	put("cap " + share(f.Cap))
	put("back " + strconv.Itoa(f.Back))
	put("forward " + strconv.Itoa(f.Forward))
	put("interest " + share(f.Interest) + " " + money(f.Floor) + " " + strconv.Itoa(f.Keep))
	for _, x := range f.Classes {
		put(wantClass(x))
	}
	for _, x := range f.Entities {
		put("entity " + x)
	}
	for _, y := range f.Years {
		put("year " + strconv.Itoa(y.Number))
		for _, x := range y.Holds {
			put("hold " + x.Owner + " " + x.Owned + " " + share(x.Share))
		}
		for _, x := range y.Books {
			put("book " + x.Entity + " " + x.Class + " " + money(x.Amount))
		}
		for _, x := range y.Deals {
			put(wantDeal(x))
		}
		for _, x := range y.Stocks {
			put("stock " + x.ID + " " + money(x.Margin) + " " + share(x.Unsold))
		}
		for _, x := range y.Solds {
			put("sold " + x.ID + " " + share(x.Share))
		}
	}
	return b.String()
}

// maker makes right filings at random.
type maker struct{ *rand.Rand }

func (m maker) name() string {
	const first, next = "abcXYZ", "abzAZ059_-"
	b := []byte{first[m.IntN(len(first))]}
	for range m.IntN(4) * m.IntN(3) * m.IntN(6) {
		b = append(b, next[m.IntN(len(next))])
	}
	return string(b)
}

func (m maker) money() rat.Rat {
	digits := m.IntN(33)
	n := new(library.Int)
	for range digits {
		n.Mul(n, library.NewInt(10)).Add(n, library.NewInt(int64(m.IntN(10))))
	}
	if m.IntN(3) == 0 {
		n.Neg(n)
	}
	return fraction(new(library.Rat).SetFrac(n, library.NewInt(100)))
}

func (m maker) share() rat.Rat {
	unit := []int64{1, 2, 10, 100, 1000, 10_000, 1_000_000}[m.IntN(7)]
	return fraction(library.NewRat(m.Int64N(unit+1), unit))
}

func (m maker) class() ast.Class {
	c := ast.Class{Name: m.name(), Kind: uint8(1 + m.IntN(11)), Arg: of("0")}
	switch c.Kind {
	case api.Denied:
		c.Arg = m.share()
	case api.Capped:
		c.Arg = m.money()
	case api.Deferred:
		c.Arg = of(strconv.Itoa(m.IntN(41)))
	}
	return c
}

func (m maker) deal() ast.Deal {
	return ast.Deal{Give: m.IntN(2) == 0, ID: m.name(), Kind: uint8(1 + m.IntN(4)), Payee: m.name(), Payer: m.name(), Class: m.name(), Amount: m.money()}
}

// row is some of what can be made, often none.
func row[T any](m maker, most int, make func() T) []T {
	var l []T
	for range m.IntN(2) * m.IntN(most+1) {
		l = append(l, make())
	}
	return l
}

func (m maker) year() ast.Year {
	return ast.Year{
		Number: 1 + m.IntN(9999),
		Holds:  row(m, 5, func() ast.Hold { return ast.Hold{Owner: m.name(), Owned: m.name(), Share: m.share()} }),
		Books:  row(m, 5, func() ast.Book { return ast.Book{Entity: m.name(), Class: m.name(), Amount: m.money()} }),
		Deals:  row(m, 5, m.deal),
		Stocks: row(m, 5, func() ast.Stock { return ast.Stock{ID: m.name(), Margin: m.money(), Unsold: m.share()} }),
		Solds:  row(m, 5, func() ast.Sold { return ast.Sold{ID: m.name(), Share: m.share()} }),
	}
}

func (m maker) filing() ast.Filing {
	return ast.Filing{
		Name: m.name(), Parent: m.name(),
		Brackets:  row(m, 16, func() ast.Bracket { return ast.Bracket{From: m.money(), Rate: m.share()} }),
		Threshold: m.share(), Cap: m.share(), Back: m.IntN(4), Forward: m.IntN(41), Interest: m.share(), Floor: m.money(), Keep: m.IntN(41),
		Classes:  row(m, 30, m.class),
		Entities: row(m, 30, m.name),
		Years:    row(m, 10, m.year),
	}
}
