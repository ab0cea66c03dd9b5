package sound_test

import (
	library "math/big"
	"math/rand/v2"
	"slices"
	"strconv"

	"tallage/api"
	"tallage/ast"
	"tallage/rat"
)

// maker makes filings at random.
type maker struct{ *rand.Rand }

func newMaker(seed uint64) maker { return maker{rand.New(rand.NewPCG(seed, seed+1))} }

func pick[T any](m maker, l ...T) T { return l[m.IntN(len(l))] }

func shuffled[T any](m maker, l []T) []T {
	l = slices.Clone(l)
	m.Shuffle(len(l), func(i, j int) { l[i], l[j] = l[j], l[i] })
	return l
}

func by(n, d int64) rat.Rat {
	v := library.NewRat(n, d)
	return rat.Rat{Num: number(v.Num()), Den: number(v.Denom())}
}

// sound is a filing that keeps all rules.
func (m maker) sound() ast.Filing {
	f := ast.Filing{
		Name: "F", Threshold: by(1+m.Int64N(1_000_000), 1_000_000), Cap: by(m.Int64N(101), 100), Back: m.IntN(4), Forward: m.IntN(41),
		Interest: by(m.Int64N(101), 100), Floor: by(m.Int64N(1000), 100), Keep: m.IntN(41), Classes: m.classes(),
	}
	for from := int64(0); len(f.Brackets) <= m.IntN(10); from += 1 + m.Int64N(5) {
		f.Brackets = append(f.Brackets, ast.Bracket{From: by(from, 100), Rate: by(m.Int64N(101), 100)})
	}
	for i := range 1 + m.IntN(7) {
		f.Entities = append(f.Entities, pick(m, "a", "B", "c-")+strconv.Itoa(i))
	}
	f.Parent = pick(m, f.Entities...)
	first := 1 + m.IntN(9990)
	// What of each item's goods is not sold yet, of the years ahead.
	left, ids := map[string]int64{}, []string{}
	for i := range 1 + m.IntN(5) {
		y := ast.Year{Number: first + i, Holds: m.holds(f), Deals: m.deals(f, i)}
		for range m.IntN(4) {
			y.Books = append(y.Books, ast.Book{Entity: pick(m, f.Entities...), Class: pick(m, f.Classes...).Name, Amount: by(m.Int64N(2000)-1000, 100)})
		}
		for _, id := range ids {
			for range m.IntN(3) {
				share := m.Int64N(left[id] + 1)
				left[id] -= share
				y.Solds = append(y.Solds, ast.Sold{ID: id, Share: by(share, 100)})
			}
		}
		y.Solds = shuffled(m, y.Solds)
		for _, d := range y.Deals {
			if d.Give && d.Kind == api.Goods && m.IntN(2) == 0 {
				margin := new(library.Rat).Mul(value(d.Amount), library.NewRat(m.Int64N(101), 1))
				// In whole cents, and not above the amount.
				cents := new(library.Int).Div(margin.Num(), margin.Denom())
				y.Stocks = append(y.Stocks, ast.Stock{ID: d.ID, Margin: by(cents.Int64(), 100), Unsold: by(m.Int64N(101), 100)})
				ids, left[d.ID] = append(ids, d.ID), 100
			}
		}
		y.Deals = shuffled(m, y.Deals)
		f.Years = append(f.Years, y)
	}
	return f
}

// classes are some of each kind.
func (m maker) classes() []ast.Class {
	l := []ast.Class{}
	for kind := api.Income; kind <= api.Distribution; kind++ {
		for i := range 1 + m.IntN(2) {
			c := ast.Class{Name: "k" + strconv.Itoa(int(kind)) + "ab"[:i], Kind: kind, Arg: of("0")}
			switch kind {
			case api.Denied:
				c.Arg = by(m.Int64N(101), 100)
			case api.Capped:
				c.Arg = by(m.Int64N(1000), 100)
			case api.Deferred:
				c.Arg = by(1+m.Int64N(40), 1)
			}
			l = append(l, c)
		}
	}
	return shuffled(m, l)
}

// holds go from each entity to those behind it in some order, which the parent leads.
func (m maker) holds(f ast.Filing) []ast.Hold {
	order := shuffled(m, f.Entities)
	i := slices.Index(order, f.Parent)
	order[0], order[i] = order[i], order[0]
	l := []ast.Hold{}
	for i := 1; i < len(order); i++ {
		left := int64(1_000_000)
		for _, owner := range shuffled(m, order[:i])[:m.IntN(i+1)] {
			share := min(left, pick(m, 1, 500_000, 1_000_000, 1+m.Int64N(1_000_000)))
			if share > 0 {
				l = append(l, ast.Hold{Owner: owner, Owned: order[i], Share: by(share, 1_000_000)})
			}
			left -= share
		}
	}
	return shuffled(m, l)
}

// deals are both sides of some items.
func (m maker) deals(f ast.Filing, year int) []ast.Deal {
	if len(f.Entities) < 2 {
		return nil
	}
	l := []ast.Deal{}
	for i := range m.IntN(5) {
		two := shuffled(m, f.Entities)
		d := ast.Deal{
			Give: true, ID: "i" + strconv.Itoa(year) + "-" + strconv.Itoa(i), Kind: uint8(1 + m.IntN(4)),
			Payee: two[0], Payer: two[1], Amount: by(1+m.Int64N(10_000), 100),
		}
		if m.IntN(2) == 0 {
			d.Kind = api.Goods
		}
		e := d
		e.Give = false
		for _, c := range shuffled(m, f.Classes) {
			if wantFits(d.Kind, true, c.Kind) {
				d.Class = c.Name
			}
			if wantFits(d.Kind, false, c.Kind) {
				e.Class = c.Name
			}
		}
		l = append(l, d, e)
	}
	return l
}

// change does something to a filing, that stays right, at some place.
func (m maker) change(f *ast.Filing) {
	names := append([]string{"none"}, f.Entities...)
	name := func(to *string) { *to = pick(m, names...) }
	switch m.IntN(8) {
	case 0:
		f.Threshold = by(m.Int64N(2), 1)
		f.Floor = by(m.Int64N(3)-1, 100)
	case 1:
		f.Brackets = changed(m, f.Brackets, func(b *ast.Bracket) { b.From = by(m.Int64N(20)-1, 100) })
	case 2:
		f.Classes = changed(m, f.Classes, func(c *ast.Class) {
			*c = pick(m, f.Classes...)
			switch c.Kind {
			case api.Capped:
				c.Arg = by(m.Int64N(3)-1, 100)
			case api.Deferred:
				c.Arg = by(m.Int64N(3), 1)
			}
		})
	case 3:
		f.Entities = changed(m, f.Entities, name)
		if m.IntN(3) == 0 {
			name(&f.Parent)
		}
	case 4:
		f.Years = changed(m, f.Years, func(y *ast.Year) { y.Number += m.IntN(3) })
	default:
		if len(f.Years) > 0 {
			m.changeYear(&f.Years[m.IntN(len(f.Years))], *f, name)
		}
	}
}

func (m maker) changeYear(y *ast.Year, f ast.Filing, name func(*string)) {
	ids := []string{"none"}
	for _, year := range f.Years {
		for _, d := range year.Deals {
			ids = append(ids, d.ID)
		}
	}
	switch m.IntN(7) {
	case 0:
		h := ast.Hold{Share: by(m.Int64N(3), 1_000_000)}
		name(&h.Owner)
		name(&h.Owned)
		y.Holds = append(y.Holds, h)
	case 1:
		y.Holds = changed(m, y.Holds, func(h *ast.Hold) {
			pick(m, func() { name(&h.Owner) }, func() { name(&h.Owned) }, func() { h.Share = by(m.Int64N(9), 8) }, func() { h.Owner, h.Owned = h.Owned, h.Owner })()
		})
	case 2:
		y.Books = changed(m, y.Books, func(b *ast.Book) { pick(m, name, func(*string) { b.Class = "none" })(&b.Entity) })
	case 3, 4:
		y.Deals = changed(m, y.Deals, func(d *ast.Deal) {
			pick(m, func() { name(&d.Payee) }, func() { name(&d.Payer) }, func() { d.ID = pick(m, ids...) }, func() { d.Give = !d.Give },
				func() { d.Class = pick(m, append(f.Classes, ast.Class{Name: "none"})...).Name }, func() { d.Kind = uint8(1 + m.IntN(4)) }, func() { d.Amount = by(m.Int64N(3)-1, 100) })()
		})
	case 5:
		y.Stocks = changed(m, y.Stocks, func(s *ast.Stock) {
			pick(m, func() { s.ID = pick(m, ids...) }, func() { s.Margin = by(m.Int64N(200)-20, 100) })()
		})
	case 6:
		y.Solds = changed(m, y.Solds, func(s *ast.Sold) {
			pick(m, func() { s.ID = pick(m, ids...) }, func() { s.Share = by(m.Int64N(101), 100) })()
		})
	}
}

// changed is a row of which one is left out, stands twice, stands elsewhere, or is set otherwise.
func changed[T any](m maker, row []T, set func(*T)) []T {
	if len(row) == 0 {
		return row
	}
	row = slices.Clone(row)
	i, j := m.IntN(len(row)), m.IntN(len(row))
	switch m.IntN(6) {
	case 0:
		return slices.Delete(row, i, i+1)
	case 1:
		return slices.Insert(row, j, row[i])
	case 2:
		row[i], row[j] = row[j], row[i]
	default:
		set(&row[i])
	}
	return row
}

// loose is a filing that is right, of few names, so that much of it breaks rules.
func (m maker) loose() ast.Filing {
	name := func() string { return pick(m, "a", "b", "c", "d", "e") }
	cents := func() rat.Rat { return by(m.Int64N(6)-1, 100) }
	share := func() rat.Rat { return by(m.Int64N(5), pick[int64](m, 4, 4, 20)) }
	f := ast.Filing{Name: "F", Parent: name(), Threshold: share(), Cap: share(), Interest: share(), Floor: cents()}
	for range m.IntN(4) {
		f.Brackets = append(f.Brackets, ast.Bracket{From: cents(), Rate: share()})
	}
	for range m.IntN(8) {
		c := ast.Class{Name: name(), Kind: uint8(1 + m.IntN(11)), Arg: of("0")}
		if c.Kind == api.Capped {
			c.Arg = cents()
		}
		f.Classes = append(f.Classes, c)
	}
	for range m.IntN(6) {
		f.Entities = append(f.Entities, name())
	}
	number := 1 + m.IntN(10)
	for range m.IntN(5) {
		f.Years = append(f.Years, m.looseYear(number, name, cents, share))
		number += pick(m, 1, 1, 1, 0, 2)
	}
	return f
}

func (m maker) looseYear(number int, name func() string, cents, share func() rat.Rat) ast.Year {
	y := ast.Year{Number: number}
	for range m.IntN(9) {
		y.Holds = append(y.Holds, ast.Hold{Owner: name(), Owned: name(), Share: share()})
	}
	for range m.IntN(3) {
		y.Books = append(y.Books, ast.Book{Entity: name(), Class: name(), Amount: cents()})
	}
	for range m.IntN(6) {
		d := ast.Deal{Give: m.IntN(2) == 0, ID: name(), Kind: uint8(1 + m.IntN(4)), Payee: name(), Payer: name(), Class: name(), Amount: cents()}
		y.Deals = append(y.Deals, d)
		if m.IntN(2) == 0 {
			d.Give, d.Class = !d.Give, name()
			y.Deals = append(y.Deals, d)
		}
	}
	for range m.IntN(4) {
		y.Stocks = append(y.Stocks, ast.Stock{ID: name(), Margin: cents(), Unsold: share()})
	}
	for range m.IntN(4) {
		y.Solds = append(y.Solds, ast.Sold{ID: name(), Share: share()})
	}
	return y
}
