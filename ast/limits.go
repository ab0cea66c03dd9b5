package ast

import (
	"cmp"
	"slices"

	"tallage/api"
	"tallage/rat"
)

const (
	// noYear is the year's place of what is in none.
	noYear = -1

	mostBack = 3
	// longest is how many years anything may wait for.
	longest = 40
	// lastYear is the greatest number of a year.
	lastYear = 9999
)

// numbered is a part of the list of limits, with its number there: it asks a filing, or a year, for the place that breaks it, and the error.
type numbered[T any] struct {
	part uint8
	ask  func(T) (int, api.Errno)
}

func partsOfFiling() []numbered[Filing] {
	return []numbered[Filing]{{1, Filing.names}, {2, Filing.brackets}, {3, Filing.law}, {4, Filing.classes}, {5, Filing.entities}, {6, Filing.years}}
}

func partsOfYear() []numbered[Year] {
	return []numbered[Year]{{7, Year.holds}, {8, Year.books}, {9, Year.deals}, {10, Year.stocks}, {11, Year.solds}}
}

// firstBroken asks part by part, until a limit is broken.
func firstBroken[T any](of T, year int, parts ...numbered[T]) (Place, api.Errno) {
	for _, p := range parts {
		if at, e := p.ask(of); e != api.OK {
			return Place{Part: p.part, Year: year, At: at}, e
		}
	}
	return Place{}, api.OK
}

// broken is the place of a row's first part that breaks its rule, or is one too many.
func broken[T any](row []T, most int, rule func(T) bool) (at int, e api.Errno) {
	for i, x := range row {
		switch {
		case i == most:
			return i, api.ErrLimit
		case !rule(x):
			return i, api.ErrArg
		}
	}
	return 0, api.OK
}

func (f Filing) names() (int, api.Errno) {
	row := []string{f.Name, f.Parent}
	return broken(row, len(row), IsName)
}

func (f Filing) brackets() (int, api.Errno) {
	return broken(f.Brackets, api.MaxBrackets, Bracket.right)
}

func (f Filing) law() (int, api.Errno) {
	kept := []bool{
		IsShare(f.Threshold), IsShare(f.Cap), IsShare(f.Interest),
		within(f.Back, 0, mostBack), within(f.Forward, 0, longest), within(f.Keep, 0, longest),
		IsMoney(f.Floor),
	}
	if at := slices.Index(kept, false); at >= 0 {
		return at, api.ErrArg
	}
	return 0, api.OK
}

func (f Filing) classes() (int, api.Errno) { return broken(f.Classes, api.MaxClasses, Class.right) }

func (f Filing) entities() (int, api.Errno) { return broken(f.Entities, api.MaxEntities, IsName) }

func (f Filing) years() (int, api.Errno) { return broken(f.Years, api.MaxYears, Year.right) }

func (y Year) holds() (int, api.Errno) { return broken(y.Holds, api.MaxItems, Hold.right) }

func (y Year) books() (int, api.Errno) { return broken(y.Books, api.MaxItems, Book.right) }

func (y Year) deals() (int, api.Errno) { return broken(y.Deals, api.MaxItems, Deal.right) }

func (y Year) stocks() (int, api.Errno) { return broken(y.Stocks, api.MaxItems, Stock.right) }

func (y Year) solds() (int, api.Errno) { return broken(y.Solds, api.MaxItems, Sold.right) }

func (b Bracket) right() bool { return IsMoney(b.From) && IsShare(b.Rate) }

func (c Class) right() bool {
	return IsName(c.Name) && within(c.Kind, api.Income, api.Distribution) && c.rightArg()
}

func (c Class) rightArg() bool {
	switch c.Kind {
	case api.Denied:
		return IsShare(c.Arg)
	case api.Capped:
		return IsMoney(c.Arg)
	case api.Deferred:
		return wholeIn(c.Arg, 1) && upTo(c.Arg, longest)
	}
	// What isn't right counts as 0 to layer 4, but is none: a line without an argument is read back as the right 0 alone.
	return wholeIn(c.Arg, 1) && upTo(c.Arg, 0)
}

// right asks a year's number alone: what is in the year comes later.
func (y Year) right() bool { return within(y.Number, 1, lastYear) }

func (h Hold) right() bool { return IsName(h.Owner) && IsName(h.Owned) && IsShare(h.Share) }

func (b Book) right() bool { return IsName(b.Entity) && IsName(b.Class) && IsMoney(b.Amount) }

func (d Deal) right() bool {
	return IsName(d.ID) && within(d.Kind, api.Goods, api.Payout) &&
		IsName(d.Payee) && IsName(d.Payer) && IsName(d.Class) && IsMoney(d.Amount)
}

func (s Stock) right() bool { return IsName(s.ID) && IsMoney(s.Margin) && IsShare(s.Unsold) }

func (s Sold) right() bool { return IsName(s.ID) && IsShare(s.Share) }

func within[T cmp.Ordered](n, least, most T) bool { return n >= least && n <= most }

// wholeIn tells whether a fraction is right, and a whole number of the parts that 1 has so many of.
func wholeIn(x rat.Rat, parts uint32) bool {
	below := x.Den.Mag
	// In lowest terms, it is one just if what is below goes into the parts. This is asked first, for whether a long fraction is right takes long to tell.
	return len(below) == 1 && below[0] > 0 && parts%below[0] == 0 && rat.Right(x)
}

func upTo(x rat.Rat, most int64) bool {
	return rat.Sign(x) >= 0 && rat.Cmp(x, rat.Whole(most)) <= 0
}
