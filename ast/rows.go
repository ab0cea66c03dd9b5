package ast

import (
	"slices"
	"strings"

	"tallage/rat"
)

// sameLaw holds the law's numbers of both against each other.
func sameLaw(a, b Filing) bool {
	return sameFraction(a.Threshold, b.Threshold) && sameFraction(a.Cap, b.Cap) &&
		a.Back == b.Back && a.Forward == b.Forward &&
		sameFraction(a.Interest, b.Interest) && sameFraction(a.Floor, b.Floor) && a.Keep == b.Keep
}

func (b Bracket) same(c Bracket) bool {
	return sameFraction(b.From, c.From) && sameFraction(b.Rate, c.Rate)
}

func (c Class) same(d Class) bool {
	return c.Name == d.Name && c.Kind == d.Kind && sameFraction(c.Arg, d.Arg)
}

func (y Year) same(z Year) bool {
	return y.Number == z.Number &&
		slices.EqualFunc(y.Holds, z.Holds, Hold.same) &&
		slices.EqualFunc(y.Books, z.Books, Book.same) &&
		slices.EqualFunc(y.Deals, z.Deals, Deal.same) &&
		slices.EqualFunc(y.Stocks, z.Stocks, Stock.same) &&
		slices.EqualFunc(y.Solds, z.Solds, Sold.same)
}

func (h Hold) same(i Hold) bool {
	return h.Owner == i.Owner && h.Owned == i.Owned && sameFraction(h.Share, i.Share)
}

func (b Book) same(c Book) bool {
	return b.Entity == c.Entity && b.Class == c.Class && sameFraction(b.Amount, c.Amount)
}

func (d Deal) same(e Deal) bool {
	return d.Give == e.Give && d.ID == e.ID && d.Kind == e.Kind &&
		d.Payee == e.Payee && d.Payer == e.Payer && d.Class == e.Class && sameFraction(d.Amount, e.Amount)
}

func (s Stock) same(t Stock) bool {
	return s.ID == t.ID && sameFraction(s.Margin, t.Margin) && sameFraction(s.Unsold, t.Unsold)
}

func (s Sold) same(t Sold) bool { return s.ID == t.ID && sameFraction(s.Share, t.Share) }

// sameFraction goes limb by limb, for what is not right counts as 0 to layer 4.
func sameFraction(x, y rat.Rat) bool {
	return x.Num.Neg == y.Num.Neg && slices.Equal(x.Num.Mag, y.Num.Mag) &&
		x.Den.Neg == y.Den.Neg && slices.Equal(x.Den.Mag, y.Den.Mag)
}

// copied is a row of the copies of a row's parts.
func copied[T any](row []T, one func(T) T) []T {
	if row == nil {
		return nil
	}
	all := make([]T, len(row))
	for i, x := range row {
		all[i] = one(x)
	}
	return all
}

func (b Bracket) copied() Bracket {
	return Bracket{From: copiedFraction(b.From), Rate: copiedFraction(b.Rate)}
}

func (c Class) copied() Class {
	return Class{Name: strings.Clone(c.Name), Kind: c.Kind, Arg: copiedFraction(c.Arg)}
}

func (y Year) copied() Year {
	return Year{
		Number: y.Number,
		Holds:  copied(y.Holds, Hold.copied),
		Books:  copied(y.Books, Book.copied),
		Deals:  copied(y.Deals, Deal.copied),
		Stocks: copied(y.Stocks, Stock.copied),
		Solds:  copied(y.Solds, Sold.copied),
	}
}

func (h Hold) copied() Hold {
	return Hold{Owner: strings.Clone(h.Owner), Owned: strings.Clone(h.Owned), Share: copiedFraction(h.Share)}
}

func (b Book) copied() Book {
	return Book{Entity: strings.Clone(b.Entity), Class: strings.Clone(b.Class), Amount: copiedFraction(b.Amount)}
}

func (d Deal) copied() Deal {
	d.ID, d.Class = strings.Clone(d.ID), strings.Clone(d.Class)
	d.Payee, d.Payer = strings.Clone(d.Payee), strings.Clone(d.Payer)
	d.Amount = copiedFraction(d.Amount)
	return d
}

func (s Stock) copied() Stock {
	return Stock{ID: strings.Clone(s.ID), Margin: copiedFraction(s.Margin), Unsold: copiedFraction(s.Unsold)}
}

func (s Sold) copied() Sold {
	return Sold{ID: strings.Clone(s.ID), Share: copiedFraction(s.Share)}
}

// copiedFraction goes limb by limb, for what layer 4 answers is right, whatever it was.
func copiedFraction(x rat.Rat) rat.Rat {
	x.Num.Mag, x.Den.Mag = copied(x.Num.Mag, limb), copied(x.Den.Mag, limb)
	return x
}

// limb is a limb's copy.
func limb(n uint32) uint32 { return n }
