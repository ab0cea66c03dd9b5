package print

import (
	"strconv"
	"strings"

	"tallage/api"
	"tallage/ast"
	"tallage/dec"
	"tallage/parse"
)

// line is some words, put together.
func line(words ...string) string { return strings.Join(words, " ") }

// collector collects a text's lines.
type collector struct{ strings.Builder }

func (c *collector) add(words ...string) {
	c.WriteString(line(words...))
	c.WriteByte('\n')
}

// writer writes the lines of what a filing says.
type writer struct{ collector }

// law writes what a filing has once, and the brackets, which stand in its midst.
func (w *writer) law(f ast.Filing) {
	w.add("filing", f.Name, f.Parent)
	for _, b := range f.Brackets {
		w.add("bracket", dec.Money(b.From), dec.PutShare(b.Rate))
	}
	w.add("threshold", dec.PutShare(f.Threshold))
	w.add("cap", dec.PutShare(f.Cap))
	w.add("back", strconv.Itoa(f.Back))
	w.add("forward", strconv.Itoa(f.Forward))
	w.add("interest", dec.PutShare(f.Interest), dec.Money(f.Floor), strconv.Itoa(f.Keep))
}

func (w *writer) rows(f ast.Filing) {
	for _, c := range f.Classes {
		w.add(classWords(c)...)
	}
	for _, entity := range f.Entities {
		w.add("entity", entity)
	}
}

func (w *writer) year(y ast.Year) {
	w.add("year", strconv.Itoa(y.Number))
	for _, h := range y.Holds {
		w.add("hold", h.Owner, h.Owned, dec.PutShare(h.Share))
	}
	for _, b := range y.Books {
		w.add("book", b.Entity, b.Class, dec.Money(b.Amount))
	}
	for _, d := range y.Deals {
		w.add(dealWords(d)...)
	}
	for _, s := range y.Stocks {
		w.add("stock", s.ID, dec.Money(s.Margin), dec.PutShare(s.Unsold))
	}
	for _, s := range y.Solds {
		w.add("sold", s.ID, dec.PutShare(s.Share))
	}
}

func classWords(c ast.Class) []string {
	words := []string{"class", c.Name, parse.ClassWord(c.Kind)}
	switch c.Kind {
	case api.Denied:
		return append(words, dec.PutShare(c.Arg))
	case api.Capped:
		return append(words, dec.Money(c.Arg))
	case api.Deferred:
		return append(words, dec.Put(c.Arg, 0))
	}
	return words
}

func dealWords(d ast.Deal) []string {
	record := "take"
	if d.Give {
		record = "give"
	}
	return []string{record, d.ID, parse.DealWord(d.Kind), d.Payee, d.Payer, d.Class, dec.Money(d.Amount)}
}
