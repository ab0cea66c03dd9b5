package parse

import (
	"tallage/api"
	"tallage/ast"
	"tallage/dec"
	"tallage/lex"
)

// The bounds of numbers, as ast.Right has them.
const (
	mostBack  = 3
	mostYears = 40
	firstYear = 1
	lastYear  = 9999
)

// The sorts of lines, in the order of lineWords. A line of no sort may stand nowhere; the edge is what stands ahead of the first line, and behind the last one.
const (
	noLine uint8 = iota
	filingLine
	bracketLine
	thresholdLine
	capLine
	backLine
	forwardLine
	interestLine
	classLine
	entityLine
	yearLine
	holdLine
	bookLine
	giveLine
	takeLine
	stockLine
	soldLine
	edge
)

const lineWords = "filing bracket threshold cap back forward interest class entity year hold book give take stock sold"

// A bit for each sort that may stand behind: what may stand behind a sort's last line may stand behind the sorts ahead of it, too.
const (
	behindSold   = 1<<soldLine | 1<<yearLine | 1<<edge
	behindStock  = 1<<stockLine | behindSold
	behindDeal   = 1<<giveLine | 1<<takeLine | behindStock
	behindBook   = 1<<bookLine | behindDeal
	behindHold   = 1<<holdLine | behindBook
	behindEntity = 1<<entityLine | 1<<yearLine | 1<<edge
	behindClass  = 1<<classLine | behindEntity
)

// behind tells of each sort which may follow.
var behind = [...]uint32{
	edge:          1 << filingLine,
	filingLine:    1<<bracketLine | 1<<thresholdLine,
	bracketLine:   1<<bracketLine | 1<<thresholdLine,
	thresholdLine: 1 << capLine,
	capLine:       1 << backLine,
	backLine:      1 << forwardLine,
	forwardLine:   1 << interestLine,
	interestLine:  behindClass,
	classLine:     behindClass,
	entityLine:    behindEntity,
	yearLine:      behindHold,
	holdLine:      behindHold,
	bookLine:      behindBook,
	giveLine:      behindDeal,
	takeLine:      behindDeal,
	stockLine:     behindStock,
	soldLine:      behindSold,
}

func sortOf(word string) uint8 {
	sort, _ := place(word, lineWords)
	return sort
}

func mayFollow(ahead, next uint8) bool { return behind[ahead]>>next&1 == 1 }

// readLine adds to a filing what a line says, of a sort that may stand there. With an error, the filing may hold any of that.
func readLine(f *ast.Filing, sort uint8, l lex.Line) (at int, e api.Errno) {
	switch {
	case sort >= holdLine:
		return readItem(&f.Years[len(f.Years)-1], sort, l)
	case sort == bracketLine, sort >= classLine:
		return readRow(f, sort, l)
	}
	return readLaw(f, sort, l)
}

// readLaw reads a line that a filing has once.
func readLaw(f *ast.Filing, sort uint8, l lex.Line) (at int, e api.Errno) {
	switch sort {
	case filingLine:
		return read(l, name(&f.Name), name(&f.Parent))
	case thresholdLine:
		return read(l, share(&f.Threshold))
	case capLine:
		return read(l, share(&f.Cap))
	case backLine:
		return read(l, number(&f.Back, 0, mostBack))
	case forwardLine:
		return read(l, number(&f.Forward, 0, mostYears))
	}
	return read(l, share(&f.Interest), amount(&f.Floor), number(&f.Keep, 0, mostYears))
}

// readRow reads a line of a filing's rows.
func readRow(f *ast.Filing, sort uint8, l lex.Line) (at int, e api.Errno) {
	switch sort {
	case bracketLine:
		var b ast.Bracket
		at, e = readOneMore(l, len(f.Brackets), api.MaxBrackets, amount(&b.From), share(&b.Rate))
		f.Brackets = append(f.Brackets, b)
	case classLine:
		var c ast.Class
		at, e = readOneMore(l, len(f.Classes), api.MaxClasses, class(&c, l)...)
		f.Classes = append(f.Classes, c)
	case entityLine:
		var entity string
		at, e = readOneMore(l, len(f.Entities), api.MaxEntities, name(&entity))
		f.Entities = append(f.Entities, entity)
	case yearLine:
		var y ast.Year
		at, e = readOneMore(l, len(f.Years), api.MaxYears, number(&y.Number, firstYear, lastYear))
		f.Years = append(f.Years, y)
	}
	return at, e
}

// readItem reads a line of a year's rows.
func readItem(y *ast.Year, sort uint8, l lex.Line) (at int, e api.Errno) {
	switch sort {
	case holdLine:
		var h ast.Hold
		at, e = readOneMore(l, len(y.Holds), api.MaxItems, name(&h.Owner), name(&h.Owned), share(&h.Share))
		y.Holds = append(y.Holds, h)
	case bookLine:
		var b ast.Book
		at, e = readOneMore(l, len(y.Books), api.MaxItems, name(&b.Entity), name(&b.Class), amount(&b.Amount))
		y.Books = append(y.Books, b)
	case giveLine, takeLine:
		d := ast.Deal{Give: sort == giveLine}
		at, e = readOneMore(l, len(y.Deals), api.MaxItems,
			name(&d.ID), kind(&d.Kind, DealKind), name(&d.Payee), name(&d.Payer), name(&d.Class), amount(&d.Amount))
		y.Deals = append(y.Deals, d)
	case stockLine:
		var s ast.Stock
		at, e = readOneMore(l, len(y.Stocks), api.MaxItems, name(&s.ID), amount(&s.Margin), share(&s.Unsold))
		y.Stocks = append(y.Stocks, s)
	case soldLine:
		var s ast.Sold
		at, e = readOneMore(l, len(y.Solds), api.MaxItems, name(&s.ID), share(&s.Share))
		y.Solds = append(y.Solds, s)
	}
	return at, e
}

// class is the rules of a class's words: the kind's word tells whether an argument stands behind it, and which.
func class(c *ast.Class, l lex.Line) []rule {
	rules := []rule{name(&c.Name), kind(&c.Kind, ClassKind)}
	var of uint8
	if len(l.Words) > len(rules) {
		of, _ = ClassKind(l.Words[len(rules)].Text)
	}
	switch of {
	case api.Denied:
		return append(rules, share(&c.Arg))
	case api.Capped:
		return append(rules, amount(&c.Arg))
	case api.Deferred:
		return append(rules, fraction(&c.Arg, 0, mostYears))
	}
	c.Arg, _ = dec.Parse("0")
	return rules
}
