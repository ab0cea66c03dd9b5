package parse_test

import (
	"encoding/binary"
	library "math/big"
	"reflect"
	"regexp"
	"strings"
	"testing"

	"tallage/api"
	"tallage/ast"
	"tallage/big"
	"tallage/lex"
	"tallage/parse"
	"tallage/rat"
)

// The oracle: what P9.1 asks, told by patterns, by the library's numbers, and by the order of the rows' fields.

// said is the right fraction that the library reads.
func said(s string) rat.Rat {
	v, ok := new(library.Rat).SetString(s)
	if !ok {
		panic(s)
	}
	return rat.Rat{Num: number(v.Num()), Den: number(v.Denom())}
}

func number(v *library.Int) big.Int {
	b := v.FillBytes(make([]byte, (v.BitLen()+31)/32*4))
	n := big.Int{Neg: v.Sign() < 0}
	for ; len(b) > 0; b = b[:len(b)-4] {
		n.Mag = append(n.Mag, binary.BigEndian.Uint32(b[len(b)-4:]))
	}
	return n
}

// letters stand for the sorts of lines, give and take alike.
var letters = map[string]string{
	"filing": "f", "bracket": "b", "threshold": "t", "cap": "c", "back": "k", "forward": "w", "interest": "i",
	"class": "l", "entity": "e", "year": "y", "hold": "h", "book": "o", "give": "d", "take": "d", "stock": "s", "sold": "x",
}

var filingOf = regexp.MustCompile(`\Afb*tckwil*e*(yh*o*d*s*x*)*\z`)

// mayStand tells whether lines may stand at a text's begin.
func mayStand(lines string) bool {
	for _, last := range []string{"", "tckwi", "ckwi", "kwi", "wi", "i"} {
		if filingOf.MatchString(lines + last) {
			return true
		}
	}
	return false
}

// mostOf tells how many lines of a sort there may be at one place.
var mostOf = map[string]int{"b": 16, "l": 64, "e": 256, "y": 40, "h": 4096, "o": 4096, "d": 4096, "s": 4096, "x": 4096}

// wordsOf names the patterns of a line's words.
var wordsOf = map[string]string{
	"filing": "name name", "bracket": "amount share", "threshold": "share", "cap": "share", "back": "3", "forward": "40", "interest": "share amount 40",
	"entity": "name", "year": "9999", "hold": "name name share", "book": "name name amount",
	"give": "name deal name name name amount", "take": "name deal name name name amount", "stock": "name amount share", "sold": "name share",
	"class": "name class", "class denied": "name class share", "class capped": "name class amount", "class deferred": "name class 40",
}

var patterns = map[string]*regexp.Regexp{
	"name":   regexp.MustCompile(`\A[A-Za-z][A-Za-z0-9_-]{0,31}\z`),
	"amount": regexp.MustCompile(`\A(0|-?[1-9][0-9]{0,29}|0\.[0-9][0-9]?|-0\.([1-9][0-9]?|0[1-9])|-?[1-9][0-9]{0,29}\.[0-9][0-9]?)\z`),
	"share":  regexp.MustCompile(`\A((0|[1-9][0-9]?)(\.[0-9]{1,4})?|100(\.0{1,4})?)%\z`),
	"3":      regexp.MustCompile(`\A[0-3]\z`),
	"40":     regexp.MustCompile(`\A([0-9]|[123][0-9]|40)\z`),
	"9999":   regexp.MustCompile(`\A[1-9][0-9]{0,3}\z`),
	"class":  regexp.MustCompile(`\A(income|expense|exempt|denied|capped|deferred|depreciation|interest-in|interest-out|dividend|distribution)\z`),
	"deal":   regexp.MustCompile(`\A(goods|service|interest|dividend)\z`),
}

var kinds = map[string]map[string]uint8{
	"class": {
		"income": api.Income, "expense": api.Expense, "exempt": api.Exempt, "denied": api.Denied, "capped": api.Capped, "deferred": api.Deferred,
		"depreciation": api.Depreciation, "interest-in": api.InterestIn, "interest-out": api.InterestOut, "dividend": api.Dividend, "distribution": api.Distribution,
	},
	"deal": {"goods": api.Goods, "service": api.Service, "interest": api.Loan, "dividend": api.Payout},
}

// needs are the patterns of the words behind a line's first one.
func needs(line []lex.Word) []string {
	sort := line[0].Text
	if sort == "class" && len(line) > 2 {
		if special, ok := wordsOf["class "+line[2].Text]; ok {
			return strings.Fields(special)
		}
	}
	return strings.Fields(wordsOf[sort])
}

// wantParsed is the place and the error that P9.1 asks for a text, or the text's lines.
func wantParsed(s string) (l []lex.Line, at int, e api.Errno) {
	l, at, e = lex.Lines(s)
	if e != api.OK {
		return nil, at, e
	}
	sorts := ""
	for _, line := range l {
		first := line.Words[0]
		letter := letters[first.Text]
		sorts += letter
		if letter == "" || !mayStand(sorts) {
			return nil, first.At, api.ErrParse
		}
		if most := mostOf[letter]; most > 0 && strings.HasSuffix(sorts, strings.Repeat(letter, most+1)) || strings.Count(sorts, "y") > 40 {
			return nil, first.At, api.ErrLimit
		}
		want, words := needs(line.Words), line.Words[1:]
		for i, w := range words {
			if i >= len(want) || !patterns[want[i]].MatchString(w.Text) {
				return nil, w.At, api.ErrParse
			}
		}
		if len(words) < len(want) {
			return nil, first.At, api.ErrParse
		}
	}
	if !filingOf.MatchString(sorts) {
		return nil, len(s), api.ErrParse
	}
	return l, 0, api.OK
}

// set lets a field say what a word says.
func set(v reflect.Value, pattern, word string) {
	switch pattern {
	case "name":
		v.SetString(word)
	case "amount":
		v.Set(reflect.ValueOf(said(word)))
	case "share":
		v.Set(reflect.ValueOf(said(strings.TrimSuffix(word, "%") + "e-2")))
	case "class", "deal":
		v.SetUint(uint64(kinds[pattern][word]))
	default:
		n := said(word)
		if v.Kind() == reflect.Struct {
			v.Set(reflect.ValueOf(n))
		} else if len(n.Num.Mag) > 0 {
			v.SetInt(int64(n.Num.Mag[0]))
		}
	}
}

// fieldsOf are the places, in the filing, of what a law's line says.
var fieldsOf = map[string][]string{
	"filing": {"Name", "Parent"}, "threshold": {"Threshold"}, "cap": {"Cap"}, "back": {"Back"}, "forward": {"Forward"}, "interest": {"Interest", "Floor", "Keep"},
}

var rowsOf = map[string]string{
	"bracket": "Brackets", "class": "Classes", "entity": "Entities", "year": "Years", "hold": "Holds", "book": "Books", "give": "Deals", "take": "Deals", "stock": "Stocks", "sold": "Solds",
}

// filingSaid is what lines in the grammar say.
func filingSaid(l []lex.Line) ast.Filing {
	f := ast.Filing{}
	v := reflect.ValueOf(&f).Elem()
	for _, line := range l {
		sort, want := line.Words[0].Text, needs(line.Words)
		if rowsOf[sort] != "" {
			addSaid(v, sort, line.Words, want)
			continue
		}
		for i, field := range fieldsOf[sort] {
			set(v.FieldByName(field), want[i], line.Words[i+1].Text)
		}
	}
	return f
}

// addSaid lets a row have one part more, whose fields stand in the order of the words.
func addSaid(v reflect.Value, sort string, words []lex.Word, want []string) {
	row := v.FieldByName(rowsOf[sort])
	if !row.IsValid() {
		years := v.FieldByName("Years")
		row = years.Index(years.Len() - 1).FieldByName(rowsOf[sort])
	}
	one := reflect.New(row.Type().Elem()).Elem()
	from := 0
	switch sort {
	case "entity":
		set(one, want[0], words[1].Text)
		want = nil
	case "class":
		one.FieldByName("Arg").Set(reflect.ValueOf(said("0")))
	case "give", "take":
		one.Field(0).SetBool(sort == "give")
		from = 1
	}
	for i, pattern := range want {
		set(one.Field(from+i), pattern, words[i+1].Text)
	}
	row.Set(reflect.Append(row, one))
}

// checkParse holds what a text says against the oracle.
func checkParse(t *testing.T, s string) {
	t.Helper()
	l, place, want := wantParsed(s)
	f, at, e := parse.Parse(s)
	if at != place || e != want {
		t.Fatalf("%s\nat %d, error %d; want %d, error %d", s, at, e, place, want)
	}
	if !ast.Same(f, filingSaid(l)) {
		t.Fatalf("%s\nsays %v; want %v", s, f, filingSaid(l))
	}
	if e == api.OK {
		if p, broken := ast.Right(f); broken != api.OK {
			t.Fatalf("%s\nis not right: %v, error %d", s, p, broken)
		}
	}
}
