package parse

import (
	"slices"
	"strconv"
	"strings"

	"tallage/api"
	"tallage/ast"
	"tallage/dec"
	"tallage/lex"
	"tallage/rat"
)

// Each word's place in these, from 1 on, is its kind's number.
const (
	classWords = "income expense exempt denied capped deferred depreciation interest-in interest-out dividend distribution"
	dealWords  = "goods service interest dividend"
)

// place tells which of some words it is, from 1 on, if it is one.
func place(word, words string) (uint8, bool) {
	n := slices.Index(strings.Fields(words), word) + 1
	return uint8(n), n > 0
}

// wordAt is the word at a place, from 1 on; nothing, if there is none.
func wordAt(place uint8, words string) string {
	l := strings.Fields(words)
	if place == 0 || int(place) > len(l) {
		return ""
	}
	return l[place-1]
}

// rule tells whether a word says what it must, and keeps what it says.
type rule func(word string) bool

// read asks the words behind a line's first one, each by its own rule.
func read(l lex.Line, rules ...rule) (at int, e api.Errno) {
	for i, w := range l.Words[1:] {
		if i == len(rules) || !rules[i](w.Text) {
			return w.At, api.ErrParse
		}
	}
	if len(l.Words)-1 < len(rules) {
		return l.Words[0].At, api.ErrParse
	}
	return 0, api.OK
}

// readOneMore reads a line of which there may be several, and are some.
func readOneMore(l lex.Line, are, most int, rules ...rule) (at int, e api.Errno) {
	if are >= most {
		return l.Words[0].At, api.ErrLimit
	}
	return read(l, rules...)
}

func name(to *string) rule {
	return func(word string) bool {
		*to = word
		return ast.IsName(word)
	}
}

func amount(to *rat.Rat) rule {
	return func(word string) bool {
		x, e := dec.Amount(word)
		*to = x
		return e == api.OK && ast.IsMoney(x)
	}
}

func share(to *rat.Rat) rule {
	return func(word string) bool {
		x, e := dec.Share(word)
		*to = x
		return e == api.OK
	}
}

func number(to *int, least, most int) rule {
	return func(word string) bool {
		n, err := strconv.Atoi(word)
		*to = n
		// Only of a number as it must be written does the writing give the word back.
		return err == nil && strconv.Itoa(n) == word && n >= least && n <= most
	}
}

// fraction is a number's rule that keeps it as a fraction.
func fraction(to *rat.Rat, least, most int) rule {
	n := 0
	isNumber := number(&n, least, most)
	return func(word string) bool {
		// What is a number is a decimal, too.
		*to, _ = dec.Parse(word)
		return isNumber(word)
	}
}

func kind(to *uint8, kindOf func(string) (uint8, bool)) rule {
	return func(word string) (ok bool) {
		*to, ok = kindOf(word)
		return ok
	}
}
