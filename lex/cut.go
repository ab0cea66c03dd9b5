package lex

import "strings"

// run tells how many bytes that fit stand ahead in a text.
func run(s string, fits func(byte) bool) int {
	n := 0
	for n < len(s) && fits(s[n]) {
		n++
	}
	return n
}

func inWord(b byte) bool { return b >= '!' && b <= '~' && b != remark }

// oneOf fits the bytes of a set.
func oneOf(set string) func(byte) bool {
	return func(b byte) bool { return strings.IndexByte(set, b) >= 0 }
}

// till fits all bytes but an end.
func till(end byte) func(byte) bool {
	return func(b byte) bool { return b != end }
}

// cutter goes through a text; at tells how far it has come.
type cutter struct {
	text string
	at   int
}

func (c *cutter) more() bool { return c.at < len(c.text) }

// stands tells whether that byte is the next one.
func (c *cutter) stands(b byte) bool { return c.more() && c.text[c.at] == b }

// take goes past as many bytes as fit, and answers them.
func (c *cutter) take(fits func(byte) bool) string {
	from := c.at
	c.at += run(c.text[from:], fits)
	return c.text[from:c.at]
}

// line takes a line's words, and its remark; what stops it ahead of the line's end is a bad byte.
func (c *cutter) line() Line {
	l := Line{At: c.at}
	for {
		c.take(oneOf(blanks))
		at := c.at
		text := c.take(inWord)
		if text == "" {
			break
		}
		// A word that is a piece of the text would keep all of it.
		l.Words = append(l.Words, Word{strings.Clone(text), at})
	}
	if c.stands(remark) {
		c.take(till(lineEnd))
	}
	return l
}
