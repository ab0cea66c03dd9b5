package lex_test

import (
	"math/rand/v2"
	"regexp"
	"slices"
	"strings"
	"testing"

	"tallage/api"
	"tallage/lex"
)

// The oracle: what words, remarks and bad bytes are, told by patterns of bytes; each byte is told as the rune of its own number.
var (
	words   = regexp.MustCompile(`[!-"$-~]+`)
	oneWord = regexp.MustCompile(`\A[!-"$-~]+\z`)
	bad     = regexp.MustCompile(`[^ \t!-"$-~]`)
)

// spread has a rune for each byte, so that patterns see single bytes; a place in it is found by counting runes.
func spread(s string) string {
	r := make([]rune, len(s))
	for i := range len(s) {
		r[i] = rune(s[i])
	}
	return string(r)
}

// place is how many bytes of the text stand ahead of a place in its spread one.
func place(spread string, at int) int { return len([]rune(spread[:at])) }

// wantLines is what P7.1 asks, line by line.
func wantLines(s string) (l []lex.Line, at int, e api.Errno) {
	if len(s) > 65536 {
		return nil, 0, api.ErrLimit
	}
	for _, raw := range strings.Split(s, "\n") {
		said, _, _ := strings.Cut(raw, "#")
		said = spread(said)
		if b := bad.FindStringIndex(said); b != nil {
			return nil, at + place(said, b[0]), api.ErrLex
		}
		line := lex.Line{At: at}
		for _, w := range words.FindAllStringIndex(said, -1) {
			line.Words = append(line.Words, lex.Word{Text: said[w[0]:w[1]], At: at + place(said, w[0])})
		}
		if line.Words != nil {
			l = append(l, line)
		}
		at += len(raw) + 1
	}
	return l, 0, api.OK
}

func sameLine(a, b lex.Line) bool { return a.At == b.At && slices.Equal(a.Words, b.Words) }

func sameLines(a, b []lex.Line) bool { return slices.EqualFunc(a, b, sameLine) }

// checkLines holds Lines against the oracle: nothing but the zero value beside an error, no place where there is none.
func checkLines(t *testing.T, s string) {
	t.Helper()
	l, at, e := lex.Lines(s)
	want, place, f := wantLines(s)
	if !sameLines(l, want) || at != place || e != f || e != api.OK && l != nil {
		t.Fatalf("Lines(%.200q): %v, %d, %d; want %v, %d, %d", s, l, at, e, want, place, f)
	}
}

// edges are the bytes on both sides of each bound that the chapter names, and some far from all.
var edges = []byte{'a', '!', '"', '$', '~', ' ', '\t', '\n', '#', 0, 8, 11, 13, 31, 127, 128, 200, 255}

// texts are all that can be made of some bytes, up to a length.
func texts(of []byte, most int) []string {
	l := []string{""}
	for from := 0; most > 0; most-- {
		to := len(l)
		for _, s := range l[from:to] {
			for _, b := range of {
				l = append(l, s+string([]byte{b}))
			}
		}
		from = to
	}
	return l
}

// short are texts of few bytes, in all orders.
func short() []string {
	return append(texts(edges, 3), texts([]byte{'a', ' ', '\t', '\n', '#', 127}, 5)...)
}

// long are texts of up to 400 bytes of many lines, bad bytes among them seldom or never, the same ones each time.
func long() []string {
	r := rand.New(rand.NewPCG(71, 72))
	l := []string{}
	for range 2000 {
		s := make([]byte, r.IntN(400))
		of := []int{5, 8, len(edges) + 1, 100}[r.IntN(4)]
		for i := range s {
			s[i] = someByte(r, of)
		}
		l = append(l, string(s))
	}
	return l
}

func someByte(r *rand.Rand, of int) byte {
	switch n := r.IntN(of); n {
	case 0:
		return ' '
	case 1:
		return '\n'
	case 2:
		return edges[r.IntN(min(of, len(edges)))]
	}
	return "abc-xyz019.%~!"[r.IntN(14)]
}

// The chapter's own examples.

func TestExamples(t *testing.T) {
	for s, want := range map[string]struct {
		lines []lex.Line
		at    int
		e     api.Errno
	}{
		"a  b # c\n\nd": {lines: []lex.Line{{Words: []lex.Word{{Text: "a", At: 0}, {Text: "b", At: 3}}, At: 0}, {Words: []lex.Word{{Text: "d", At: 10}}, At: 10}}},
		"a\xc8":         {at: 1, e: api.ErrLex},
		"# only":        {},
	} {
		if l, at, e := lex.Lines(s); !sameLines(l, want.lines) || at != want.at || e != want.e {
			t.Errorf("Lines(%q): %v, %d, %d", s, l, at, e)
		}
	}
}

// P7.1

func TestLines(t *testing.T) {
	for _, s := range append(short(), long()...) {
		checkLines(t, s)
	}
}

// TestEachByte lays each byte at a text's begin, its end, in a word, between blanks, about a line's end, and in remarks.
func TestEachByte(t *testing.T) {
	for b := range 256 {
		for _, frame := range [][2]string{{"", ""}, {"ab", "cd"}, {"a ", " b"}, {"\t", "\t"}, {"a\n", "\nb"}, {"a # b", "c\nd"}, {"#", ""}, {"a#", "\n\x00"}, {"a\n\n  #\n", "b # \x80"}} {
			checkLines(t, frame[0]+string([]byte{byte(b)})+frame[1])
		}
	}
}

// line is one written out as each word's text and place, by turns.
func line(at int, parts ...any) lex.Line {
	l := lex.Line{At: at}
	for i := 0; i < len(parts); i += 2 {
		l.Words = append(l.Words, lex.Word{Text: parts[i].(string), At: parts[i+1].(int)})
	}
	return l
}

// TestPlaces writes out the answers, so that they hang on no other reading.
func TestPlaces(t *testing.T) {
	for s, want := range map[string][]lex.Line{
		"":                       nil,
		"\n":                     nil,
		"\n\n\n":                 nil,
		" \t \n\t":               nil,
		"#\n# a\n  # b":          nil,
		"a":                      {line(0, "a", 0)},
		"a\n":                    {line(0, "a", 0)},
		"  a":                    {line(0, "a", 2)},
		"\t a\t ":                {line(0, "a", 2)},
		"\n  a b\n\n\tc":         {line(1, "a", 3, "b", 5), line(8, "c", 9)},
		"a#b c\nd":               {line(0, "a", 0), line(6, "d", 6)},
		"a #b#c\n#d e\nf g":      {line(0, "a", 0), line(12, "f", 12, "g", 14)},
		"a b\nc d":               {line(0, "a", 0, "b", 2), line(4, "c", 4, "d", 6)},
		"!~ 75% -1.50\t\"$":      {line(0, "!~", 0, "75%", 3, "-1.50", 7, "\"$", 13)},
		"a # \x00\r\x7f\x80\xff": {line(0, "a", 0)},
		"#\xc3\xa4\nb":           {line(4, "b", 4)},
		"a # é\nb":               {line(0, "a", 0), line(7, "b", 7)},
	} {
		if l, at, e := lex.Lines(s); !sameLines(l, want) || at != 0 || e != api.OK {
			t.Errorf("Lines(%q): %v, %d, %d", s, l, at, e)
		}
	}
}

// TestFirstBadByte: nothing is answered of the lines ahead, and remarks have no bad bytes.
func TestFirstBadByte(t *testing.T) {
	for s, want := range map[string]int{
		"\x00": 0, "\r": 0, "\x0b": 0, "\x1f": 0, "\x7f": 0, "\x80": 0, "\xff": 0,
		"a b\nc\r\nd": 5, "a\x01\x02": 1, "a \x02b\x01": 2, "# \x01\n\x02": 4, "a # \x01\nb \x7f # \x03": 8, "\n\n\n\x00": 3, "é": 0, "aé": 1, "a\n \t\x08#": 4, "a\n#\n\xfe": 4,
	} {
		if l, at, e := lex.Lines(s); l != nil || at != want || e != api.ErrLex {
			t.Errorf("Lines(%q): %v, %d, %d", s, l, at, e)
		}
	}
}

func TestLimit(t *testing.T) {
	for _, of := range []string{"a", "a ", "a\n", " ", "\n", "#", "ab cd # e\n"} {
		s := strings.Repeat(of, api.MaxBytes+1)
		checkLines(t, s[:api.MaxBytes-1])
		checkLines(t, s[:api.MaxBytes])
		checkLines(t, s[:api.MaxBytes-1]+"\n")
		checkLines(t, s[:api.MaxBytes+1])
	}
	most := strings.Repeat("a", api.MaxBytes)
	if l, at, e := lex.Lines(most); len(l) != 1 || len(l[0].Words) != 1 || l[0].Words[0].Text != most || at != 0 || e != api.OK {
		t.Errorf("most bytes: %d lines, %d, %d", len(l), at, e)
	}
	if l, at, e := lex.Lines(most[1:] + "\x00"); l != nil || at != api.MaxBytes-1 || e != api.ErrLex {
		t.Errorf("the last byte is bad: %v, %d, %d", l, at, e)
	}
	// The limit comes ahead of bad bytes, and looks at remarks, blanks and empty lines, too.
	for _, s := range []string{most + "a", most + "\x00", "\x00" + most, strings.Repeat("\n", api.MaxBytes+1), strings.Repeat(" ", 2*api.MaxBytes), "#" + most, strings.Repeat("\xff", 10*api.MaxBytes)} {
		if l, at, e := lex.Lines(s); l != nil || at != 0 || e != api.ErrLimit {
			t.Errorf("%d bytes: %d lines, %d, %d", len(s), len(l), at, e)
		}
	}
}

// P7.2

func TestIs(t *testing.T) {
	l := append(short(), long()...)
	for b := range 256 {
		s := string([]byte{byte(b)})
		l = append(l, s, "a"+s, s+"a", "a"+s+"a")
	}
	for _, s := range l {
		if got := lex.Is(s); got != oneWord.MatchString(spread(s)) {
			t.Fatalf("Is(%q): %v", s, got)
		}
	}
}

func TestEdgesOfIs(t *testing.T) {
	most := strings.Repeat("~", api.MaxBytes)
	for _, s := range []string{"a", "!", "~", "\"", "$", "75%", "-1.50", "a-b_c", "\\", "//", most, most + "a"} {
		if !lex.Is(s) {
			t.Errorf("Is(%.50q): false", s)
		}
	}
	for _, s := range []string{"", " ", "\t", "\n", "#", "a#", "#a", "a b", " a", "a ", "a\t", "a\n", "\na", "\x00", "\r", "a\x7f", "é", "\xff", most + " "} {
		if lex.Is(s) {
			t.Errorf("Is(%.50q): true", s)
		}
	}
}

// P7.3

func TestShow(t *testing.T) {
	row := func(l ...string) lex.Line {
		line := lex.Line{At: 77}
		for i, s := range l {
			line.Words = append(line.Words, lex.Word{Text: s, At: -i})
		}
		return line
	}
	for want, l := range map[string][]lex.Line{
		"":                  nil,
		"\n":                {row()},
		"\n\n\n":            {row(), {Words: []lex.Word{}}, {At: -1}},
		"a\n":               {row("a")},
		"a b\n":             {row("a", "b")},
		"a b c\nd\n\ne f\n": {row("a", "b", "c"), row("d"), row(), row("e", "f")},
		// Texts that are no words stay as they are.
		" \n":                 {row("", "")},
		"   \n\n":             {row("", " ", ""), row("")},
		"a  b\n":              {row("a", "", "b")},
		"# \n \x00 \xff\t#\n": {row("#", "\n", "\x00", "\xff\t#")},
		"a b c\n":             {row("a b", "c")},
	} {
		if got := lex.Show(l...); got != want {
			t.Errorf("Show of %q: %q", want, got)
		}
	}
	if lex.Show() != "" {
		t.Error("of no line")
	}
}
