package parse_test

import (
	"math/rand/v2"
	"slices"
	"strings"
	"testing"

	"tallage/api"
	"tallage/ast"
	"tallage/lex"
	"tallage/parse"
)

// P9.4 (that what is parsed is right, checkParse asks of each text)

// dressed is the same text, with other blanks, remarks, and lines without words; and of each place of a word, where it stands now.
func dressed(r *rand.Rand, lines []string) (string, map[int]int) {
	var b strings.Builder
	places := map[int]int{}
	pick := func(l ...string) { b.WriteString(l[r.IntN(len(l))]) }
	at := 0
	for _, l := range lines {
		pick("", "", " ", "\t", "\n", "# all\n", " #\n\n\t\n")
		for i, w := range strings.Fields(l) {
			if i > 0 {
				pick(" ", "\t", "  ", " \t ")
			}
			places[at] = b.Len()
			b.WriteString(w)
			at += len(w) + 1
		}
		pick("", " ", "\t", "#", " # year 5", "#\x00\xff", "\n#a")
		b.WriteByte('\n')
	}
	pick("", " ", "\n", "#", "# filing F P")
	places[len(text(lines...))] = b.Len()
	return b.String(), places
}

func TestBlanksAndRemarksChangeNothing(t *testing.T) {
	r := rand.New(rand.NewPCG(93, 94))
	for n := range 1500 {
		lines := slices.Clone(all)
		if n%3 > 0 {
			i := r.IntN(len(lines))
			words := strings.Fields(lines[i])
			words[r.IntN(len(words))] = "?"
			lines[i] = strings.Join(words[:1+r.IntN(len(words))], " ")
		}
		if n%5 == 0 {
			lines = lines[:r.IntN(len(lines))]
		}
		s, places := dressed(r, lines)
		f, at, e := parse.Parse(text(lines...))
		g, place, err := parse.Parse(s)
		if e != api.OK {
			at = places[at]
		}
		if place != at || err != e || !ast.Same(f, g) {
			t.Fatalf("%q: at %d, error %d; want %d, error %d", s, place, err, at, e)
		}
		checkParse(t, s)
	}
}

func TestShownLinesSayTheSame(t *testing.T) {
	r := rand.New(rand.NewPCG(95, 96))
	for range 200 {
		s, _ := dressed(r, all)
		l, _, _ := lex.Lines(s)
		f, _, _ := parse.Parse(s)
		g, at, e := parse.Parse(lex.Show(l...))
		if at != 0 || e != api.OK || !ast.Same(f, g) {
			t.Fatalf("%q, shown: at %d, error %d", s, at, e)
		}
	}
}
