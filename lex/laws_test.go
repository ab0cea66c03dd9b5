package lex_test

import (
	"math/rand/v2"
	"slices"
	"strings"
	"testing"

	"tallage/api"
	"tallage/lex"
)

// P7.5

// said are the words' texts of all lines, without places.
func said(l []lex.Line) [][]string {
	all := [][]string{}
	for _, line := range l {
		row := []string{}
		for _, w := range line.Words {
			row = append(row, w.Text)
		}
		all = append(all, row)
	}
	return all
}

func saySame(a, b []lex.Line) bool {
	return slices.EqualFunc(said(a), said(b), slices.Equal[[]string])
}

func TestShownLinesAreCutAlike(t *testing.T) {
	for _, s := range append(short(), long()...) {
		l, _, e := lex.Lines(s)
		if e != api.OK {
			continue
		}
		text := lex.Show(l...)
		again, at, f := lex.Lines(text)
		if !saySame(l, again) || at != 0 || f != api.OK {
			t.Fatalf("%q is shown as %q, and cut as %v, %d, %d", s, text, again, at, f)
		}
		if lex.Show(again...) != text {
			t.Fatalf("%q, shown again: %q", text, lex.Show(again...))
		}
	}
}

// someLines are lines of words alone, each at a place that counts for nothing.
func someLines(r *rand.Rand) []lex.Line {
	l := make([]lex.Line, r.IntN(6))
	for i := range l {
		l[i].At = r.IntN(200) - 100
		for range 1 + r.IntN(5) {
			word := make([]byte, 1+r.IntN(8))
			for j := range word {
				word[j] = '!' + byte(r.IntN('~'-'!'+1))
			}
			text := strings.ReplaceAll(string(word), "#", "+")
			l[i].Words = append(l[i].Words, lex.Word{Text: text, At: r.IntN(200) - 100})
		}
	}
	return l
}

func TestLinesByHandAreCutAlike(t *testing.T) {
	r := rand.New(rand.NewPCG(73, 74))
	for range 3000 {
		l := someLines(r)
		for _, line := range l {
			for _, w := range line.Words {
				if !lex.Is(w.Text) {
					t.Fatalf("Is(%q): false", w.Text)
				}
			}
		}
		if again, at, e := lex.Lines(lex.Show(l...)); !saySame(l, again) || at != 0 || e != api.OK {
			t.Fatalf("%q is cut as %v, %d, %d", lex.Show(l...), again, at, e)
		}
	}
}

// TestWordsAreWords: each word of a text is one by itself, stands where it says, and is as long as may be.
func TestWordsAreWords(t *testing.T) {
	for _, s := range append(short(), long()...) {
		l, _, _ := lex.Lines(s)
		for _, line := range l {
			for _, w := range line.Words {
				end := w.At + len(w.Text)
				if !lex.Is(w.Text) || s[w.At:end] != w.Text || w.At > 0 && lex.Is(s[w.At-1:end]) || end < len(s) && lex.Is(s[w.At:end+1]) {
					t.Fatalf("%q: %q, at %d", s, w.Text, w.At)
				}
			}
			if line.At > 0 && s[line.At-1] != '\n' || strings.Contains(s[line.At:line.Words[0].At], "\n") {
				t.Fatalf("%q: a line at %d", s, line.At)
			}
		}
	}
}

// moved are the lines as they are, so many bytes farther behind.
func moved(l []lex.Line, by int) []lex.Line {
	all := []lex.Line{}
	for _, line := range l {
		m := lex.Line{At: line.At + by}
		for _, w := range line.Words {
			m.Words = append(m.Words, lex.Word{Text: w.Text, At: w.At + by})
		}
		all = append(all, m)
	}
	return all
}

// TestOneBehindAnother: a text's end is a line's end, whatever stands behind it; a bad byte of the first one comes first.
func TestOneBehindAnother(t *testing.T) {
	few := append(texts([]byte{'a', ' ', '\n', '#', 127}, 3), long()[:60]...)
	for _, s := range few {
		for _, u := range few {
			checkBehind(t, s, u)
		}
	}
}

func checkBehind(t *testing.T, s, u string) {
	t.Helper()
	first, wantAt, want := lex.Lines(s)
	second, at, e := lex.Lines(u)
	by := len(s) + 1
	lines := append(slices.Clone(first), moved(second, by)...)
	if want == api.OK && e != api.OK {
		wantAt, want = at+by, e
	}
	if want != api.OK {
		lines = nil
	}
	l, at, e := lex.Lines(s + "\n" + u)
	if !sameLines(l, lines) || at != wantAt || e != want {
		t.Fatalf("%q, and %q behind it: %v, %d, %d", s, u, l, at, e)
	}
}
