package lex_test

import (
	"slices"
	"strings"
	"testing"
	"unsafe"

	"tallage/lex"
)

// P7.4

// laid is the text that lies in some memory, which may be written over.
func laid(memory []byte) string { return unsafe.String(unsafe.SliceData(memory), len(memory)) }

// copied is the same in memory of its own.
func copied(l []lex.Line) []lex.Line {
	all := make([]lex.Line, len(l))
	for i, line := range l {
		all[i].At = line.At
		for _, w := range line.Words {
			all[i].Words = append(all[i].Words, lex.Word{Text: strings.Clone(w.Text), At: w.At})
		}
	}
	return all
}

func TestTextIsNotKept(t *testing.T) {
	for _, s := range append(long(), "a", "ab cd", "a\nb c\n", "a # b", strings.Repeat("word ", 4000)) {
		memory := []byte(s)
		l, at, e := lex.Lines(laid(memory))
		if string(memory) != s {
			t.Fatalf("%q was changed", s)
		}
		for i := range memory {
			memory[i] = '?'
		}
		want, place, f := wantLines(s)
		if !sameLines(l, want) || at != place || e != f {
			t.Fatalf("the lines of %q hang on its memory", s)
		}
	}
}

// spoil writes over lines, and all the memory that they could grow into.
func spoil(l []lex.Line) {
	l = l[:cap(l)]
	for i := range l {
		spoilWords(l[i].Words)
		l[i] = lex.Line{At: -5}
	}
}

func spoilWords(w []lex.Word) {
	w = w[:cap(w)]
	for i := range w {
		w[i] = lex.Word{Text: "spoilt", At: -7}
	}
}

func TestLinesAreNewMemory(t *testing.T) {
	for _, s := range long() {
		first, _, _ := lex.Lines(s)
		second, _, _ := lex.Lines(s)
		want := copied(first)
		for i := range first {
			spoilWords(first[i].Words)
			if !sameLines(first[i+1:], want[i+1:]) {
				t.Fatalf("%q: line %d shares memory with another one", s, i)
			}
		}
		spoil(first)
		if !sameLines(second, want) {
			t.Fatalf("%q: an answer hangs on another one's memory", s)
		}
		if again, _, _ := lex.Lines(s); !sameLines(again, want) {
			t.Fatalf("%q: an answer hangs on one before it", s)
		}
	}
}

// address is where a text lies in memory.
func address(s string) uintptr { return uintptr(unsafe.Pointer(unsafe.StringData(s))) }

func overlap(s, u string) bool {
	return address(s) < address(u)+uintptr(len(u)) && address(u) < address(s)+uintptr(len(s))
}

// TestWordsShareNone: no word lies in another one's memory, or in the text's.
func TestWordsShareNone(t *testing.T) {
	for _, s := range []string{"abc def ghi", "ab\ncd ef\n", "word word\nword", "a b\na", "all"} {
		l, _, _ := lex.Lines(s)
		all := []string{s}
		for _, row := range said(l) {
			all = append(all, row...)
		}
		for i, w := range all {
			for _, other := range all[:i] {
				if overlap(w, other) {
					t.Fatalf("%q: %q and %q share memory", s, w, other)
				}
			}
		}
	}
}

// TestLinesAreOnlyRead shows lines that lie in the midst of other memory, which is written over behind the call.
func TestLinesAreOnlyRead(t *testing.T) {
	for _, rows := range [][][]string{{{"a"}}, {{"one"}, {"two", "three"}}, {{}, {"x", "", "y"}}, {{"all"}, {}}} {
		texts := [][]byte{}
		// All words lie in one row, which must not move while it grows.
		words := append(make([]lex.Word, 0, 20), lex.Word{Text: "ahead", At: 1})
		lines := []lex.Line{{At: 11}}
		for i, row := range rows {
			from := len(words)
			for _, s := range row {
				texts = append(texts, []byte(s))
				words = append(words, lex.Word{Text: laid(texts[len(texts)-1]), At: i})
			}
			lines = append(lines, lex.Line{At: -i, Words: words[from:]})
			words = append(words, lex.Word{Text: "behind", At: 2})
		}
		lines = append(lines, lex.Line{At: 12})
		within := lines[1 : len(lines)-1]
		wasWords, wasLines := slices.Clone(words), copied(lines)
		text := lex.Show(within...)
		want := strings.Clone(text)
		if !slices.Equal(words, wasWords) || !sameLines(lines, wasLines) {
			t.Fatalf("%v: Show changed what was handed in", rows)
		}
		for _, memory := range texts {
			for i := range memory {
				memory[i] = '?'
			}
		}
		spoil(lines)
		if text != want || text != joined(rows) {
			t.Fatalf("%v: %q hangs on memory of others", rows, text)
		}
	}
}

// joined is what P7.3 asks of rows of texts.
func joined(rows [][]string) string {
	s := ""
	for _, row := range rows {
		s += strings.Join(row, " ") + "\n"
	}
	return s
}
