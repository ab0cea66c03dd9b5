package parse_test

import (
	"slices"
	"testing"

	"tallage/parse"
)

// P9.2

var (
	classWords = []string{"", "income", "expense", "exempt", "denied", "capped", "deferred", "depreciation", "interest-in", "interest-out", "dividend", "distribution"}
	dealWords  = []string{"", "goods", "service", "interest", "dividend"}
)

// checkKinds asks for all kinds, and for words of all sorts.
func checkKinds(t *testing.T, words []string, kindOf func(string) (uint8, bool), wordOf func(uint8) string) {
	t.Helper()
	for kind := range 256 {
		want := ""
		if kind < len(words) {
			want = words[kind]
		}
		if got := wordOf(uint8(kind)); got != want {
			t.Errorf("the word of %d: %q", kind, got)
		}
	}
	asked := slices.Concat(classWords, dealWords, someWords, []string{" ", "income expense", "goods service", " income", "income ", "goods\n", "\x00", "\xff", "é", "0", "1", "11"})
	for _, word := range asked {
		want := max(slices.Index(words, word), 0)
		if kind, ok := kindOf(word); int(kind) != want || ok != (want > 0) {
			t.Errorf("the kind of %q: %d, %v", word, kind, ok)
		}
	}
}

func TestKinds(t *testing.T) {
	checkKinds(t, classWords, parse.ClassKind, parse.ClassWord)
	checkKinds(t, dealWords, parse.DealKind, parse.DealWord)
}

// P9.4: kinds and words go there and back.

func TestKindsAndBack(t *testing.T) {
	for kind := range 256 {
		k := uint8(kind)
		if got, ok := parse.ClassKind(parse.ClassWord(k)); ok != (kind >= 1 && kind <= 11) || ok && got != k {
			t.Errorf("class %d: %d, %v", kind, got, ok)
		}
		if got, ok := parse.DealKind(parse.DealWord(k)); ok != (kind >= 1 && kind <= 4) || ok && got != k {
			t.Errorf("deal %d: %d, %v", kind, got, ok)
		}
	}
	for _, word := range someWords {
		if kind, ok := parse.ClassKind(word); ok && parse.ClassWord(kind) != word {
			t.Errorf("class %q: %d", word, kind)
		}
		if kind, ok := parse.DealKind(word); ok && parse.DealWord(kind) != word {
			t.Errorf("deal %q: %d", word, kind)
		}
	}
}
