package parse_test

import (
	"cmp"
	"reflect"
	"slices"
	"testing"
	"unsafe"

	"tallage/api"
	"tallage/ast"
	"tallage/parse"
)

// P9.3

// laid is the text that lies in some memory, which may be written over.
func laid(memory []byte) string { return unsafe.String(unsafe.SliceData(memory), len(memory)) }

func TestTextIsNotKept(t *testing.T) {
	for _, s := range []string{text(all...), text(law...), text(all[:20]...), text(all...) + "\n?", "filing"} {
		memory := []byte(s)
		f, at, e := parse.Parse(laid(memory))
		if string(memory) != s {
			t.Fatalf("%q was changed", s)
		}
		for i := range memory {
			memory[i] = '?'
		}
		l, place, want := wantParsed(s)
		if at != place || e != want || !ast.Same(f, filingSaid(l)) {
			t.Fatalf("what %q says hangs on its memory", s)
		}
	}
	for _, word := range []string{"deferred", "goods", "none"} {
		memory := []byte(word)
		parse.ClassKind(laid(memory))
		parse.DealKind(laid(memory))
		if string(memory) != word {
			t.Fatalf("%q was changed", word)
		}
	}
}

// span is where something lies in memory.
type span struct{ from, to uintptr }

// spans are all of a value's rows, with what they could grow into, and its texts.
func spans(v reflect.Value) []span {
	l := []span{}
	add := func(from unsafe.Pointer, size uintptr) {
		if size > 0 {
			l = append(l, span{uintptr(from), uintptr(from) + size})
		}
	}
	switch v.Kind() {
	case reflect.Struct:
		for i := range v.NumField() {
			l = append(l, spans(v.Field(i))...)
		}
	case reflect.Slice:
		add(v.UnsafePointer(), uintptr(v.Cap())*v.Type().Elem().Size())
		for i := range v.Len() {
			l = append(l, spans(v.Index(i))...)
		}
	case reflect.String:
		add(unsafe.Pointer(unsafe.StringData(v.String())), uintptr(v.Len()))
	}
	return l
}

// TestFilingsShareNone: no row and no text of two answers lies in another one's memory, or in the text that was parsed.
func TestFilingsShareNone(t *testing.T) {
	s := text(all...)
	f, _, e := parse.Parse(s)
	g, _, _ := parse.Parse(s)
	if e != api.OK {
		t.Fatal(e)
	}
	places := slices.Concat(spans(reflect.ValueOf(s)), spans(reflect.ValueOf(f)), spans(reflect.ValueOf(g)))
	slices.SortFunc(places, func(a, b span) int { return cmp.Compare(a.from, b.from) })
	for i := 1; i < len(places); i++ {
		if places[i].from < places[i-1].to {
			t.Fatal("answers share memory")
		}
	}
}

// TestAnswersHangOnTheTextAlone: what was answered may be changed, and what was parsed between counts for nothing.
func TestAnswersHangOnTheTextAlone(t *testing.T) {
	s := text(all...)
	f, _, _ := parse.Parse(s)
	for i := range f.Classes {
		f.Classes[i].Arg.Den.Mag[0] = 7
		f.Classes[i].Name = "changed"
	}
	f.Years[1].Deals[0].Amount.Num.Mag[0]++
	parse.Parse(text(law...))
	parse.Parse("?")
	checkParse(t, s)
}
