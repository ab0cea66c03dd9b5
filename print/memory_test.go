package print_test

import (
	"math/rand/v2"
	"reflect"
	"slices"
	"testing"
	"unsafe"

	"tallage/ast"
	"tallage/print"
)

// P10.3

// memory is what a value was laid in: rows with what stands behind, and texts' bytes.
type memory struct {
	rows  []reflect.Value
	texts [][]byte
}

// lay is the same value, of which each row and each text lies in memory that may be written over.
func (m *memory) lay(v reflect.Value) reflect.Value {
	switch v.Kind() {
	case reflect.Struct:
		laid := reflect.New(v.Type()).Elem()
		for i := range v.NumField() {
			laid.Field(i).Set(m.lay(v.Field(i)))
		}
		return laid
	case reflect.Slice:
		if v.IsNil() {
			return v
		}
		n := v.Len()
		all := reflect.MakeSlice(v.Type(), n+2, n+2)
		for i := range n + 2 {
			// What stands behind the row is the first part again.
			if n > 0 {
				all.Index(i).Set(m.lay(v.Index(i % n)))
			}
		}
		m.rows = append(m.rows, all)
		return all.Slice(0, n)
	case reflect.String:
		b := []byte(v.String())
		m.texts = append(m.texts, b)
		return reflect.ValueOf(unsafe.String(unsafe.SliceData(b), len(b)))
	}
	return v
}

// state is all that lies in it.
func (m *memory) state() any {
	l := []any{}
	for _, row := range m.rows {
		l = append(l, new(memory).lay(row).Interface())
	}
	for _, b := range m.texts {
		l = append(l, slices.Clone(b))
	}
	return l
}

// spoil writes over all of it.
func (m *memory) spoil() {
	for _, b := range m.texts {
		for i := range b {
			b[i] = '?'
		}
	}
	for _, row := range m.rows {
		row.Clear()
		for i := range row.Len() {
			row.Index(i).SetZero()
		}
	}
}

// checkOnlyRead lays what is printed in memory that is looked at afterwards, and written over.
func checkOnlyRead[T any](t *testing.T, x T, put func(T) string) {
	t.Helper()
	want := put(x)
	m := &memory{}
	y := m.lay(reflect.ValueOf(x)).Interface().(T)
	was := m.state()
	first := put(y)
	second := put(y)
	if !reflect.DeepEqual(m.state(), was) {
		t.Fatalf("%v was changed", x)
	}
	if len(first) > 0 && unsafe.StringData(first) == unsafe.StringData(second) {
		t.Fatalf("two answers share memory: %q", first)
	}
	m.spoil()
	if first != want || second != want {
		t.Fatalf("what is printed hangs on its memory: %q, %q, not %q", first, second, want)
	}
}

func text(f ast.Filing) string {
	s, _ := print.Print(f)
	return s
}

func TestOnlyRead(t *testing.T) {
	checkOnlyRead(t, full(), text)
	checkOnlyRead(t, short(), text)
	checkOnlyRead(t, ast.Filing{}, text)
	broken := full()
	broken.Years[3].Number = 0
	checkOnlyRead(t, broken, text)
	m := maker{rand.New(rand.NewPCG(105, 106))}
	for range 100 {
		checkOnlyRead(t, m.filing(), text)
	}
	for kind := range uint8(14) {
		checkOnlyRead(t, ast.Class{Name: "name", Kind: kind, Arg: of("-7/3")}, print.Class)
		checkOnlyRead(t, ast.Deal{ID: "id", Kind: kind, Payee: "a", Payer: "b", Class: "c", Amount: of("-7/3")}, print.Deal)
	}
	for _, x := range wrong() {
		checkOnlyRead(t, ast.Class{Kind: 4, Arg: x}, print.Class)
		checkOnlyRead(t, ast.Deal{Amount: x}, print.Deal)
	}
}
