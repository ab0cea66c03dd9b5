package ast_test

import (
	"cmp"
	"reflect"
	"slices"
	"testing"
	"unsafe"

	"tallage/ast"
	"tallage/rat"
)

// P8.4

// memory is what a value was laid in: rows with what stands ahead and behind, and texts' bytes.
type memory struct {
	rows  []reflect.Value
	texts [][]byte
}

// lay is the same value, of which each row and each text lies in the midst of other memory.
func (m *memory) lay(v reflect.Value) reflect.Value {
	switch v.Kind() {
	case reflect.Struct:
		laid := reflect.New(v.Type()).Elem()
		for i := range v.NumField() {
			laid.Field(i).Set(m.lay(v.Field(i)))
		}
		return laid
	case reflect.Slice:
		if v.IsNil() {
			return v
		}
		n := v.Len()
		all := reflect.MakeSlice(v.Type(), n+3, n+3)
		for i := range n {
			all.Index(i + 1).Set(m.lay(v.Index(i)))
		}
		for _, i := range []int{0, n + 1, n + 2} {
			fill(all.Index(i))
		}
		m.rows = append(m.rows, all)
		return all.Slice(1, n+1)
	case reflect.String:
		b := []byte(v.String())
		m.texts = append(m.texts, b)
		return reflect.ValueOf(unsafe.String(unsafe.SliceData(b), len(b)))
	}
	return v
}

// fill makes something of a value whose rows are nil.
func fill(v reflect.Value) {
	for _, leaf := range leaves(v) {
		change(leaf)
	}
}

// spoil writes over all of it.
func (m *memory) spoil() {
	for _, row := range m.rows {
		for i := range row.Len() {
			row.Index(i).SetZero()
			fill(row.Index(i))
		}
	}
	for _, b := range m.texts {
		for i := range b {
			b[i] = '?'
		}
	}
}

// state is all that lies in it.
func (m *memory) state() any {
	l := []any{}
	for _, row := range m.rows {
		l = append(l, deep(row.Interface()))
	}
	for _, b := range m.texts {
		l = append(l, slices.Clone(b))
	}
	return l
}

// deep is the same value in memory of its own.
func deep[T any](x T) T { return new(memory).lay(reflect.ValueOf(x)).Interface().(T) }

func laid(f ast.Filing) (ast.Filing, *memory) {
	m := &memory{}
	return m.lay(reflect.ValueOf(f)).Interface().(ast.Filing), m
}

func TestFilingsAreOnlyRead(t *testing.T) {
	for i, f := range filings() {
		want := deep(f)
		p, e := ast.Right(f)
		g, m := laid(f)
		h, n := laid(f)
		was := m.state()
		for range 2 {
			checkRight(t, g, p, e, "laid filing", i)
			checkSame(t, g, h, true, "laid filing", i)
		}
		first, second := ast.Copy(g), ast.Copy(h)
		if !reflect.DeepEqual(m.state(), was) || !reflect.DeepEqual(n.state(), was) {
			t.Fatalf("filing %d: a call changed what was handed in", i)
		}
		m.spoil()
		checkSame(t, first, want, true, "copy of what was written over", i)
		checkSame(t, second, want, true, "another copy", i)
		checkSame(t, h, want, true, "filing that was not written over", i)
		checkRight(t, first, p, e, "copy", i)
	}
}

func TestFractionsAreOnlyRead(t *testing.T) {
	for _, x := range append(fractions(), wrong()...) {
		m := &memory{}
		y := m.lay(reflect.ValueOf(x)).Interface().(rat.Rat)
		was := m.state()
		for range 2 {
			if ast.IsMoney(y) != ast.IsMoney(x) || ast.IsShare(y) != ast.IsShare(x) {
				t.Fatalf("%v: the answers hang on where it lies", x)
			}
		}
		if !reflect.DeepEqual(m.state(), was) {
			t.Fatalf("%v: a call changed what was handed in", x)
		}
	}
}

// span is where something lies in memory.
type span struct{ from, to uintptr }

// spans are all of a value's rows, with what they could grow into, and its texts.
func spans(v reflect.Value) []span {
	l := []span{}
	add := func(from unsafe.Pointer, size uintptr) {
		if size > 0 {
			l = append(l, span{uintptr(from), uintptr(from) + size})
		}
	}
	for _, row := range rows(v) {
		add(row.UnsafePointer(), uintptr(row.Cap())*row.Type().Elem().Size())
	}
	for _, leaf := range leaves(v) {
		if leaf.Kind() == reflect.String {
			s := leaf.String()
			add(unsafe.Pointer(unsafe.StringData(s)), uintptr(len(s)))
		}
	}
	return l
}

// TestCopiesShareNone: no row and no text of two copies lies in another one's memory, or in what was copied.
func TestCopiesShareNone(t *testing.T) {
	for i, f := range filings() {
		g, h := ast.Copy(f), ast.Copy(f)
		handedIn, all := spans(in(&f)), append(spans(in(&g)), spans(in(&h))...)
		for _, s := range all {
			for _, other := range handedIn {
				if s.from < other.to && other.from < s.to {
					t.Fatalf("filing %d and its copy share memory", i)
				}
			}
		}
		slices.SortFunc(all, func(a, b span) int { return cmp.Compare(a.from, b.from) })
		for j := 1; j < len(all); j++ {
			if all[j].from < all[j-1].to {
				t.Fatalf("copies of filing %d share memory", i)
			}
		}
	}
}
