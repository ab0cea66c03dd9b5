package sound_test

import (
	"reflect"
	"slices"
	"testing"
	"unsafe"

	"tallage/ast"
	"tallage/sound"
)

// P11.4

// memory is what a value was laid in: rows with what stands behind, and texts' bytes.
type memory struct {
	rows  []reflect.Value
	texts [][]byte
}

// lay is the same value, of which each row and each text lies in memory that may be written over.
func (m *memory) lay(v reflect.Value) reflect.Value {
	switch v.Kind() {
	case reflect.Struct:
		laid := reflect.New(v.Type()).Elem()
		for i := range v.NumField() {
			laid.Field(i).Set(m.lay(v.Field(i)))
		}
		return laid
	case reflect.Slice:
		if v.IsNil() {
			return v
		}
		n := v.Len()
		all := reflect.MakeSlice(v.Type(), n+2, n+2)
		for i := range n + 2 {
			// What stands behind the row is the first part again.
			if n > 0 {
				all.Index(i).Set(m.lay(v.Index(i % n)))
			}
		}
		m.rows = append(m.rows, all)
		return all.Slice(0, n)
	case reflect.String:
		b := []byte(v.String())
		m.texts = append(m.texts, b)
		return reflect.ValueOf(unsafe.String(unsafe.SliceData(b), len(b)))
	}
	return v
}

// state is all that lies in it.
func (m *memory) state() any {
	l := []any{}
	for _, row := range m.rows {
		l = append(l, new(memory).lay(row).Interface())
	}
	for _, b := range m.texts {
		l = append(l, slices.Clone(b))
	}
	return l
}

// checkOnlyRead lays a filing in memory that is looked at afterwards; the answers may be written over, and hang on nothing but the filing.
func checkOnlyRead(t *testing.T, f ast.Filing) {
	t.Helper()
	want, wantError := sound.All(f)
	m := &memory{}
	g := m.lay(reflect.ValueOf(f)).Interface().(ast.Filing)
	was := m.state()
	first, e := sound.All(g)
	if e != wantError || !slices.Equal(first, want) {
		t.Fatalf("%v, error %d; want %v, error %d", first, e, want, wantError)
	}
	second, _ := sound.All(g)
	for i := range first[:cap(first)] {
		first[:cap(first)][i] = sound.Fault{Rule: 99}
	}
	if !slices.Equal(second, want) {
		t.Fatal("two answers share memory")
	}
	fault, err := sound.Check(g)
	if !reflect.DeepEqual(m.state(), was) {
		t.Fatal("a call changed what was handed in")
	}
	if again, e := sound.Check(f); again != fault || e != err {
		t.Fatalf("%v, error %d; then %v, error %d", fault, err, again, e)
	}
}

func TestOnlyRead(t *testing.T) {
	checkOnlyRead(t, full(t))
	checkOnlyRead(t, ast.Filing{})
	wrong := full(t)
	wrong.Years[2].Solds[1].ID = ""
	checkOnlyRead(t, wrong)
	for _, b := range oneByOne() {
		checkOnlyRead(t, parsed(t, edited(t, text, b.edits...)))
	}
	m := newMaker(121)
	for range 100 {
		checkOnlyRead(t, m.sound())
		checkOnlyRead(t, m.loose())
	}
}

// TestEmptyRows: rows that are nil and rows that are empty mean the same.
func TestEmptyRows(t *testing.T) {
	f := parsed(t, edited(t, text, text[len(text)-len("book C gain 0.00\nsold m 100%\nsold i 10%\n"):], ""))
	checkFaults(t, f, "", "rows that are nil")
	f.Years[2] = ast.Year{Number: 2022, Holds: []ast.Hold{}, Books: []ast.Book{}, Deals: []ast.Deal{}, Stocks: []ast.Stock{}, Solds: []ast.Sold{}}
	checkFaults(t, f, "", "rows that are empty")
	f.Brackets, f.Classes, f.Entities, f.Years = []ast.Bracket{}, []ast.Class{}, []string{}, []ast.Year{}
	checkFaults(t, f, "1,-1,0 5,-1,0 6,-1,0", "all rows empty")
	f.Brackets, f.Classes, f.Entities, f.Years = nil, nil, nil, nil
	checkFaults(t, f, "1,-1,0 5,-1,0 6,-1,0", "all rows nil")
}

// TestCallsBetween: what was asked ahead, of whatever filing, counts for nothing.
func TestCallsBetween(t *testing.T) {
	m := newMaker(123)
	for range 50 {
		f, g := m.loose(), m.sound()
		want := told(wantAll(f))
		checkFaults(t, f, want, "ahead")
		checkFaults(t, g, "", "between")
		checkFaults(t, f, want, "behind")
	}
}
