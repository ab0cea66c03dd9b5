package ast_test

import (
	"reflect"
	"testing"

	"tallage/api"
	"tallage/ast"
	"tallage/big"
	"tallage/rat"
)

// P8.3

// odd is a filing of all that may not be, and of rows that are nil, empty, or long.
func odd() ast.Filing {
	f := right()
	f.Name, f.Parent, f.Back, f.Keep = "", "a b\x00\xff", -5, 1<<40
	f.Threshold, f.Cap, f.Interest, f.Floor = rat.Rat{}, rat.Rat{Num: less(4, 0), Den: mag(2)}, rat.Rat{Num: less(), Den: mag()}, rat.Rat{Num: mag(0, 0), Den: less(0, 0)}
	f.Classes = append(f.Classes, ast.Class{}, ast.Class{Kind: 200, Arg: said("-1e300")})
	f.Brackets, f.Entities = []ast.Bracket{}, longer(f.Entities, 300)
	f.Years[0], f.Years[1].Holds, f.Years[1].Solds = ast.Year{Number: -1}, nil, []ast.Sold{}
	for i, x := range wrong() {
		f.Years[2].Books = append(f.Years[2].Books, ast.Book{Entity: string(rune('0' + i)), Amount: deep(x)})
	}
	f.Years = append(f.Years, ast.Year{})
	return f
}

func filings() []ast.Filing { return []ast.Filing{right(), odd(), {}, {Years: []ast.Year{{}}}} }

// leaves are all texts, numbers and bools of a value, limbs among them, which may be set.
func leaves(v reflect.Value) []reflect.Value {
	l := []reflect.Value{}
	switch v.Kind() {
	case reflect.Struct:
		for i := range v.NumField() {
			l = append(l, leaves(v.Field(i))...)
		}
	case reflect.Slice:
		for i := range v.Len() {
			l = append(l, leaves(v.Index(i))...)
		}
	default:
		l = append(l, v)
	}
	return l
}

// rows are all lists of a value, limbs' among them, which may be set.
func rows(v reflect.Value) []reflect.Value {
	l := []reflect.Value{}
	switch v.Kind() {
	case reflect.Struct:
		for i := range v.NumField() {
			l = append(l, rows(v.Field(i))...)
		}
	case reflect.Slice:
		l = append(l, v)
		for i := range v.Len() {
			l = append(l, rows(v.Index(i))...)
		}
	}
	return l
}

func in(f *ast.Filing) reflect.Value { return reflect.ValueOf(f).Elem() }

// change makes another one of a leaf.
func change(v reflect.Value) {
	switch v.Kind() {
	case reflect.String:
		v.SetString(v.String() + "x")
	case reflect.Bool:
		v.SetBool(!v.Bool())
	case reflect.Int:
		v.SetInt(v.Int() + 1)
	default:
		v.SetUint(v.Uint() ^ 1)
	}
}

func checkSame(t *testing.T, a, b ast.Filing, want bool, what ...any) {
	t.Helper()
	if ast.Same(a, b) != want || ast.Same(b, a) != want {
		t.Fatalf("%v: same %v and %v, want %v", what, ast.Same(a, b), ast.Same(b, a), want)
	}
}

func TestSame(t *testing.T) {
	all := filings()
	for i, a := range all {
		for j, b := range all {
			checkSame(t, a, deep(b), i == j, "filings", i, j)
		}
	}
}

// TestEachLeafCounts changes one thing at a time, each limb and each sign among them.
func TestEachLeafCounts(t *testing.T) {
	for i, f := range filings() {
		other := deep(f)
		for j, v := range leaves(in(&other)) {
			was := deep(v.Interface())
			change(v)
			checkSame(t, f, other, false, "leaf", i, j)
			v.Set(reflect.ValueOf(was))
			checkSame(t, f, other, true, "leaf, as it was", i, j)
		}
	}
}

// TestEachRowCounts makes each row longer, shorter, and turns it round.
func TestEachRowCounts(t *testing.T) {
	for i, f := range filings() {
		other := deep(f)
		for j, v := range rows(in(&other)) {
			// The row itself comes back at last, for in its memory lie the rows that follow.
			was := reflect.ValueOf(v.Interface())
			v.Set(reflect.Append(was.Slice3(0, was.Len(), was.Len()), reflect.Zero(v.Type().Elem())))
			checkSame(t, f, other, false, "longer row", i, j)
			if n := was.Len(); n > 0 {
				v.Set(was.Slice(0, n-1))
				checkSame(t, f, other, false, "row without its last", i, j)
				v.Set(was.Slice(1, n))
				checkSame(t, f, other, false, "row without its first", i, j)
				v.Set(reflect.AppendSlice(was.Slice3(n-1, n, n), was.Slice(0, n-1)))
				checkSame(t, f, other, reflect.DeepEqual(v.Interface(), was.Interface()), "row with its last ahead", i, j)
			}
			v.Set(was)
			checkSame(t, f, other, true, "row, as it was", i, j)
		}
	}
}

// TestNilIsEmpty takes each row without parts for nil, and each nil one for a row without parts.
func TestNilIsEmpty(t *testing.T) {
	for i, f := range filings() {
		other := deep(f)
		for _, v := range rows(in(&other)) {
			switch {
			case v.IsNil():
				v.Set(reflect.MakeSlice(v.Type(), 0, 3))
			case v.Len() == 0:
				v.SetZero()
			}
		}
		checkSame(t, f, other, true, "filing", i)
		checkSame(t, ast.Copy(f), other, true, "copy of the filing", i)
		p, e := ast.Right(f)
		checkRight(t, other, p, e, "filing", i)
	}
}

// TestSameNumbers: what counts the same number is not the same, unless all limbs are.
func TestSameNumbers(t *testing.T) {
	zero := of(0, 1)
	for i, x := range append(wrong(), of(0, 1), of(1, 1)) {
		for j, y := range append(wrong(), of(0, 1), of(1, 1)) {
			f, g := ast.Filing{Cap: x, Floor: zero}, ast.Filing{Cap: y, Floor: zero}
			checkSame(t, f, g, sameNumber(x.Num, y.Num) && sameNumber(x.Den, y.Den), "fractions", i, j)
		}
	}
}

func sameNumber(a, b big.Int) bool {
	if a.Neg != b.Neg || len(a.Mag) != len(b.Mag) {
		return false
	}
	for i := range a.Mag {
		if a.Mag[i] != b.Mag[i] {
			return false
		}
	}
	return true
}

func TestCopy(t *testing.T) {
	for i, f := range filings() {
		g := ast.Copy(f)
		checkSame(t, f, g, true, "copy", i)
		// Part by part, by means of the language, as Same may be as wrong as Copy.
		a, b := leaves(in(&f)), leaves(in(&g))
		if len(a) != len(b) {
			t.Fatalf("copy %d has %d leaves, want %d", i, len(b), len(a))
		}
		for j := range a {
			if !a[j].Equal(b[j]) {
				t.Fatalf("copy %d, leaf %d: %v, want %v", i, j, b[j], a[j])
			}
		}
		p, e := ast.Right(f)
		checkRight(t, g, p, e, "copy", i)
	}
	checkRight(t, ast.Copy(right()), ast.Place{}, api.OK, "a copy")
}
