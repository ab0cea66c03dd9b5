package ast_test

import (
	"reflect"
	"testing"

	"tallage/api"
	"tallage/ast"
)

// P8.5

// TestCopiesStay changes one of both, thing by thing, and all of it at last.
func TestCopiesStay(t *testing.T) {
	for i, f := range filings() {
		want := deep(f)
		copied := ast.Copy(f)
		for j, v := range leaves(in(&f)) {
			change(v)
			checkSame(t, copied, want, true, "copy of a filing that was changed", i, j)
		}
		again := ast.Copy(copied)
		for j, v := range leaves(in(&copied)) {
			change(v)
			checkSame(t, again, want, true, "copy of a copy that was changed", i, j)
		}
		f = deep(want)
		last := ast.Copy(f)
		for _, v := range rows(in(&last)) {
			v.Set(reflect.Append(v, reflect.Zero(v.Type().Elem())))
		}
		for _, v := range leaves(in(&last)) {
			change(v)
		}
		checkSame(t, f, want, true, "filing whose copy was changed", i)
	}
}

// TestWithoutTheLast: what is left of a right filing is right.
func TestWithoutTheLast(t *testing.T) {
	f := right()
	f.Years, f.Entities = longer(f.Years, 40), longer(f.Entities, 256)
	checkRight(t, f, ast.Place{}, api.OK, "a filing of all years and entities")
	for len(f.Years) > 0 || len(f.Entities) > 0 {
		f.Years = f.Years[:max(len(f.Years)-1, 0)]
		checkRight(t, f, ast.Place{}, api.OK, "years", len(f.Years))
		f.Entities = f.Entities[:max(len(f.Entities)-1, 0)]
		checkRight(t, f, ast.Place{}, api.OK, "entities", len(f.Entities))
	}
}

// TestWithoutTheRest: what was broken by the last year, or the last entity, is right without it.
func TestWithoutTheRest(t *testing.T) {
	for _, b := range breaches() {
		f := right()
		b.do(&f)
		if _, e := ast.Right(f); e == api.OK {
			t.Fatalf("%v breaks nothing", b.Place)
		}
		if b.Year == len(f.Years)-1 || b.Part == 6 && b.At == len(f.Years)-1 {
			f.Years = f.Years[:len(f.Years)-1]
			checkRight(t, f, ast.Place{}, api.OK, "the years ahead of", b.Place)
		}
		if b.Part == 5 && b.At == len(f.Entities)-1 {
			f.Entities = f.Entities[:len(f.Entities)-1]
			checkRight(t, f, ast.Place{}, api.OK, "the entities ahead of", b.Place)
		}
	}
}
