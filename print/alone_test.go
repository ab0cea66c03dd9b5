package print_test

import (
	"math/rand/v2"
	"strings"
	"testing"

	"tallage/api"
	"tallage/ast"
	"tallage/big"
	"tallage/print"
	"tallage/rat"
)

// P10.2

func checkClass(t *testing.T, c ast.Class, want string) {
	t.Helper()
	if got := print.Class(c); got != want {
		t.Errorf("%v: %q, not %q", c, got, want)
	}
}

func checkDeal(t *testing.T, d ast.Deal, want string) {
	t.Helper()
	if got := print.Deal(d); got != want {
		t.Errorf("%v: %q, not %q", d, got, want)
	}
}

// wrong are fractions that are not right.
func wrong() []rat.Rat {
	one := big.Int{Mag: []uint32{1}}
	return []rat.Rat{
		{}, {Num: one}, {Num: one, Den: big.Int{Neg: true, Mag: []uint32{1}}}, {Num: big.Int{Mag: []uint32{6}}, Den: big.Int{Mag: []uint32{4}}},
		{Num: big.Int{Mag: []uint32{1, 0}}, Den: one}, {Num: big.Int{Neg: true}, Den: one},
	}
}

// TestClassesByThemselves writes out the answers.
func TestClassesByThemselves(t *testing.T) {
	for _, c := range []struct {
		kind      uint8
		arg, want string
	}{
		{api.Income, "5", "class a income"}, {api.Distribution, "1/3", "class a distribution"}, {api.Depreciation, "0", "class a depreciation"},
		{api.Denied, "0", "class a denied 0%"}, {api.Denied, "1", "class a denied 100%"}, {api.Denied, "0.123456", "class a denied 12.3456%"}, {api.Denied, "0.05", "class a denied 5%"},
		{api.Denied, "2", "class a denied "}, {api.Denied, "1/3", "class a denied "}, {api.Denied, "-1/2", "class a denied "},
		{api.Capped, "100", "class a capped 100.00"}, {api.Capped, "-1/8", "class a capped -0.12"}, {api.Capped, "3/8", "class a capped 0.38"}, {api.Capped, "1e50", "class a capped 1" + strings.Repeat("0", 50) + ".00"},
		{api.Capped, "-1/1000", "class a capped 0.00"},
		{api.Deferred, "40", "class a deferred 40"}, {api.Deferred, "41", "class a deferred 41"}, {api.Deferred, "-3", "class a deferred -3"},
		{api.Deferred, "5/2", "class a deferred 2"}, {api.Deferred, "7/2", "class a deferred 4"}, {api.Deferred, "-1/2", "class a deferred 0"}, {api.Deferred, "-3/2", "class a deferred -2"}, {api.Deferred, "17/5", "class a deferred 3"},
		{0, "5", "class a "}, {12, "5", "class a "}, {255, "5", "class a "},
	} {
		checkClass(t, ast.Class{Name: "a", Kind: c.kind, Arg: of(c.arg)}, c.want)
	}
	checkClass(t, ast.Class{}, "class  ")
	checkClass(t, ast.Class{Kind: api.Income}, "class  income")
	checkClass(t, ast.Class{Name: "a b\n#", Kind: api.Expense}, "class a b\n# expense")
	checkClass(t, ast.Class{Name: "\x00\xff", Kind: 99}, "class \x00\xff ")
	for _, x := range wrong() {
		checkClass(t, ast.Class{Name: "a", Kind: api.Denied, Arg: x}, "class a denied 0%")
		checkClass(t, ast.Class{Name: "a", Kind: api.Capped, Arg: x}, "class a capped 0.00")
		checkClass(t, ast.Class{Name: "a", Kind: api.Deferred, Arg: x}, "class a deferred 0")
		checkClass(t, ast.Class{Name: "a", Kind: api.Exempt, Arg: x}, "class a exempt")
	}
}

func TestDealsByThemselves(t *testing.T) {
	checkDeal(t, ast.Deal{Give: true, ID: "i", Kind: api.Loan, Payee: "A", Payer: "B", Class: "c", Amount: of("-5/2")}, "give i interest A B c -2.50")
	checkDeal(t, ast.Deal{ID: "i", Kind: api.Payout, Payee: "A", Payer: "B", Class: "c", Amount: of("1/3")}, "take i dividend A B c 0.33")
	checkDeal(t, ast.Deal{}, "take      0.00")
	checkDeal(t, ast.Deal{Give: true}, "give      0.00")
	checkDeal(t, ast.Deal{ID: "i", Payee: "A", Payer: "B", Class: "c", Amount: of("1")}, "take i  A B c 1.00")
	checkDeal(t, ast.Deal{ID: "i", Kind: 5, Payee: "A", Payer: "B", Class: "c", Amount: of("0.005")}, "take i  A B c 0.00")
	checkDeal(t, ast.Deal{ID: "\n", Kind: 255, Payee: " ", Payer: "\t", Class: "", Amount: of("0.015")}, "take \n    \t  0.02")
	for _, x := range wrong() {
		checkDeal(t, ast.Deal{ID: "i", Kind: api.Service, Payee: "A", Payer: "B", Class: "c", Amount: x}, "take i service A B c 0.00")
	}
}

// TestAllKinds asks for all kinds, each with arguments of all sorts.
func TestAllKinds(t *testing.T) {
	args := append(wrong(), of("0"), of("1"), of("1/2"), of("-1/2"), of("3/2"), of("5/2"), of("1/3"), of("0.000001"), of("0.0000001"), of("2"), of("40"), of("-1e40"), of("1e-40"), of("12345678901234567890.125"))
	for kind := range 256 {
		for _, arg := range args {
			for _, name := range []string{"", "a", " ", strings.Repeat("n", 100)} {
				c := ast.Class{Name: name, Kind: uint8(kind), Arg: arg}
				checkClass(t, c, wantClass(c))
				d := ast.Deal{Give: kind%2 == 0, ID: name, Kind: uint8(kind), Payee: "p" + name, Payer: name + "q", Class: "c", Amount: arg}
				checkDeal(t, d, wantDeal(d))
			}
		}
	}
}

// TestLinesAreThePrintedOnes: a class, and a deal, by itself is its line in the text.
func TestLinesAreThePrintedOnes(t *testing.T) {
	m := maker{rand.New(rand.NewPCG(103, 104))}
	for range 300 {
		f := m.filing()
		s, e := print.Print(f)
		if e != api.OK {
			t.Fatal(e)
		}
		lines := []string{}
		for _, c := range f.Classes {
			lines = append(lines, print.Class(c))
		}
		for _, y := range f.Years {
			for _, d := range y.Deals {
				lines = append(lines, print.Deal(d))
			}
		}
		for l := range strings.Lines(s) {
			if w, _, _ := strings.Cut(l, " "); w != "class" && w != "give" && w != "take" {
				continue
			}
			if len(lines) == 0 || l != lines[0]+"\n" {
				t.Fatalf("%q is not the first of %q", l, lines)
			}
			lines = lines[1:]
		}
		if len(lines) > 0 {
			t.Fatalf("%q are not printed", lines)
		}
	}
}
