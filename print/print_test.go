package print_test

import (
	"math/rand/v2"
	"strings"
	"testing"

	"tallage/api"
	"tallage/ast"
	"tallage/print"
	"tallage/rat"
)

// all is a filing's text, of each sort of line some.
const all = `filing F-1 P
bracket 0.00 25%
bracket 500.50 0%
bracket -999999999999999999999999999999.99 100%
threshold 75%
cap 62.5%
back 3
forward 40
interest 30.1234% -0.05 0
class sales income
class cost expense
class gain exempt
class meals denied 50%
class gifts capped 4.10
class ads deferred 3
class wear depreciation
class got interest-in
class owed interest-out
class in dividend
class out distribution
entity P
entity A
entity b_-9
year 1
year 2020
hold P A 50%
hold Q b_-9 0.0001%
hold P P 0%
book P sales 1.00
book A none -7.50
give i goods P A sales 40.00
take i goods P A cost 40.00
take j interest A A x -1.00
give k service P P y 0.00
give l dividend a b c 0.10
stock i 10.00 50%
stock none -1.00 0%
sold i 100%
sold i 0.5%
year 9999
take z goods p q r 0.00
sold z 100%
year 9999
`

// full is the filing of that text.
func full() ast.Filing {
	arg := func(name string, kind uint8, arg string) ast.Class {
		return ast.Class{Name: name, Kind: kind, Arg: of(arg)}
	}
	return ast.Filing{
		Name: "F-1", Parent: "P",
		Brackets:  []ast.Bracket{{From: of("0"), Rate: of("1/4")}, {From: of("1001/2"), Rate: of("0")}, {From: of("-999999999999999999999999999999.99"), Rate: of("1")}},
		Threshold: of("3/4"), Cap: of("5/8"), Back: 3, Forward: 40, Interest: of("0.301234"), Floor: of("-1/20"),
		Classes: []ast.Class{
			arg("sales", 1, "0"), arg("cost", 2, "0"), arg("gain", 3, "0"), arg("meals", 4, "1/2"), arg("gifts", 5, "41/10"), arg("ads", 6, "3"), arg("wear", 7, "0"),
			arg("got", 8, "0"), arg("owed", 9, "0"), arg("in", 10, "0"), arg("out", 11, "0"),
		},
		Entities: []string{"P", "A", "b_-9"},
		Years: []ast.Year{{Number: 1}, {
			Number: 2020,
			Holds:  []ast.Hold{{Owner: "P", Owned: "A", Share: of("1/2")}, {Owner: "Q", Owned: "b_-9", Share: of("1e-6")}, {Owner: "P", Owned: "P", Share: of("0")}},
			Books:  []ast.Book{{Entity: "P", Class: "sales", Amount: of("1")}, {Entity: "A", Class: "none", Amount: of("-15/2")}},
			Deals: []ast.Deal{
				{Give: true, ID: "i", Kind: 1, Payee: "P", Payer: "A", Class: "sales", Amount: of("40")},
				{ID: "i", Kind: 1, Payee: "P", Payer: "A", Class: "cost", Amount: of("40")},
				{ID: "j", Kind: 3, Payee: "A", Payer: "A", Class: "x", Amount: of("-1")},
				{Give: true, ID: "k", Kind: 2, Payee: "P", Payer: "P", Class: "y", Amount: of("0")},
				{Give: true, ID: "l", Kind: 4, Payee: "a", Payer: "b", Class: "c", Amount: of("1/10")},
			},
			Stocks: []ast.Stock{{ID: "i", Margin: of("10"), Unsold: of("1/2")}, {ID: "none", Margin: of("-1"), Unsold: of("0")}},
			Solds:  []ast.Sold{{ID: "i", Share: of("1")}, {ID: "i", Share: of("1/200")}},
		}, {
			Number: 9999,
			Deals:  []ast.Deal{{ID: "z", Kind: 1, Payee: "p", Payer: "q", Class: "r", Amount: of("0")}},
			Solds:  []ast.Sold{{ID: "z", Share: of("1")}},
		}, {Number: 9999}},
	}
}

// short is a filing without rows.
func short() ast.Filing {
	return ast.Filing{Name: "F", Parent: "P", Threshold: of("3/4"), Cap: of("3/5"), Back: 1, Forward: 5, Interest: of("3/10"), Floor: of("0"), Keep: 5}
}

const shortText = "filing F P\nthreshold 75%\ncap 60%\nback 1\nforward 5\ninterest 30% 0.00 5\n"

// checkPrint asks for a filing's text, or its error.
func checkPrint(t *testing.T, f ast.Filing, want string, e api.Errno) {
	t.Helper()
	if got, err := print.Print(f); got != want || err != e {
		t.Fatalf("error %d, %q; want error %d, %q", err, got, e, want)
	}
}

// The chapter's own examples.

func TestExamples(t *testing.T) {
	for want, c := range map[string]ast.Class{
		"class meals denied 50%": {Name: "meals", Kind: api.Denied, Arg: of("1/2")},
		"class sales income":     {Name: "sales", Kind: api.Income},
	} {
		if got := print.Class(c); got != want {
			t.Errorf("%q, not %q", got, want)
		}
	}
	d := ast.Deal{ID: "i", Kind: api.Goods, Payee: "A", Payer: "B", Class: "cost", Amount: rat.Whole(12)}
	if got := print.Deal(d); got != "take i goods A B cost 12.00" {
		t.Errorf("%q", got)
	}
	f := full()
	f.Name = ""
	checkPrint(t, f, "", api.ErrArg)
	checkPrint(t, ast.Filing{}, "", api.ErrArg)
}

// P10.1

func TestPrint(t *testing.T) {
	checkPrint(t, full(), all, api.OK)
	checkPrint(t, short(), shortText, api.OK)
	f := short()
	f.Brackets, f.Classes, f.Entities, f.Years = []ast.Bracket{}, []ast.Class{}, []string{}, []ast.Year{}
	checkPrint(t, f, shortText, api.OK)
	f.Years = []ast.Year{{Number: 7, Holds: []ast.Hold{}, Books: []ast.Book{}, Deals: []ast.Deal{}, Stocks: []ast.Stock{}, Solds: []ast.Sold{}}}
	checkPrint(t, f, shortText+"year 7\n", api.OK)
	if want := wantPrinted(full()); want != all {
		t.Fatalf("the oracle tells %q", want)
	}
}

// TestEachPart lets a filing without rows have one of each sort.
func TestEachPart(t *testing.T) {
	const behindFiling = "threshold 75%\ncap 60%\nback 1\nforward 5\ninterest 30% 0.00 5\n"
	f := short()
	f.Brackets = []ast.Bracket{{From: of("-1.5"), Rate: of("0.125")}}
	checkPrint(t, f, "filing F P\nbracket -1.50 12.5%\n"+behindFiling, api.OK)
	for line, y := range map[string]ast.Year{
		"hold a b 33.3333%":      {Holds: []ast.Hold{{Owner: "a", Owned: "b", Share: of("0.333333")}}},
		"book a b 0.01":          {Books: []ast.Book{{Entity: "a", Class: "b", Amount: of("0.01")}}},
		"give a service b c d 9": {Deals: []ast.Deal{{Give: true, ID: "a", Kind: 2, Payee: "b", Payer: "c", Class: "d", Amount: of("9")}}},
		"take a service b c d 9": {Deals: []ast.Deal{{ID: "a", Kind: 2, Payee: "b", Payer: "c", Class: "d", Amount: of("9")}}},
		"stock a -0.50 100%":     {Stocks: []ast.Stock{{ID: "a", Margin: of("-0.5"), Unsold: of("1")}}},
		"sold a 10%":             {Solds: []ast.Sold{{ID: "a", Share: of("0.1")}}},
	} {
		if strings.HasSuffix(line, " 9") {
			line += ".00"
		}
		y.Number = 40
		f := short()
		f.Years = []ast.Year{y}
		checkPrint(t, f, shortText+"year 40\n"+line+"\n", api.OK)
	}
	f = short()
	f.Classes, f.Entities = []ast.Class{{Name: "a", Kind: 11, Arg: of("0")}}, []string{"z"}
	checkPrint(t, f, shortText+"class a distribution\nentity z\n", api.OK)
	f.Back, f.Forward, f.Keep = 0, 0, 40
	checkPrint(t, f, strings.NewReplacer("back 1", "back 0", "forward 5", "forward 0", "0.00 5", "0.00 40").Replace(shortText)+"class a distribution\nentity z\n", api.OK)
}

// TestWrongArguments: what is not right is no argument, whether or not the class's line has one.
func TestWrongArguments(t *testing.T) {
	for i := range full().Classes {
		for _, x := range wrong() {
			f := full()
			f.Classes[i].Arg = x
			if p, e := ast.Right(f); p != (ast.Place{Part: 4, Year: -1, At: i}) || e != api.ErrArg {
				t.Fatalf("class %d, argument %v: %v, error %d", i, x, p, e)
			}
			checkPrint(t, f, "", api.ErrArg)
		}
	}
}

// TestErrors: what is not right has no text, but ast.Right's error.
func TestErrors(t *testing.T) {
	for i, do := range []func(f *ast.Filing){
		func(f *ast.Filing) { f.Parent = "1" }, func(f *ast.Filing) { f.Brackets[1].From = of("1/3") }, func(f *ast.Filing) { f.Brackets[2].Rate = of("2") },
		func(f *ast.Filing) { f.Threshold = rat.Rat{} }, func(f *ast.Filing) { f.Cap = of("-1") }, func(f *ast.Filing) { f.Interest = of("1/3") },
		func(f *ast.Filing) { f.Back = 4 }, func(f *ast.Filing) { f.Forward = -1 }, func(f *ast.Filing) { f.Keep = 41 }, func(f *ast.Filing) { f.Floor = of("1e30") },
		func(f *ast.Filing) { f.Classes[0].Name = "" }, func(f *ast.Filing) { f.Classes[1].Kind = 12 }, func(f *ast.Filing) { f.Classes[0].Arg = of("1") },
		func(f *ast.Filing) { f.Classes[5].Arg = of("7/2") }, func(f *ast.Filing) { f.Entities[2] = "a b" }, func(f *ast.Filing) { f.Years[3].Number = 0 },
		func(f *ast.Filing) { f.Years[1].Holds[0].Owner = "a\nb" }, func(f *ast.Filing) { f.Years[1].Books[0].Amount = of("0.001") },
		func(f *ast.Filing) { f.Years[1].Deals[4].Kind = 0 }, func(f *ast.Filing) { f.Years[1].Stocks[1].Unsold = of("1e-7") }, func(f *ast.Filing) { f.Years[2].Solds[0].ID = "#" },
	} {
		f := full()
		do(&f)
		if _, e := ast.Right(f); e != api.ErrArg {
			t.Fatalf("breach %d: error %d", i, e)
		}
		checkPrint(t, f, "", api.ErrArg)
	}
}

// TestTooMany lets each row have as many as there may be, and one more.
func TestTooMany(t *testing.T) {
	for i, do := range []func(f *ast.Filing, more int){
		func(f *ast.Filing, more int) { f.Brackets = many(f.Brackets, 16+more) },
		func(f *ast.Filing, more int) { f.Classes = many(f.Classes, 64+more) },
		func(f *ast.Filing, more int) { f.Entities = many(f.Entities, 256+more) },
		func(f *ast.Filing, more int) { f.Years = many(f.Years[:1], 40+more) },
		func(f *ast.Filing, more int) { f.Years[1].Holds = many(f.Years[1].Holds, 4096+more) },
		func(f *ast.Filing, more int) { f.Years[1].Books = many(f.Years[1].Books, 4096+more) },
		func(f *ast.Filing, more int) { f.Years[1].Deals = many(f.Years[1].Deals, 4096+more) },
		func(f *ast.Filing, more int) { f.Years[1].Stocks = many(f.Years[1].Stocks, 4096+more) },
		func(f *ast.Filing, more int) { f.Years[1].Solds = many(f.Years[1].Solds, 4096+more) },
	} {
		f := full()
		do(&f, 0)
		checkPrint(t, f, wantPrinted(f), api.OK)
		g := full()
		do(&g, 1)
		if _, e := ast.Right(g); e != api.ErrLimit {
			t.Fatalf("row %d: error %d", i, e)
		}
		checkPrint(t, g, "", api.ErrLimit)
	}
}

// many is a row of so many, the first ones over again.
func many[T any](l []T, n int) []T {
	all := []T{}
	for i := range n {
		all = append(all, l[i%len(l)])
	}
	return all
}

// TestLongTexts: a text may be longer than one that can be read.
func TestLongTexts(t *testing.T) {
	f := full()
	long := f.Years[1]
	long.Books, long.Deals = many(long.Books, 4096), many(long.Deals, 4096)
	f.Years = []ast.Year{long, long, long}
	want := wantPrinted(f)
	if len(want) < 4*api.MaxBytes {
		t.Fatal(len(want))
	}
	checkPrint(t, f, want, api.OK)
}

func TestManyFilings(t *testing.T) {
	m := maker{rand.New(rand.NewPCG(101, 102))}
	for range 1500 {
		f := m.filing()
		checkPrint(t, f, wantPrinted(f), api.OK)
	}
}
