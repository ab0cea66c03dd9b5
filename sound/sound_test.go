package sound_test

import (
	"slices"
	"strconv"
	"strings"
	"testing"

	"tallage/api"
	"tallage/ast"
	"tallage/parse"
	"tallage/rat"
	"tallage/sound"
)

// text is of a filing that keeps all rules, with something of all that the rules ask.
const text = `filing F P
bracket 0.00 10%
bracket 100.00 20%
bracket 100.01 0%
threshold 75%
cap 60%
back 1
forward 5
interest 30% 0.00 5
class sales income
class cost expense
class gain exempt
class meals denied 50%
class gifts capped 0.00
class ads deferred 1
class wear depreciation
class got interest-in
class owed interest-out
class in dividend
class out distribution
entity P
entity A
entity B
entity C
year 2020
hold P A 80%
hold A B 50%
hold P B 50%
hold B C 33.3333%
book P sales 100.00
book A cost -5.00
give i goods P A sales 40.00
take i goods P A cost 40.00
give j service A B sales 0.01
take j service A B wear 0.01
take k interest B P owed 7.00
give k interest B P got 7.00
give l dividend P A in 3.00
take l dividend P A out 3.00
stock i 40.00 50%
year 2021
hold P A 100%
hold B C 66.6667%
hold A B 100%
hold P C 33.3333%
give m goods B C sales 5.00
take m goods B C ads 5.00
stock m 0.00 100%
sold i 60%
sold i 30%
year 2022
book C gain 0.00
sold m 100%
sold i 10%
`

func parsed(t *testing.T, s string) ast.Filing {
	t.Helper()
	f, at, e := parse.Parse(s)
	if at != 0 || e != api.OK {
		t.Fatalf("%q: at %d, error %d", s, at, e)
	}
	return f
}

func full(t *testing.T) ast.Filing { return parsed(t, text) }

// told are faults as a text: each one's rule, year and place.
func told(l []sound.Fault) string {
	words := []string{}
	for _, f := range l {
		words = append(words, strconv.Itoa(int(f.Rule))+","+strconv.Itoa(f.Year)+","+strconv.Itoa(f.At))
	}
	return strings.Join(words, " ")
}

// checkFaults asks a filing that is right for all faults, and for the first one.
func checkFaults(t *testing.T, f ast.Filing, want string, what ...any) {
	t.Helper()
	l, e := sound.All(f)
	if told(l) != want || e != api.OK {
		t.Fatalf("All, %v: %q, error %d; want %q", what, told(l), e, want)
	}
	first, err := sound.Check(f)
	if want == "" {
		if first != (sound.Fault{}) || err != api.OK {
			t.Fatalf("Check, %v: %v, error %d; want nothing", what, first, err)
		}
	} else if first != l[0] || err != api.ErrForm {
		t.Fatalf("Check, %v: %v, error %d; want %v", what, first, err, l[0])
	}
}

// edited is a text with some of its parts replaced (each one and its other in turn), every one of which must stand there once.
func edited(t *testing.T, s string, edits ...string) string {
	t.Helper()
	for i := 0; i+1 < len(edits); i += 2 {
		if strings.Count(s, edits[i]) != 1 {
			t.Fatalf("%q stands %d times in %q", edits[i], strings.Count(s, edits[i]), s)
		}
		s = strings.Replace(s, edits[i], edits[i+1], 1)
	}
	return s
}

// The chapter's own examples.

func TestExamples(t *testing.T) {
	share := of("3/4")
	f := ast.Filing{
		Name: "F", Parent: "P", Brackets: []ast.Bracket{{From: of("0"), Rate: share}},
		Threshold: share, Cap: share, Interest: share, Floor: of("0"), Entities: []string{"P"}, Years: []ast.Year{{Number: 2020}},
	}
	checkFaults(t, f, "", "a short filing")
	f.Parent = "Q"
	checkFaults(t, f, "5,-1,0", "another parent")
	f.Parent = "P"
	f.Years[0].Holds = []ast.Hold{{Owner: "P", Owned: "P", Share: share}}
	checkFaults(t, f, "7,0,0 9,0,0", "a hold of P by P")
	f.Years[0].Holds = nil
	f.Classes = []ast.Class{{Name: "s", Kind: api.Income, Arg: of("0")}, {Name: "c", Kind: api.Expense, Arg: of("0")}}
	f.Entities = []string{"P", "A"}
	f.Years[0].Deals = []ast.Deal{
		{Give: true, ID: "i", Kind: api.Goods, Payee: "A", Payer: "P", Class: "s", Amount: of("40")},
		{ID: "i", Kind: api.Goods, Payee: "A", Payer: "P", Class: "c", Amount: of("39")},
	}
	checkFaults(t, f, "12,0,0 12,0,1", "a take of 39 to a give of 40")
	f.Years[0].Deals[1].Amount = of("40")
	checkFaults(t, f, "", "a take of 40 to a give of 40")
}

// P11.1, P11.2

// breaks are edits of the text, and the faults that they make.
type breaks struct {
	faults string
	edits  []string
}

// oneByOne has for each rule what breaks each part of it, and what just keeps it.
func oneByOne() []breaks {
	return slices.Concat(ofTheLaw(), ofHolds(), ofDeals(), ofStocks())
}

func ofTheLaw() []breaks {
	return []breaks{
		{"", nil},
		{"1,-1,0", []string{"bracket 0.00 10%\nbracket 100.00 20%\nbracket 100.01 0%\n", ""}},
		{"1,-1,0", []string{"bracket 0.00", "bracket 0.01"}},
		{"1,-1,0", []string{"bracket 0.00", "bracket -0.01"}},
		{"1,-1,0 1,-1,1", []string{"bracket 0.00", "bracket 100.00"}},
		{"1,-1,1", []string{"bracket 100.00", "bracket 0.00"}},
		{"1,-1,1", []string{"bracket 100.00", "bracket -5.00"}},
		{"1,-1,2", []string{"bracket 100.01", "bracket 100.00"}},
		{"1,-1,2", []string{"bracket 100.01", "bracket 99.99"}},
		{"1,-1,2", []string{"bracket 100.00", "bracket 200.00"}},
		{"", []string{"bracket 100.00 20%\nbracket 100.01 0%\n", ""}},
		{"2,-1,0", []string{"threshold 75%", "threshold 0%"}},
		{"", []string{"threshold 75%", "threshold 0.0001%"}},
		{"", []string{"threshold 75%", "threshold 100%"}},
		{"2,-1,0", []string{"30% 0.00", "30% -0.01"}},
		{"2,-1,0", []string{"threshold 75%", "threshold 0%", "30% 0.00", "30% -9999.00"}},
		{"", []string{"30% 0.00", "0% 0.01"}},
		{"", []string{"cap 60%", "cap 0%", "interest 30%", "interest 0%"}},
		{"3,-1,11", []string{"class out distribution\n", "class out distribution\nclass cost income\n"}},
		{"3,-1,11 3,-1,12", []string{"class out distribution\n", "class out distribution\nclass in income\nclass out distribution\n"}},
		{"3,-1,5", []string{"ads deferred 1", "ads deferred 0"}},
		{"", []string{"ads deferred 1", "ads deferred 40"}},
		{"3,-1,4", []string{"gifts capped 0.00", "gifts capped -0.01"}},
		{"", []string{"meals denied 50%", "meals denied 0%"}},
		{"", []string{"class gain exempt", "class Sales exempt", "C gain", "C Sales"}},
		{"10,2,0", []string{"class gain exempt", "class Gain exempt"}},
		{"4,-1,4", []string{"entity C\n", "entity C\nentity P\n"}},
		{"4,-1,4 4,-1,5", []string{"entity C\n", "entity C\nentity A\nentity A\n"}},
		{"4,-1,3", []string{"entity B\n", "entity B\nentity B\n"}},
		{"", []string{"entity C\n", "entity C\nentity p\n"}},
		{"5,-1,0", []string{"filing F P", "filing F Q"}},
		{"5,-1,0", []string{"filing F P", "filing F p"}},
		{"5,-1,0", []string{"filing F P", "filing F F"}},
		{"", []string{"filing F P", "filing P P"}},
		{"6,-1,1", []string{"year 2020", "year 2019"}},
		{"6,-1,1", []string{"year 2020", "year 2021"}},
		{"6,-1,1 6,-1,2", []string{"year 2021", "year 2023"}},
		{"6,-1,1 6,-1,2", []string{"year 2021", "year 2020"}},
		{"6,-1,2", []string{"year 2022", "year 2021"}},
		{"6,-1,2", []string{"year 2022", "year 2023"}},
		{"6,-1,2", []string{"year 2022", "year 2020"}},
		{"6,-1,1 6,-1,2", []string{"year 2020", "year 2022", "year 2022\nbook", "year 2020\nbook"}},
		{"", []string{"year 2020", "year 9997", "year 2021", "year 9998", "year 2022", "year 9999"}},
		{"", []string{"year 2020", "year 1", "year 2021", "year 2", "year 2022", "year 3"}},
		{"6,-1,0", []string{text[strings.Index(text, "year 2020"):], ""}},
	}
}

func ofHolds() []breaks {
	return []breaks{
		{"7,0,0", []string{"hold P A 80%", "hold P A 0%"}},
		{"", []string{"hold P A 80%", "hold P A 0.0001%"}},
		{"7,0,3", []string{"hold B C 33.3333%", "hold Q C 1%"}},
		{"7,0,3", []string{"hold B C 33.3333%", "hold b C 1%"}},
		{"7,0,3", []string{"hold B C 33.3333%", "hold B Q 100%"}},
		{"7,0,3 9,0,3", []string{"hold B C 33.3333%", "hold C C 1%"}},
		{"7,0,3", []string{"hold B C 33.3333%", "hold C P 1%"}},
		{"7,0,3 9,0,3", []string{"hold B C 33.3333%", "hold B P 1%"}},
		{"7,0,4", []string{"hold B C 33.3333%", "hold B C 33.3333%\nhold B C 1%"}},
		{"7,0,4 7,0,5", []string{"hold B C 33.3333%", "hold B C 33.3333%\nhold B C 1%\nhold B C 2%"}},
		{"7,0,1 7,0,2 8,0,2", []string{"hold A B 50%", "hold P A 20%", "hold P B 50%", "hold P A 1%", "give j service A B", "give j service A C", "take j service A B", "take j service A C"}},
		{"7,1,1", []string{"hold B C 66.6667%", "hold B C 0%"}},
		{"8,0,2", []string{"hold P B 50%", "hold P B 50.0001%"}},
		{"8,0,2 8,0,3", []string{"hold A B 50%", "hold A B 100%\nhold C B 0.0001%", "hold B C 33.3333%\n", ""}},
		{"8,1,3", []string{"hold P C 33.3333%", "hold P C 33.3334%"}},
		{"7,1,4 8,1,3 8,1,4", []string{"hold P C 33.3333%", "hold P C 33.3334%\nhold A C 0%"}},
		{"", []string{"hold P C 33.3333%", "hold P C 33.3332%\nhold A C 0.0001%"}},
		{"9,0,4", []string{"hold B C 33.3333%", "hold B C 33.3333%\nhold C A 1%"}},
		{"9,0,4", []string{"hold B C 33.3333%", "hold B C 33.3333%\nhold B A 1%"}},
		{"9,0,3 9,0,4", []string{"hold P A 80%", "hold C A 20%", "hold B C 33.3333%", "hold B C 33.3333%\nhold B A 1%"}},
		{"9,0,3", []string{"hold P A 80%", "hold C A 20%"}},
		{"9,1,2", []string{"hold P A 100%", "hold C A 100%"}},
		{"", []string{"hold P A 100%", "hold C A 100%", "hold B C 66.6667%\n", ""}},
		{"7,0,3 9,0,4", []string{"hold B C 33.3333%", "hold B C 0%\nhold C A 1%"}},
		{"7,0,3 7,0,4 9,0,4", []string{"hold B C 33.3333%", "hold B x 10%\nhold x A 10%"}},
		{"7,0,4 7,0,5 9,0,5", []string{"hold B C 33.3333%", "hold B C 33.3333%\nhold x y 10%\nhold y x 10%"}},
	}
}

func ofDeals() []breaks {
	twice := func(from, to string) []string {
		return []string{"give " + from, "give " + to, "take " + from, "take " + to}
	}
	return []breaks{
		{"10,0,0", []string{"book P sales", "book Q sales"}},
		{"10,0,1", []string{"book A cost", "book A costs"}},
		{"10,0,0 10,2,0", []string{"book P sales", "book Q none", "book C gain", "book C none"}},
		{"", []string{"book A cost -5.00", "book A cost -5.00\nbook A cost -5.00\nbook A in 0.00"}},
		{"11,0,2 11,0,3", []string{"A B sales 0.01", "A B sales 0.00", "A B wear 0.01", "A B wear 0.00"}},
		{"11,0,2 11,0,3", []string{"A B sales 0.01", "A B sales -0.01", "A B wear 0.01", "A B wear -0.01"}},
		{"11,0,2 11,0,3", twice("j service A B", "j service Q B")},
		{"11,0,2 11,0,3", twice("j service A B", "j service A Q")},
		{"11,0,2 11,0,3", twice("j service A B", "j service A A")},
		{"", twice("j service A B", "j service B A")},
		{"", twice("j service A B", "j goods A B")},
		{"11,0,2", []string{"A B sales 0.01", "A B none 0.01"}},
		{"11,0,2", []string{"A B sales 0.01", "A B gain 0.01"}},
		{"11,0,3", []string{"A B wear 0.01", "A B sales 0.01"}},
		{"11,0,3", []string{"A B wear 0.01", "A B gain 0.01"}},
		{"", []string{"A B wear 0.01", "A B meals 0.01"}},
		{"", []string{"A B wear 0.01", "A B gifts 0.01"}},
		{"", []string{"A B wear 0.01", "A B ads 0.01"}},
		{"", []string{"A B wear 0.01", "A B cost 0.01"}},
		{"11,0,4", []string{"B P owed 7.00", "B P got 7.00"}},
		{"11,0,5", []string{"B P got 7.00", "B P in 7.00"}},
		{"11,0,6", []string{"P A in 3.00", "P A got 3.00"}},
		{"11,0,7", []string{"P A out 3.00", "P A owed 3.00"}},
		// The kind is that of the first class of the name, be the other one's what it may.
		{"3,-1,11", []string{"class out distribution", "class out distribution\nclass cost exempt"}},
		{"3,-1,2 11,0,1", []string{"class cost expense", "class cost exempt\nclass cost expense"}},
		{"12,0,0 12,0,1", []string{"P A sales 40.00", "P A sales 40.01"}},
		{"12,0,0 12,0,1 13,0,0", []string{"P A sales 40.00", "P A sales 39.00", "P A cost 40.00", "P A cost 39.99"}},
		{"12,0,0 12,0,1", []string{"give i goods P A", "give i goods P B"}},
		{"12,0,0 12,0,1", []string{"take i goods P A", "take i goods B A"}},
		{"12,0,0 12,0,1", []string{"take i goods P A", "take i service P A"}},
		{"12,0,0 12,0,1", []string{"take i goods P A cost", "give i goods P A sales"}},
		{"12,0,0 12,0,1", []string{"give i goods P A sales", "take i goods P A cost"}},
		{"12,0,0 12,0,1", []string{"give i goods P A", "give n goods P A"}},
		{"12,0,0 12,0,1", []string{"give i goods P A", "give I goods P A"}},
		{"12,0,2", []string{"give j service A B sales 0.01\n", ""}},
		{"12,0,0 12,0,1 12,0,8", []string{"out 3.00\n", "out 3.00\ntake i goods P A cost 40.00\n"}},
		{"12,0,0 12,0,1 12,0,8 12,0,9", []string{"out 3.00\n", "out 3.00\ntake i goods P A cost 40.00\ngive i goods P A sales 40.00\n"}},
		{"12,1,2 12,1,3", []string{"C ads 5.00\n", "C ads 5.00\ngive i goods P A sales 40.00\ntake i goods P A cost 40.00\n"}},
		{"12,1,2", []string{"C ads 5.00\n", "C ads 5.00\ngive l dividend P A in 3.00\n"}},
		{"12,2,0 12,2,1", []string{"gain 0.00\n", "gain 0.00\ngive i goods P A sales 1.00\ntake i goods P A cost 1.00\n"}},
	}
}

func ofStocks() []breaks {
	return []breaks{
		{"13,0,1", []string{"stock i 40.00 50%", "stock i 40.00 50%\nstock i 0.00 0%"}},
		{"13,0,1 13,0,2", []string{"stock i 40.00 50%", "stock i 40.00 50%\nstock i 40.00 50%\nstock i 40.00 50%"}},
		{"13,0,0", []string{"stock i 40.00", "stock i 40.01"}},
		{"13,0,0", []string{"stock i 40.00", "stock i -0.01"}},
		{"", []string{"stock i 40.00 50%", "stock i 0.00 0%"}},
		{"13,0,1", []string{"stock i 40.00 50%", "stock i 40.00 50%\nstock n 0.00 0%"}},
		{"13,0,1", []string{"stock i 40.00 50%", "stock i 40.00 50%\nstock j 0.00 0%"}},
		{"13,0,1", []string{"stock i 40.00 50%", "stock i 40.00 50%\nstock k 0.00 0%"}},
		{"13,0,1", []string{"stock i 40.00 50%", "stock i 40.00 50%\nstock l 0.00 0%"}},
		{"13,0,1", []string{"stock i 40.00 50%", "stock i 40.00 50%\nstock m 0.00 0%"}},
		{"13,1,1", []string{"stock m 0.00 100%", "stock m 0.00 100%\nstock i 0.00 0%"}},
		// One of both sides' amounts is enough for the margin.
		{"12,0,0 12,0,1", []string{"P A cost 40.00", "P A cost 39.00"}},
		{"12,0,0 12,0,1", []string{"give i goods P A sales 40.00", "give i goods P A sales 0.01"}},
		// But one that is no goods is not.
		{"11,0,0 12,0,0 12,0,1 13,0,0", []string{"give i goods P A sales 40.00", "give i interest P A sales 40.00", "P A cost 40.00", "P A cost 39.00"}},
		{"14,1,1", []string{"sold i 30%", "sold n 30%"}},
		{"14,1,1", []string{"sold i 30%", "sold m 30%", "sold m 100%", "sold m 70%"}},
		{"14,1,1", []string{"sold i 30%", "sold j 30%"}},
		{"14,2,0", []string{"stock m 0.00 100%\n", ""}},
		{"14,0,0", []string{"stock i 40.00 50%", "stock i 40.00 50%\nsold i 0%"}},
		{"14,0,0 14,2,1", []string{"stock i 40.00 50%", "stock i 40.00 50%\nsold i 1%"}},
		{"14,2,1", []string{"sold i 10%", "sold i 10.0001%"}},
		{"14,2,1 14,2,2", []string{"sold i 10%", "sold i 20%\nsold i 0%"}},
		{"", []string{"sold i 10%", "sold i 9.9999%\nsold i 0.0001%\nsold i 0%"}},
		{"14,1,1 14,2,1", []string{"sold i 30%", "sold i 40.0001%"}},
		{"14,1,1 14,2,0", []string{"sold i 30%", "sold m 1%", "sold m 100%", "sold m 99.0001%"}},
		{"", []string{"sold i 60%\n", "", "sold i 10%", "sold i 70%"}},
	}
}

func TestOneByOne(t *testing.T) {
	for _, b := range oneByOne() {
		f := parsed(t, edited(t, text, b.edits...))
		if want := told(wantAll(f)); want != b.faults {
			t.Fatalf("%q: the oracle tells %q, not %q", b.edits, want, b.faults)
		}
		checkFaults(t, f, b.faults, b.edits)
	}
}

// TestInOrder breaks several rules in several years at once.
func TestInOrder(t *testing.T) {
	s := edited(t, text,
		"bracket 0.00", "bracket 1.00", "bracket 100.01", "bracket 50.00", "threshold 75%", "threshold 0%",
		"class cost expense", "class sales expense", "class ads deferred 1", "class ads deferred 0",
		"entity C\n", "entity A\nentity A\n", "filing F P", "filing F C", "year 2020", "year 2000", "year 2022", "year 2000",
		"hold P A 80%", "hold P B 60%", "hold P A 100%", "hold A A 100%", "book A cost", "book A sales", "sold i 60%", "sold i 90%", "sold m 100%", "sold j 100%")
	checkFaults(t, parsed(t, s), "1,-1,0 1,-1,2 2,-1,0 3,-1,1 3,-1,5 4,-1,3 4,-1,4 5,-1,0 6,-1,1 6,-1,2 "+
		"7,0,2 7,0,3 7,1,0 7,1,1 7,1,3 8,0,1 8,0,2 9,1,0 10,2,0 11,0,1 11,1,0 11,1,1 14,1,1 14,2,0 14,2,1", "many")
}

// TestFirst takes the faults away by the rules, the first one first: of what is left the first one is told.
func TestFirst(t *testing.T) {
	edits := []string{
		"bracket 0.00", "bracket 1.00", "30% 0.00", "30% -1.00", "gifts capped 0.00", "gifts capped -1.00", "entity C\n", "entity C\nentity C\n",
		"filing F P", "filing F Q", "year 2022", "year 2023", "hold P A 80%", "hold P A 0%", "hold P B 50%", "hold P B 51%", "hold P A 100%", "hold C A 100%",
		"book C gain", "book C none", "P A in 3.00", "P A got 3.00", "take k interest B P owed 7.00", "take k interest B P owed 8.00",
		"stock i 40.00", "stock i 41.00", "sold i 10%", "sold i 11%",
	}
	firsts := strings.Fields("1,-1,0 2,-1,0 3,-1,4 4,-1,4 5,-1,0 6,-1,2 7,0,0 8,0,2 9,1,2 10,2,0 11,0,6 12,0,4 13,0,0 14,2,1")
	for i, want := range firsts {
		f := parsed(t, edited(t, text, edits[2*i:]...))
		first, e := sound.Check(f)
		if told([]sound.Fault{first}) != want || e != api.ErrForm {
			t.Fatalf("rules from %d on: %v, error %d; want %s", i+1, first, e, want)
		}
		checkFaults(t, f, told(wantAll(f)), "rules from", i+1)
	}
}

// TestLimitsFirst: what breaks a limit has ast.Right's error and place, whatever rules it breaks.
func TestLimitsFirst(t *testing.T) {
	for i, do := range []func(f *ast.Filing){
		func(f *ast.Filing) { f.Name = "" }, func(f *ast.Filing) { f.Parent = "1" }, func(f *ast.Filing) { f.Brackets[1].From = of("1/3") },
		func(f *ast.Filing) { f.Threshold = rat.Rat{} }, func(f *ast.Filing) { f.Back = 4 }, func(f *ast.Filing) { f.Keep = 41 }, func(f *ast.Filing) { f.Floor = of("1e30") },
		func(f *ast.Filing) { f.Classes[1].Kind = 12 }, func(f *ast.Filing) { f.Classes[0].Arg = rat.Rat{} }, func(f *ast.Filing) { f.Classes[5].Arg = of("1/2") },
		func(f *ast.Filing) { f.Entities[2] = "a b" }, func(f *ast.Filing) { f.Years[2].Number = 0 }, func(f *ast.Filing) { f.Years[1].Holds[2].Share = of("2") },
		func(f *ast.Filing) { f.Years[0].Books[1].Amount = of("0.001") }, func(f *ast.Filing) { f.Years[0].Deals[4].Kind = 0 },
		func(f *ast.Filing) { f.Years[1].Stocks[0].Unsold = of("1e-7") }, func(f *ast.Filing) { f.Years[2].Solds[1].ID = "#" },
		func(f *ast.Filing) { f.Brackets = many(f.Brackets, 17) }, func(f *ast.Filing) { f.Classes = many(f.Classes, 65) },
		func(f *ast.Filing) { f.Entities = many(f.Entities, 257) }, func(f *ast.Filing) { f.Years = many(f.Years, 41) },
		func(f *ast.Filing) { f.Years[1].Holds = many(f.Years[1].Holds, 4097) }, func(f *ast.Filing) { f.Years[0].Deals = many(f.Years[0].Deals, 4097) },
		func(f *ast.Filing) { *f = ast.Filing{} }, func(f *ast.Filing) { *f = ast.Filing{Name: "a", Parent: "b"} },
	} {
		for _, edits := range [][]string{nil, {"threshold 75%", "threshold 0%", "sold i 10%", "sold i 11%"}} {
			f := parsed(t, edited(t, text, edits...))
			do(&f)
			p, want := ast.Right(f)
			if want == api.OK {
				t.Fatalf("breach %d breaks nothing", i)
			}
			if got, e := sound.Check(f); got != (sound.Fault{Year: p.Year, At: p.At}) || e != want {
				t.Fatalf("breach %d: %v, error %d; want %v, error %d", i, got, e, p, want)
			}
			if l, e := sound.All(f); len(l) > 0 || e != want {
				t.Fatalf("breach %d: %v, error %d; want error %d", i, l, e, want)
			}
		}
	}
}

// many is a row of so many, the first ones over again.
func many[T any](l []T, n int) []T {
	all := []T{}
	for i := range n {
		all = append(all, l[i%len(l)])
	}
	return all
}

// TestLimitsPlaces writes out what is told of some that break a limit.
func TestLimitsPlaces(t *testing.T) {
	f := full(t)
	f.Parent = ""
	if got, e := sound.Check(f); got != (sound.Fault{Year: -1, At: 1}) || e != api.ErrArg {
		t.Errorf("no parent: %v, error %d", got, e)
	}
	f = full(t)
	f.Years[1].Deals[1].Amount = rat.Rat{}
	if got, e := sound.Check(f); got != (sound.Fault{Year: 1, At: 1}) || e != api.ErrArg {
		t.Errorf("no amount: %v, error %d", got, e)
	}
	f.Years[0].Solds = many(f.Years[2].Solds, 4097)
	if got, e := sound.Check(f); got != (sound.Fault{Year: 0, At: 4096}) || e != api.ErrLimit {
		t.Errorf("too many: %v, error %d", got, e)
	}
	if got, e := sound.Check(ast.Filing{}); got != (sound.Fault{Year: -1}) || e != api.ErrArg {
		t.Errorf("the zero value: %v, error %d", got, e)
	}
}

// P11.3

func TestFits(t *testing.T) {
	fits := 0
	for kind := range 256 {
		for class := range 256 {
			for _, give := range []bool{true, false} {
				want := wantFits(uint8(kind), give, uint8(class))
				if sound.Fits(uint8(kind), give, uint8(class)) != want {
					t.Fatalf("a class of the kind %d, a deal of the kind %d, give %v: not %v", class, kind, give, want)
				}
				if want {
					fits++
				}
			}
		}
	}
	if fits != 16 {
		t.Fatal(fits)
	}
	if !sound.Fits(api.Service, false, api.Capped) || sound.Fits(api.Goods, false, api.Exempt) || sound.Fits(api.Loan, true, api.InterestOut) || sound.Fits(0, true, 0) {
		t.Error("Fits")
	}
}
