package parse_test

import (
	"math/rand/v2"
	"slices"
	"strings"
	"testing"

	"tallage/api"
	"tallage/ast"
	"tallage/parse"
)

// law is the lines that each filing has once, without brackets.
var law = []string{"filing F P", "threshold 75%", "cap 60%", "back 1", "forward 5", "interest 30% 0.00 5"}

// all is a filing's lines, of each sort some.
var all = []string{
	"filing F-1 P",
	"bracket 0 25%", "bracket 500.50 0%", "bracket -999999999999999999999999999999.99 100%",
	"threshold 75%", "cap 62.5%", "back 3", "forward 40", "interest 30.1234% -0.05 0",
	"class sales income", "class cost expense", "class gain exempt", "class meals denied 50%", "class gifts capped 4.1", "class ads deferred 3", "class wear depreciation",
	"class got interest-in", "class owed interest-out", "class in dividend", "class out distribution",
	"entity P", "entity A", "entity b_-9",
	"year 1",
	"year 2020",
	"hold P A 50%", "hold Q b_-9 0.0001%", "hold P P 0%",
	"book P sales 1.00", "book A none -7.5",
	"give i goods P A sales 40", "take i goods P A cost 40.00", "take j interest A A x -1", "give k service P P y 0", "give l dividend a b c 0.1",
	"stock i 10 50%", "stock none -1 0%",
	"sold i 100%", "sold i 0.5%",
	"year 9999",
	"take z goods p q r 0.00",
	"sold z 100.0000%",
	"year 9999",
}

func text(lines ...string) string { return strings.Join(lines, "\n") }

// behindLaw is the lines behind the law's own ones.
func behindLaw(lines ...string) string { return text(slices.Concat(law, lines)...) }

// short is a filing without rows.
func short() ast.Filing {
	return ast.Filing{Name: "F", Parent: "P", Threshold: said("3/4"), Cap: said("3/5"), Back: 1, Forward: 5, Interest: said("3/10"), Floor: said("0"), Keep: 5}
}

// checkSays asks for the filing, where e is OK, or for the error, at that place.
func checkSays(t *testing.T, s string, want ast.Filing, place int, e api.Errno) {
	t.Helper()
	f, at, err := parse.Parse(s)
	if at != place || err != e || !ast.Same(f, want) {
		t.Errorf("%.200q: at %d, error %d, %v; want at %d, error %d, %v", s, at, err, f, place, e, want)
	}
}

func checkFault(t *testing.T, s string, place int, e api.Errno) {
	t.Helper()
	checkSays(t, s, ast.Filing{}, place, e)
}

// The chapter's own examples.

func TestExamples(t *testing.T) {
	f := short()
	f.Entities = []string{"P"}
	f.Years = []ast.Year{{Number: 2020, Books: []ast.Book{{Entity: "P", Class: "x", Amount: said("1")}}}}
	s := "filing F P\nthreshold 75%\ncap 60%\nback 1\nforward 5\ninterest 30% 0.00 5\nentity P\nyear 2020\nbook P x 1.00"
	checkSays(t, s, f, 0, api.OK)
	checkSays(t, s+"\n", f, 0, api.OK)
	checkFault(t, "filing F", 0, api.ErrParse)
	checkFault(t, "filing F P\ncap 60%", 11, api.ErrParse)
	checkFault(t, "", 0, api.ErrParse)
}

// P9.1

// TestSays writes out what all sorts of lines say.
func TestSays(t *testing.T) {
	arg := func(name string, kind uint8, arg string) ast.Class {
		return ast.Class{Name: name, Kind: kind, Arg: said(arg)}
	}
	want := ast.Filing{
		Name: "F-1", Parent: "P",
		Brackets:  []ast.Bracket{{From: said("0"), Rate: said("1/4")}, {From: said("1001/2"), Rate: said("0")}, {From: said("-999999999999999999999999999999.99"), Rate: said("1")}},
		Threshold: said("3/4"), Cap: said("5/8"), Back: 3, Forward: 40, Interest: said("0.301234"), Floor: said("-1/20"),
		Classes: []ast.Class{
			arg("sales", 1, "0"), arg("cost", 2, "0"), arg("gain", 3, "0"), arg("meals", 4, "1/2"), arg("gifts", 5, "41/10"), arg("ads", 6, "3"), arg("wear", 7, "0"),
			arg("got", 8, "0"), arg("owed", 9, "0"), arg("in", 10, "0"), arg("out", 11, "0"),
		},
		Entities: []string{"P", "A", "b_-9"},
		Years: []ast.Year{{Number: 1}, {
			Number: 2020,
			Holds:  []ast.Hold{{Owner: "P", Owned: "A", Share: said("1/2")}, {Owner: "Q", Owned: "b_-9", Share: said("1e-6")}, {Owner: "P", Owned: "P", Share: said("0")}},
			Books:  []ast.Book{{Entity: "P", Class: "sales", Amount: said("1")}, {Entity: "A", Class: "none", Amount: said("-15/2")}},
			Deals: []ast.Deal{
				{Give: true, ID: "i", Kind: 1, Payee: "P", Payer: "A", Class: "sales", Amount: said("40")},
				{ID: "i", Kind: 1, Payee: "P", Payer: "A", Class: "cost", Amount: said("40")},
				{ID: "j", Kind: 3, Payee: "A", Payer: "A", Class: "x", Amount: said("-1")},
				{Give: true, ID: "k", Kind: 2, Payee: "P", Payer: "P", Class: "y", Amount: said("0")},
				{Give: true, ID: "l", Kind: 4, Payee: "a", Payer: "b", Class: "c", Amount: said("1/10")},
			},
			Stocks: []ast.Stock{{ID: "i", Margin: said("10"), Unsold: said("1/2")}, {ID: "none", Margin: said("-1"), Unsold: said("0")}},
			Solds:  []ast.Sold{{ID: "i", Share: said("1")}, {ID: "i", Share: said("1/200")}},
		}, {
			Number: 9999,
			Deals:  []ast.Deal{{ID: "z", Kind: 1, Payee: "p", Payer: "q", Class: "r", Amount: said("0")}},
			Solds:  []ast.Sold{{ID: "z", Share: said("1")}},
		}, {Number: 9999}},
	}
	checkSays(t, text(all...), want, 0, api.OK)
	checkParse(t, text(all...))
	checkSays(t, text(law...), short(), 0, api.OK)
}

// TestClassesWithoutArgument have the right 0, as a class by hand has.
func TestClassesWithoutArgument(t *testing.T) {
	for word, kind := range kinds["class"] {
		f, _, e := parse.Parse(behindLaw("class a " + word))
		takes := kind == api.Denied || kind == api.Capped || kind == api.Deferred
		switch {
		case takes != (e == api.ErrParse):
			t.Errorf("%s: error %d", word, e)
		case !takes && (f.Classes[0].Kind != kind || len(f.Classes[0].Arg.Num.Mag) != 0 || !slices.Equal(f.Classes[0].Arg.Den.Mag, []uint32{1})):
			t.Errorf("%s: %v", word, f.Classes[0])
		}
	}
}

// TestWhatLexTells: the text's own errors come ahead of all that its lines say.
func TestWhatLexTells(t *testing.T) {
	fits := text(all...)
	most := fits + strings.Repeat("\n", api.MaxBytes-len(fits))
	checkParse(t, most)
	if _, at, e := parse.Parse(most); at != 0 || e != api.OK {
		t.Errorf("most bytes: at %d, error %d", at, e)
	}
	checkFault(t, most+"\n", 0, api.ErrLimit)
	checkFault(t, "x\x00"+most, 0, api.ErrLimit)
	checkFault(t, "\x00", 0, api.ErrLex)
	checkFault(t, "no filing\n\x7f", 10, api.ErrLex)
	checkFault(t, fits+" \xff", len(fits)+1, api.ErrLex)
	checkFault(t, "filing F\r\n", 8, api.ErrLex)
}

// TestEachPlace lays a line of each sort, and of none, behind each line of a filing.
func TestEachPlace(t *testing.T) {
	one := map[string]string{"none": "none", "Filing": "Filing F P", "filings": "filings F P", "holds": "holds"}
	for _, l := range all {
		one[strings.Fields(l)[0]] = l
	}
	for i := range len(all) + 1 {
		for _, l := range one {
			checkParse(t, text(append(slices.Clone(all[:i]), l)...))
			checkParse(t, text(slices.Concat(all[:i], []string{l}, all[i:])...))
		}
		checkParse(t, text(all[:i]...))
		checkParse(t, text(all[:i]...)+"\n # no more \n")
		checkParse(t, text(all[i:]...))
		for j := i; j < len(all); j++ {
			checkParse(t, text(append(slices.Clone(all[:i]), all[j:]...)...))
			swapped := slices.Clone(all)
			swapped[i], swapped[j] = all[j], all[i]
			checkParse(t, text(swapped...))
		}
	}
}

// TestFirstWords writes out the answers, so that they hang on no other reading.
func TestFirstWords(t *testing.T) {
	for s, place := range map[string]int{
		"x": 0, " \n # a\n  filin F P": 9, "cap 60%": 0, "year 2020": 0, "filing F P\nfiling F P": 11, "filing F P\n bracket 0 0%\nfiling F P": 25,
		"filing F P\nthreshold 1%\nbracket 0 0%": 24, "filing F P\nthreshold 1%\nthreshold 1%": 24, "filing F P\nthreshold 1%\nback 1": 24, "filing F P\n# cap\nthreshold 1%\nhold": 30,
	} {
		checkFault(t, s, place, api.ErrParse)
	}
	ahead := behindLaw("")
	for _, l := range []string{"bracket 0 0%", "interest 0% 0 0", "hold P A 1%", "book P a 1", "give", "take", "stock", "sold a 1%", "# only\n?", "INTEREST", "interest-in", "yea", "years"} {
		checkFault(t, ahead+l, len(ahead)+strings.LastIndex("\n"+l, "\n"), api.ErrParse)
	}
	for _, l := range [][2]string{
		{"entity P\n", "class a income"}, {"year 1\n", "class a income"}, {"year 1\n", "entity P"}, {"year 1\nbook P a 1\n", "hold P A 1%"}, {"year 1\ntake i goods a b c 1\n", "book P a 1"},
		{"year 1\nstock i 1 1%\n", "give i goods a b c 1"}, {"year 1\nstock i 1 1%\n", "take"}, {"year 1\nsold i 1%\n", "stock i 1 1%"}, {"year 1\nsold i 1%\n", "threshold 1%"}, {"year 1\nsold i 1%\nyear 2\nsold i 1%\n", "hold a b 1%"},
	} {
		checkFault(t, ahead+l[0]+l[1], len(ahead)+len(l[0]), api.ErrParse)
	}
}

// TestMissingLines: where lines are missing at the end, the place is the text's length, whatever stands there.
func TestMissingLines(t *testing.T) {
	for i := range law {
		for _, end := range []string{"", "\n", " # end", "\n\n \t\n#"} {
			s := text(law[:i]...) + end
			checkFault(t, s, len(s), api.ErrParse)
		}
	}
	s := "filing F P\nbracket 0 0%\n"
	checkFault(t, s, len(s), api.ErrParse)
	checkSays(t, text(law...)+"\n#", short(), 0, api.OK)
}

// full is a text that has as many of a sort of lines as there may be.
func full(ahead []string, line string, n int) string {
	return text(ahead...) + strings.Repeat("\n"+line, n)
}

// TestLimits: one line too many is told at its first word, ahead of what its words say, and behind whether it may stand there.
func TestLimits(t *testing.T) {
	for _, c := range []struct {
		ahead []string
		line  string
		most  int
	}{
		{law[:1], "bracket 0 1%", 16}, {law, "class a income", 64}, {law, "entity a", 256}, {law, "year 1", 40},
		{append(slices.Clone(law), "year 1"), "hold a b 1%", 4096}, {append(slices.Clone(law), "year 1"), "book a b 0", 4096},
		{append(slices.Clone(law), "year 1"), "stock i 0 1%", 4096}, {append(slices.Clone(law), "year 1"), "sold i 1%", 4096},
	} {
		s := full(c.ahead, c.line, c.most)
		sort := strings.Fields(c.line)[0]
		if sort != "bracket" {
			if _, at, e := parse.Parse(s); at != 0 || e != api.OK {
				t.Fatalf("most of %q: at %d, error %d", c.line, at, e)
			}
		}
		for _, l := range []string{c.line, sort, sort + " ? ? ? ?", sort + "\nx", sort + " a\nfiling"} {
			checkFault(t, s+"\n \t"+l, len(s)+3, api.ErrLimit)
		}
		checkFault(t, s+"\nx", len(s)+1, api.ErrParse)
		checkFault(t, s+"\nfiling F P", len(s)+1, api.ErrParse)
		checkParse(t, s)
		checkParse(t, s+"\n"+c.line)
	}
}

// TestLimitsAreEachYears: a year's lines are counted by themselves; years, by all.
func TestLimitsAreEachYears(t *testing.T) {
	s := full(append(slices.Clone(law), "year 1"), "sold i 1%", 4096)
	s = full([]string{s, "year 2"}, "sold i 1%", 2000)
	f, at, e := parse.Parse(s)
	if at != 0 || e != api.OK || len(f.Years) != 2 || len(f.Years[0].Solds) != 4096 || len(f.Years[1].Solds) != 2000 {
		t.Fatalf("two years of many: at %d, error %d", at, e)
	}
	s = full(law, "year 1\nsold i 1%\nyear 1", 20)
	checkParse(t, s)
	checkFault(t, s+"\nyear 1", len(s)+1, api.ErrLimit)
	s = full(law, "year 1\ngive i goods a b c 1\ntake i goods a b c 1", 40)
	checkParse(t, s)
	checkFault(t, s+"\nyear x", len(s)+1, api.ErrLimit)
	s = text(law[0]) + strings.Repeat("\nbracket 0 1%", 16) + "\n" + text(law[1:]...) + strings.Repeat("\nclass a denied 1%", 64) + strings.Repeat("\nentity a", 256) + strings.Repeat("\nyear 1", 40)
	checkParse(t, s)
	if _, at, e := parse.Parse(s); at != 0 || e != api.OK {
		t.Fatalf("most of all: at %d, error %d", at, e)
	}
}

// TestDealsHaveRoom: as many deals as a text has bytes for are less than there may be.
func TestDealsHaveRoom(t *testing.T) {
	s := behindLaw("year 1")
	n := (api.MaxBytes - len(s)) / len("\ntake i goods a b c 1") / 2
	s += strings.Repeat("\ntake i goods a b c 1\ngive i goods a b c 1", n)
	checkParse(t, s)
	f, at, e := parse.Parse(s)
	if at != 0 || e != api.OK || len(f.Years[0].Deals) != 2*n || n < 1500 {
		t.Fatalf("%d deals: at %d, error %d", 2*n, at, e)
	}
}

// someWords say something of one sort, of several, or of none.
var someWords = []string{
	"a", "Z", "a-1", "a_b", "_a", "-a", "1a", "a.b", "a%", "a+b", "~", "!", "name", strings.Repeat("n", 32), strings.Repeat("n", 33), "a" + strings.Repeat("-", 31), "F(",
	"0", "1", "2", "3", "4", "5", "9", "10", "39", "40", "41", "99", "100", "400", "999", "9999", "10000", "00", "01", "000", "040", "-0", "-1", "+1", "+0", "1_0", "0x1", "1e1", "١", "1,5",
	"4294967296", "4294967299", "18446744073709551616", "18446744073709551619", "9223372036854775807", "9223372036854775808", "-9223372036854775808", strings.Repeat("9", 400), "0" + strings.Repeat("0", 400) + "1",
	"0.0", "0.00", "0.000", "1.", ".5", "1.5", "1.50", "1.500", "1.005", "1.05", "-1.5", "-0.5", "-0.0", "-0.00", "-0.01", "--1", "+1.5", "00.5", "01.5", "1.5.", "1.5.5", "1-", "1.-5", "3.0",
	"999999999999999999999999999999", "999999999999999999999999999999.99", "-999999999999999999999999999999.99", "1000000000000000000000000000000", "-1000000000000000000000000000000", "1000000000000000000000000000000.00", "999999999999999999999999999999.999",
	strings.Repeat("9", 38) + ".99", strings.Repeat("9", 39) + ".99", strings.Repeat("9", 40), strings.Repeat("9", 41), strings.Repeat("1", 4000),
	"0%", "1%", "50%", "99%", "100%", "101%", "00%", "01%", "-0%", "-1%", "+1%", "%", "%%", "5%%", "5%5", "%5", "0.0%", "0.0001%", "0.00001%", "99.9999%", "99.99999%", "100.0%", "100.0000%", "100.00000%", "100.0001%", "1000%", ".5%", "5.%", "37.5%", "37.5000%",
	"income", "expense", "exempt", "denied", "capped", "deferred", "depreciation", "interest-in", "interest-out", "dividend", "distribution", "goods", "service", "interest",
	"Income", "INCOME", "incom", "incomes", "interest-", "interest_in", "good", "services", "loan", "payout", "dividends", "filing", "give", "take", "class",
}

// TestEachWord puts each of them into the place of each word.
func TestEachWord(t *testing.T) {
	for i, l := range all {
		words := strings.Fields(l)
		for j := range words {
			for _, w := range someWords {
				changed := slices.Clone(words)
				changed[j] = w
				lines := slices.Clone(all)
				lines[i] = strings.Join(changed, " ")
				checkParse(t, text(lines...))
			}
		}
	}
}

// TestEachKindsArgument puts each of them behind each kind of a class.
func TestEachKindsArgument(t *testing.T) {
	for word := range kinds["class"] {
		checkParse(t, behindLaw("class a "+word, "entity P"))
		for _, w := range someWords {
			checkParse(t, behindLaw("class a "+word+" "+w, "entity P"))
			checkParse(t, behindLaw("class a "+word+" "+w+" "+w, "entity P"))
		}
	}
}

// TestBounds writes out the answers: behind each word those that fit, and those that don't.
func TestBounds(t *testing.T) {
	most, over := "999999999999999999999999999999.99", "1000000000000000000000000000000"
	for place, c := range map[string][2][]string{
		"threshold": {{"0%", "100%", "0.0001%", "100.0000%"}, {"0", "1", "100.0001%", "0.00001%", "-1%", "01%", "%"}},
		"back":      {{"0", "1", "2", "3"}, {"4", "-1", "-0", "+1", "01", "00", "3.0", "a", "18446744073709551617", "4294967296"}},
		"forward":   {{"0", "39", "40"}, {"41", "-1", "040", "+40", "1e1", "18446744073709551617", "340282366920938463463374607431768211457"}},
	} {
		for i, l := range law {
			if !strings.HasPrefix(l, place) {
				continue
			}
			ahead, behind := text(law[:i]...)+"\n"+place+" ", "\n"+text(law[i+1:]...)
			checkWords(t, ahead, behind, c)
		}
	}
	for ahead, c := range map[string][2][]string{
		"year ":             {{"1", "9", "999", "9999"}, {"0", "-1", "10000", "01", "0001", "+1", "2020.0", "x", "18446744073709551617"}},
		"entity ":           {{"a", "Z9", "x-_", strings.Repeat("n", 32)}, {"9", "-", "_a", "a.b", strings.Repeat("n", 33)}},
		"class a denied ":   {{"0%", "50%", "100%"}, {"0", "1", "101%", "0.5", "-1%"}},
		"class a capped ":   {{"0", "0.0", "-1", most, "-" + most, "0.01"}, {"1%", "1.005", "-0", "01", over, "-" + over, strings.Repeat("9", 41), "a"}},
		"class a deferred ": {{"0", "1", "40"}, {"41", "1.0", "-1", "01", "0.5", "40%", "a", strings.Repeat("1", 50)}},
		"year 1\nbook a b ": {{"0", "0.00", "-1.5", most, "-" + most}, {"1%", "1.234", "-0.0", "+1", ".5", "1.", over, "-" + over, strings.Repeat("9", 40), strings.Repeat("9", 41)}},
	} {
		checkWords(t, behindLaw("")+ahead, "", c)
	}
}

// checkWords puts words between what stands ahead and behind: those that fit, and those that don't.
func checkWords(t *testing.T, ahead, behind string, words [2][]string) {
	t.Helper()
	for _, w := range words[0] {
		if _, at, e := parse.Parse(ahead + w + behind); at != 0 || e != api.OK {
			t.Errorf("%.40q: at %d, error %d\n%s", w, at, e, ahead)
		}
	}
	for _, w := range words[1] {
		checkFault(t, ahead+w+behind, len(ahead), api.ErrParse)
	}
}

// TestTooManyOrFew makes each line longer and shorter, with words that fit and that don't.
func TestTooManyOrFew(t *testing.T) {
	for i, l := range all {
		words := strings.Fields(l)
		put := func(line string) string {
			lines := slices.Clone(all)
			lines[i] = "\t" + line
			return text(lines...)
		}
		first := len(text(all[:i]...)) + min(i, 1) + 1
		for _, more := range []string{"x", "0", "1%", "x ?", "? x"} {
			s := put(l + " " + more)
			checkFault(t, s, first+len(l)+1, api.ErrParse)
			checkParse(t, s)
		}
		for n := 1; n < len(words); n++ {
			s := put(strings.Join(words[:n], " "))
			checkFault(t, s, first, api.ErrParse)
			// A word that does not say what it must comes ahead of those that are missing.
			s = put(strings.Join(append(slices.Clone(words[:n-1]), "?"), " "))
			if n > 1 {
				checkFault(t, s, first+len(strings.Join(words[:n-1], " "))+1, api.ErrParse)
			}
			checkParse(t, s)
			checkParse(t, put(strings.Join(slices.Delete(slices.Clone(words), n, n+1), " ")))
		}
	}
}

// TestFirstFault: line by line, the first thing that is wrong is told.
func TestFirstFault(t *testing.T) {
	for i := range all {
		for _, bad := range []string{"?", "filing", all[i] + " x", strings.Fields(all[i])[0]} {
			for j := i + 1; j < len(all); j += 3 {
				lines := slices.Clone(all)
				lines[i] = bad
				_, place, e := wantParsed(text(lines...))
				lines[j] = "?"
				checkFault(t, text(lines...), place, e)
			}
		}
	}
}

// TestManyTexts changes filings at random.
func TestManyTexts(t *testing.T) {
	r := rand.New(rand.NewPCG(91, 92))
	for range 6000 {
		lines := slices.Clone(all)
		for range r.IntN(4) {
			i, j := r.IntN(len(lines)), r.IntN(len(lines))
			words := strings.Fields(lines[i])
			switch r.IntN(6) {
			case 0:
				lines = slices.Delete(lines, i, i+1)
			case 1:
				lines = slices.Insert(lines, i, lines[j])
			case 2:
				lines[i], lines[j] = lines[j], lines[i]
			case 3:
				words = slices.Insert(words, r.IntN(len(words)+1), someWords[r.IntN(len(someWords))])
				lines[i] = strings.Join(words, " ")
			default:
				words[r.IntN(len(words))] = someWords[r.IntN(len(someWords))]
				lines[i] = strings.Join(words, " \t"[r.IntN(2):][:1])
			}
		}
		s := []byte(text(lines...))
		if r.IntN(4) == 0 {
			s[r.IntN(len(s))] = byte(r.IntN(256))
		}
		checkParse(t, string(s))
	}
}

// TestCutTexts cuts a text at each byte.
func TestCutTexts(t *testing.T) {
	s := text(all...)
	for i := range len(s) {
		checkParse(t, s[:i])
		checkParse(t, s[i:])
		checkParse(t, s[:i]+" "+s[i:])
		checkParse(t, s[:i]+"\n"+s[i:])
		checkParse(t, s[:i]+"#"+s[i:])
		checkParse(t, s[:i]+s[i+1:])
	}
}
