package ast_test

import (
	"math"
	"slices"
	"strings"
	"testing"

	"tallage/api"
	"tallage/ast"
	"tallage/rat"
)

// P8.2

// most is the greatest money.
func most() rat.Rat { return said("999999999999999999999999999999.99") }

// right is a filing that breaks no limit, with three and more of all that there may be several of; each time in new memory.
func right() ast.Filing {
	f := ast.Filing{
		Name: "F", Parent: "P",
		Brackets:  []ast.Bracket{{From: of(0, 1), Rate: of(1, 4)}, {From: of(1001, 2), Rate: of(0, 1)}, {From: most(), Rate: of(1, 1)}},
		Threshold: of(3, 4), Cap: of(1, 1), Back: 3, Forward: 40, Interest: of(3, 10), Floor: negOf(most()), Keep: 40,
		Entities: []string{"P", "A", strings.Repeat("b", 32)},
	}
	for kind := api.Income; kind <= api.Distribution; kind++ {
		f.Classes = append(f.Classes, ast.Class{Name: "c-" + strings.Repeat("x", int(kind)), Kind: kind, Arg: of(0, 1)})
	}
	f.Classes[3].Arg, f.Classes[4].Arg, f.Classes[5].Arg = of(1, 1_000_000), of(-5, 4), of(40, 1)
	for _, number := range []int{1, 9999, 2020} {
		f.Years = append(f.Years, year(number))
	}
	return f
}

func year(number int) ast.Year {
	return ast.Year{
		Number: number,
		Holds:  []ast.Hold{{Owner: "P", Owned: "A", Share: of(1, 1)}, {Owner: "P", Owned: "P", Share: of(0, 1)}, {Owner: "none", Owned: "A", Share: of(1, 8)}},
		Books:  []ast.Book{{Entity: "P", Class: "c-x", Amount: of(-1, 100)}, {Entity: "Q", Class: "d", Amount: most()}, {Entity: "P", Class: "P", Amount: of(0, 1)}},
		Deals: []ast.Deal{
			{Give: true, ID: "i", Kind: api.Goods, Payee: "P", Payer: "A", Class: "c-x", Amount: of(40, 1)},
			{ID: "i", Kind: api.Payout, Payee: "P", Payer: "P", Class: "none", Amount: negOf(most())},
			{ID: "j", Kind: api.Loan, Payee: "A", Payer: "A", Class: "c", Amount: of(0, 1)},
		},
		Stocks: []ast.Stock{{ID: "i", Margin: of(-10, 1), Unsold: of(1, 2)}, {ID: "i", Margin: most(), Unsold: of(1, 1)}, {ID: "k", Margin: of(0, 1), Unsold: of(0, 1)}},
		Solds:  []ast.Sold{{ID: "i", Share: of(1, 2)}, {ID: "i", Share: of(1, 1)}, {ID: "l", Share: of(0, 1)}},
	}
}

// breach is something done to a right filing, and what is told of it.
type breach struct {
	ast.Place
	e  api.Errno
	do func(f *ast.Filing)
}

// breaches are some of each sort, at a row's begin, its midst and its end, and in several years.
func breaches() []breach {
	l := breachesOfLaw()
	set := func(part uint8, at int, do func(f *ast.Filing)) {
		l = append(l, breach{ast.Place{Part: part, Year: -1, At: at}, api.ErrArg, do})
	}
	for at := range 3 {
		set(2, at, func(f *ast.Filing) { f.Brackets[at].From = of(1, 3) })
		set(2, at, func(f *ast.Filing) { f.Brackets[at].Rate = of(5, 4) })
		set(4, 3*at, func(f *ast.Filing) { f.Classes[3*at].Name = "1" })
		set(4, 4*at, func(f *ast.Filing) { f.Classes[4*at].Kind = 12 })
		set(4, 3+at, func(f *ast.Filing) { f.Classes[3+at].Arg = of(200_001, 200) })
		set(4, 5*at+1-at/2, func(f *ast.Filing) { f.Classes[5*at+1-at/2].Arg = of(1, 1) })
		set(4, 5*at, func(f *ast.Filing) { f.Classes[5*at].Arg = rat.Rat{} })
		set(5, at, func(f *ast.Filing) { f.Entities[at] = "" })
		set(6, at, func(f *ast.Filing) { f.Years[at].Number = 10_000 * (at % 2) })
	}
	for i := range 3 {
		for at := range 3 {
			l = append(l, breachesOfYear(i, at)...)
		}
	}
	return l
}

func breachesOfLaw() []breach {
	l := []breach{}
	set := func(part uint8, at int, do func(f *ast.Filing)) {
		l = append(l, breach{ast.Place{Part: part, Year: -1, At: at}, api.ErrArg, do})
	}
	set(1, 0, func(f *ast.Filing) { f.Name = "" })
	set(1, 1, func(f *ast.Filing) { f.Parent = "a b" })
	set(3, 0, func(f *ast.Filing) { f.Threshold = of(1, 3) })
	set(3, 1, func(f *ast.Filing) { f.Cap = of(-1, 2) })
	set(3, 2, func(f *ast.Filing) { f.Interest = rat.Rat{} })
	set(3, 3, func(f *ast.Filing) { f.Back = 4 })
	set(3, 4, func(f *ast.Filing) { f.Forward = 41 })
	set(3, 5, func(f *ast.Filing) { f.Keep = -1 })
	set(3, 6, func(f *ast.Filing) { f.Floor = of(1, 200) })
	return l
}

func breachesOfYear(i, at int) []breach {
	l := []breach{}
	set := func(part uint8, do func(y *ast.Year)) {
		l = append(l, breach{ast.Place{Part: part, Year: i, At: at}, api.ErrArg, func(f *ast.Filing) { do(&f.Years[i]) }})
	}
	long, more := strings.Repeat("n", 33), of(1_000_001, 1_000_000)
	set(7, func(y *ast.Year) { y.Holds[at].Owner = "" })
	set(7, func(y *ast.Year) { y.Holds[at].Owned = long })
	set(7, func(y *ast.Year) { y.Holds[at].Share = more })
	set(8, func(y *ast.Year) { y.Books[at].Entity = "é" })
	set(8, func(y *ast.Year) { y.Books[at].Class = "-" })
	set(8, func(y *ast.Year) { y.Books[at].Amount = of(1, 8) })
	set(9, func(y *ast.Year) { y.Deals[at].ID = "a#" })
	set(9, func(y *ast.Year) { y.Deals[at].Kind = 0 })
	set(9, func(y *ast.Year) { y.Deals[at].Payee = "5" })
	set(9, func(y *ast.Year) { y.Deals[at].Payer = "" })
	set(9, func(y *ast.Year) { y.Deals[at].Class = long })
	set(9, func(y *ast.Year) { y.Deals[at].Amount = rat.Rat{} })
	set(10, func(y *ast.Year) { y.Stocks[at].ID = "" })
	set(10, func(y *ast.Year) { y.Stocks[at].Margin = said("1e30") })
	set(10, func(y *ast.Year) { y.Stocks[at].Unsold = of(-1, 2) })
	set(11, func(y *ast.Year) { y.Solds[at].ID = "\n" })
	set(11, func(y *ast.Year) { y.Solds[at].Share = of(2, 1) })
	return l
}

// order is that of places: the parts of the filing, and then year by year those of each one.
func order(a, b ast.Place) int {
	key := func(p ast.Place) [3]int { return [3]int{p.Year, int(p.Part), p.At} }
	x, y := key(a), key(b)
	return slices.Compare(x[:], y[:])
}

func checkRight(t *testing.T, f ast.Filing, p ast.Place, e api.Errno, what ...any) {
	t.Helper()
	if got, err := ast.Right(f); got != p || err != e {
		t.Fatalf("Right of %v: %v, error %d; want %v, error %d", what, got, err, p, e)
	}
}

func TestRight(t *testing.T) {
	checkRight(t, right(), ast.Place{}, api.OK, "a right filing")
	few := ast.Filing{Name: "a", Parent: "b", Threshold: of(0, 1), Cap: of(0, 1), Interest: of(0, 1), Floor: of(0, 1)}
	checkRight(t, few, ast.Place{}, api.OK, "a filing of empty rows")
	few.Brackets, few.Classes, few.Entities, few.Years = []ast.Bracket{}, []ast.Class{}, []string{}, []ast.Year{{Number: 1}, {Number: 1, Holds: []ast.Hold{}}}
	checkRight(t, few, ast.Place{}, api.OK, "a filing of empty rows that are there")
	checkRight(t, ast.Filing{}, ast.Place{Part: 1, Year: -1}, api.ErrArg, "the zero value")
	checkRight(t, ast.Filing{Name: "a", Parent: "b"}, ast.Place{Part: 3, Year: -1}, api.ErrArg, "names alone")
}

func TestEachBreach(t *testing.T) {
	for i, b := range breaches() {
		f := right()
		b.do(&f)
		checkRight(t, f, b.Place, b.e, "breach", i)
	}
}

// TestFirstBreach: of two breaches the first one is told, in whichever order they were made.
func TestFirstBreach(t *testing.T) {
	all := breaches()
	for i, a := range all {
		for j, b := range all {
			f := right()
			a.do(&f)
			b.do(&f)
			first := slices.MinFunc([]breach{a, b}, func(a, b breach) int { return order(a.Place, b.Place) })
			checkRight(t, f, first.Place, first.e, "breaches", i, j)
		}
	}
}

// TestLaterBreaches takes breaches away, the first one first.
func TestLaterBreaches(t *testing.T) {
	all := breaches()
	slices.SortStableFunc(all, func(a, b breach) int { return order(a.Place, b.Place) })
	for i := range all {
		f := right()
		for _, b := range all[i:] {
			b.do(&f)
		}
		checkRight(t, f, all[i].Place, all[i].e, "the breaches from", i, "on")
	}
}

// longer is a row of so many, the last ones all alike.
func longer[T any](row []T, n int) []T {
	return append(slices.Clone(row), slices.Repeat(row[len(row)-1:], n-len(row))...)
}

// tooMany tries a row with as many as there may be, and with more, also where another one breaks the row's rule.
func tooMany[T any](t *testing.T, p ast.Place, most int, rowOf func(f *ast.Filing) *[]T, bad T) {
	t.Helper()
	try := func(n int, e api.Errno, want int, spoilt ...int) {
		t.Helper()
		f := right()
		row := rowOf(&f)
		*row = longer(*row, n)
		for _, i := range spoilt {
			(*row)[i] = bad
		}
		place := ast.Place{}
		if e != api.OK {
			place = p
			place.At = want
		}
		checkRight(t, f, place, e, p.Part, n, spoilt)
	}
	try(most-1, api.OK, 0)
	try(most, api.OK, 0)
	try(most+1, api.ErrLimit, most)
	try(2*most+3, api.ErrLimit, most)
	try(most, api.ErrArg, most-1, most-1)
	try(most+1, api.ErrLimit, most, most)
	try(most+9, api.ErrLimit, most, most+1, most+8)
	try(most+1, api.ErrArg, most-1, most-1, most)
	try(most+1, api.ErrArg, 0, 0)
}

func TestTooMany(t *testing.T) {
	tooMany(t, ast.Place{Part: 2, Year: -1}, 16, func(f *ast.Filing) *[]ast.Bracket { return &f.Brackets }, ast.Bracket{})
	tooMany(t, ast.Place{Part: 4, Year: -1}, 64, func(f *ast.Filing) *[]ast.Class { return &f.Classes }, ast.Class{})
	tooMany(t, ast.Place{Part: 5, Year: -1}, 256, func(f *ast.Filing) *[]string { return &f.Entities }, "")
	tooMany(t, ast.Place{Part: 6, Year: -1}, 40, func(f *ast.Filing) *[]ast.Year { return &f.Years }, ast.Year{})
	for i := range 3 {
		tooMany(t, ast.Place{Part: 7, Year: i}, 4096, func(f *ast.Filing) *[]ast.Hold { return &f.Years[i].Holds }, ast.Hold{})
		tooMany(t, ast.Place{Part: 8, Year: i}, 4096, func(f *ast.Filing) *[]ast.Book { return &f.Years[i].Books }, ast.Book{})
		tooMany(t, ast.Place{Part: 9, Year: i}, 4096, func(f *ast.Filing) *[]ast.Deal { return &f.Years[i].Deals }, ast.Deal{})
		tooMany(t, ast.Place{Part: 10, Year: i}, 4096, func(f *ast.Filing) *[]ast.Stock { return &f.Years[i].Stocks }, ast.Stock{})
		tooMany(t, ast.Place{Part: 11, Year: i}, 4096, func(f *ast.Filing) *[]ast.Sold { return &f.Years[i].Solds }, ast.Sold{})
	}
}

// TestManyAndOthers lays a row that is too long behind, and ahead of, what breaks another limit.
func TestManyAndOthers(t *testing.T) {
	f := right()
	f.Classes = longer(f.Classes, 65)
	f.Entities[0] = ""
	checkRight(t, f, ast.Place{Part: 4, Year: -1, At: 64}, api.ErrLimit, "many classes, and a name behind")
	f.Floor = of(1, 3)
	checkRight(t, f, ast.Place{Part: 3, Year: -1, At: 6}, api.ErrArg, "many classes, and a floor ahead")
	f = right()
	f.Years[1].Books = longer(f.Years[1].Books, 4097)
	f.Years[1].Deals[0].ID, f.Years[2].Holds[0].Owner = "", ""
	checkRight(t, f, ast.Place{Part: 8, Year: 1, At: 4096}, api.ErrLimit, "many books, and names behind")
	f.Years[0].Solds[2].ID = ""
	checkRight(t, f, ast.Place{Part: 11, Year: 0, At: 2}, api.ErrArg, "many books, and a name in the year ahead")
	f.Years = longer(f.Years, 41)
	checkRight(t, f, ast.Place{Part: 6, Year: -1, At: 40}, api.ErrLimit, "many years")
}

// TestNumbersOfTheLaw goes over the bounds of all that is no fraction.
func TestNumbersOfTheLaw(t *testing.T) {
	for _, n := range []int{math.MinInt, -256, -1, 0, 1, 2, 3, 4, 39, 40, 41, 42, 255, 256, 296, 9998, 9999, 10_000, 10_001, math.MaxInt} {
		for _, c := range []struct {
			p           ast.Place
			least, most int
			field       func(f *ast.Filing) *int
		}{
			{ast.Place{Part: 3, Year: -1, At: 3}, 0, 3, func(f *ast.Filing) *int { return &f.Back }},
			{ast.Place{Part: 3, Year: -1, At: 4}, 0, 40, func(f *ast.Filing) *int { return &f.Forward }},
			{ast.Place{Part: 3, Year: -1, At: 5}, 0, 40, func(f *ast.Filing) *int { return &f.Keep }},
			{ast.Place{Part: 6, Year: -1, At: 1}, 1, 9999, func(f *ast.Filing) *int { return &f.Years[1].Number }},
		} {
			f := right()
			*c.field(&f) = n
			place, e := ast.Place{}, api.OK
			if n < c.least || n > c.most {
				place, e = c.p, api.ErrArg
			}
			checkRight(t, f, place, e, c.p, n)
		}
	}
}

func TestKinds(t *testing.T) {
	for kind := range 256 {
		f := right()
		f.Classes[0].Kind = uint8(kind)
		// Its argument is 0, which a class of any kind may have.
		want, e := ast.Place{}, api.OK
		if kind < 1 || kind > 11 {
			want, e = ast.Place{Part: 4, Year: -1}, api.ErrArg
		}
		checkRight(t, f, want, e, "a class of the kind", kind)
		f = right()
		f.Years[2].Deals[1].Kind = uint8(kind)
		want, e = ast.Place{}, api.OK
		if kind < 1 || kind > 4 {
			want, e = ast.Place{Part: 9, Year: 2, At: 1}, api.ErrArg
		}
		checkRight(t, f, want, e, "a deal of the kind", kind)
	}
}

// mayBeArg tells what the table says of an argument that is right.
func mayBeArg(kind uint8, x rat.Rat) bool {
	v := value(x)
	switch kind {
	case api.Denied:
		return isShare(v)
	case api.Capped:
		return isMoney(v)
	case api.Deferred:
		return v.IsInt() && v.Sign() >= 0 && v.Cmp(value(of(40, 1))) <= 0
	}
	return v.Sign() == 0
}

func TestArguments(t *testing.T) {
	f := right()
	for _, x := range append(fractions(), of(38, 1), of(79, 2), of(81, 2), of(-40, 1)) {
		for kind := api.Income; kind <= api.Distribution; kind++ {
			f.Classes[8] = ast.Class{Name: "c", Kind: kind, Arg: x}
			want, e := ast.Place{}, api.OK
			if !mayBeArg(kind, x) {
				want, e = ast.Place{Part: 4, Year: -1, At: 8}, api.ErrArg
			}
			checkRight(t, f, want, e, "a class", kind, value(x))
		}
	}
}

// TestWrongArguments: what is not right is no argument of any kind, not even of one that has none but 0.
func TestWrongArguments(t *testing.T) {
	f := right()
	for _, x := range wrong() {
		for kind := api.Income; kind <= api.Distribution; kind++ {
			f.Classes[9] = ast.Class{Name: "c", Kind: kind, Arg: x}
			checkRight(t, f, ast.Place{Part: 4, Year: -1, At: 9}, api.ErrArg, "a class", kind, x)
		}
	}
}

// spots are all fractions of a filing that must be money, or shares, each with its place.
func spots() (money, shares map[ast.Place][]func(f *ast.Filing) *rat.Rat) {
	out := func(part uint8, at int) ast.Place { return ast.Place{Part: part, Year: -1, At: at} }
	in := func(part uint8) ast.Place { return ast.Place{Part: part, Year: 1, At: 2} }
	type field = func(f *ast.Filing) *rat.Rat
	money = map[ast.Place][]field{
		out(2, 1): {func(f *ast.Filing) *rat.Rat { return &f.Brackets[1].From }},
		out(3, 6): {func(f *ast.Filing) *rat.Rat { return &f.Floor }},
		in(8):     {func(f *ast.Filing) *rat.Rat { return &f.Years[1].Books[2].Amount }},
		in(9):     {func(f *ast.Filing) *rat.Rat { return &f.Years[1].Deals[2].Amount }},
		in(10):    {func(f *ast.Filing) *rat.Rat { return &f.Years[1].Stocks[2].Margin }},
	}
	shares = map[ast.Place][]field{
		out(2, 1): {func(f *ast.Filing) *rat.Rat { return &f.Brackets[1].Rate }},
		out(3, 0): {func(f *ast.Filing) *rat.Rat { return &f.Threshold }},
		out(3, 1): {func(f *ast.Filing) *rat.Rat { return &f.Cap }},
		out(3, 2): {func(f *ast.Filing) *rat.Rat { return &f.Interest }},
		in(7):     {func(f *ast.Filing) *rat.Rat { return &f.Years[1].Holds[2].Share }},
		in(10):    {func(f *ast.Filing) *rat.Rat { return &f.Years[1].Stocks[2].Unsold }},
		in(11):    {func(f *ast.Filing) *rat.Rat { return &f.Years[1].Solds[2].Share }},
	}
	return money, shares
}

// TestEachFraction lays fractions where money, or a share, must stand.
func TestEachFraction(t *testing.T) {
	money, shares := spots()
	edges := []rat.Rat{of(0, 1), of(1, 1), of(2, 1), of(1, 2), of(1, 3), of(1, 8), of(-1, 2), of(1, 128), of(1, 100), of(1, 200), of(1, 1_000_000), of(1, 2_000_000), of(1_000_001, 1_000_000), most(), negOf(most()), said("1e30"), said("-1e30")}
	for i, places := range []map[ast.Place][]func(f *ast.Filing) *rat.Rat{money, shares} {
		fits := []func(rat.Rat) bool{func(x rat.Rat) bool { return isMoney(value(x)) }, func(x rat.Rat) bool { return isShare(value(x)) }}[i]
		for p, fields := range places {
			for _, field := range fields {
				f := right()
				for _, x := range edges {
					*field(&f) = x
					want, e := ast.Place{}, api.OK
					if !fits(x) {
						want, e = p, api.ErrArg
					}
					checkRight(t, f, want, e, p, value(x))
				}
				for _, x := range wrong() {
					*field(&f) = x
					checkRight(t, f, p, api.ErrArg, p, x)
				}
			}
		}
	}
}
