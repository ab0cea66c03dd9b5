package sound_test

import (
	"strconv"
	"testing"

	"tallage/api"
	"tallage/ast"
	"tallage/sound"
)

// P11.1, P11.2, P11.5: filings at random, against the oracle.

func TestManySoundFilings(t *testing.T) {
	m := newMaker(111)
	for i := range 400 {
		f := m.sound()
		if want := told(wantAll(f)); want != "" {
			t.Fatalf("filing %d: the oracle tells %q", i, want)
		}
		checkFaults(t, f, "", i)
	}
}

// TestManyChanges changes filings that keep all rules, by a few steps each. Each rule must have been broken by some, and all kept by some.
func TestManyChanges(t *testing.T) {
	m := newMaker(113)
	first, met := map[uint8]int{}, map[uint8]int{}
	for i := range 4000 {
		f := m.sound()
		for range 1 + m.IntN(3) {
			m.change(&f)
		}
		if p, e := ast.Right(f); e != api.OK {
			t.Fatalf("filing %d is not right: %v, error %d", i, p, e)
		}
		want := wantAll(f)
		checkFaults(t, f, told(want), i)
		for j, fault := range want {
			met[fault.Rule]++
			if j == 0 {
				first[fault.Rule]++
			}
		}
		if len(want) == 0 {
			first[0]++
		}
	}
	for rule := range uint8(15) {
		if first[rule] == 0 || rule > 0 && met[rule] < 50 {
			t.Errorf("rule %d was broken %d times, first of all %d times", rule, met[rule], first[rule])
		}
	}
}

func TestManyLooseFilings(t *testing.T) {
	m := newMaker(115)
	met, kept := map[uint8]int{}, map[uint8]int{}
	for i := range 4000 {
		f := m.loose()
		want := wantAll(f)
		checkFaults(t, f, told(want), i)
		broken := map[uint8]int{}
		for _, fault := range want {
			broken[fault.Rule]++
		}
		for rule := uint8(1); rule <= 14; rule++ {
			if broken[rule] > 0 {
				met[rule]++
			} else {
				kept[rule]++
			}
		}
	}
	for rule := uint8(1); rule <= 14; rule++ {
		if met[rule] < 50 || kept[rule] < 50 {
			t.Errorf("rule %d was broken in %d filings, kept in %d", rule, met[rule], kept[rule])
		}
	}
}

// P11.5

// TestWithoutTheLastYear takes the years of filings that keep all rules away, the last one first.
func TestWithoutTheLastYear(t *testing.T) {
	m := newMaker(117)
	for i := range 200 {
		f := m.sound()
		for len(f.Years) > 1 {
			f.Years = f.Years[:len(f.Years)-1]
			checkFaults(t, f, "", i, len(f.Years))
		}
		f.Years = nil
		checkFaults(t, f, "6,-1,0", i, "no years")
	}
}

func TestInAnotherOrder(t *testing.T) {
	m := newMaker(119)
	for i := range 200 {
		f := m.sound()
		for range 3 {
			f.Entities = shuffled(m, f.Entities)
			checkFaults(t, f, "", i, "entities in another order")
			f.Classes = shuffled(m, f.Classes)
			checkFaults(t, f, "", i, "classes in another order")
		}
		for y := range f.Years {
			year := &f.Years[y]
			year.Holds, year.Books, year.Deals = shuffled(m, year.Holds), shuffled(m, year.Books), shuffled(m, year.Deals)
			year.Stocks, year.Solds = shuffled(m, year.Stocks), shuffled(m, year.Solds)
		}
		checkFaults(t, f, "", i, "all in another order")
	}
}

// The greatest filings.

func name(prefix string, n int) string { return prefix + strconv.Itoa(n) }

// greatest has as much of all as a filing may have, and keeps all rules.
func greatest() ast.Filing {
	f := ast.Filing{Name: "F", Parent: "E0", Threshold: of("1/2"), Cap: of("1/2"), Back: 3, Forward: 40, Interest: of("1"), Floor: of("0"), Keep: 40}
	for i := range 16 {
		f.Brackets = append(f.Brackets, ast.Bracket{From: by(int64(i), 100), Rate: of("1")})
	}
	for i := range 64 {
		f.Classes = append(f.Classes, ast.Class{Name: name("c", i), Kind: uint8(1 + i%2), Arg: of("0")})
	}
	for i := range 256 {
		f.Entities = append(f.Entities, name("E", i))
	}
	for y := range 40 {
		year := ast.Year{Number: 9960 + y}
		// Each one holds some of those behind it, first of all the next one.
		for gap := 1; len(year.Holds) < 4096; gap++ {
			for owner := 0; owner+gap < 256 && len(year.Holds) < 4096; owner++ {
				year.Holds = append(year.Holds, ast.Hold{Owner: name("E", owner), Owned: name("E", owner+gap), Share: by(1, 1_000_000)})
			}
		}
		for i := range 4096 {
			year.Books = append(year.Books, ast.Book{Entity: name("E", i%256), Class: name("c", i%64), Amount: by(int64(i), 100)})
			id := name(name("i", y)+"-", i/2)
			year.Deals = append(year.Deals, ast.Deal{Give: i%2 == 0, ID: id, Kind: api.Goods, Payee: "E1", Payer: name("E", i/2%256/2*2), Class: name("c", i%2), Amount: by(int64(i/2+1), 100)})
			if i%2 == 0 {
				year.Stocks = append(year.Stocks, ast.Stock{ID: id, Margin: of("0.01"), Unsold: of("1")})
			}
			if y > 0 {
				year.Solds = append(year.Solds, ast.Sold{ID: name(name("i", y-1)+"-", i/2), Share: of("1/2")})
			}
		}
		f.Years = append(f.Years, year)
	}
	return f
}

func TestGreatest(t *testing.T) {
	f := greatest()
	if first, e := sound.Check(f); first != (sound.Fault{}) || e != api.OK {
		t.Fatalf("%v, error %d", first, e)
	}
	f.Years[39].Solds[4095].Share = of("0.500001")
	f.Years[39].Deals[4095].Amount = of("20.47")
	checkFaults(t, f, "12,39,4094 12,39,4095 14,39,4095", "the greatest filing, two parts changed")
}

// TestAllBroken breaks as many rules as there are things, in all years.
func TestAllBroken(t *testing.T) {
	f := ast.Filing{Name: "F", Parent: "P", Threshold: of("0"), Cap: of("0"), Interest: of("0"), Floor: of("0")}
	year := ast.Year{Number: 5}
	for range 4096 {
		year.Holds = append(year.Holds, ast.Hold{Owner: "x", Owned: "x", Share: of("0")})
		year.Books = append(year.Books, ast.Book{Entity: "x", Class: "x", Amount: of("0")})
		year.Deals = append(year.Deals, ast.Deal{ID: "x", Kind: api.Goods, Payee: "x", Payer: "x", Class: "x", Amount: of("0")})
		year.Stocks = append(year.Stocks, ast.Stock{ID: "x", Margin: of("1"), Unsold: of("0")})
		year.Solds = append(year.Solds, ast.Sold{ID: "y", Share: of("1")})
	}
	for range 40 {
		f.Years = append(f.Years, year)
	}
	l, e := sound.All(f)
	if e != api.OK || len(l) != 1+1+1+39+40*4096*7 {
		t.Fatalf("%d faults, error %d", len(l), e)
	}
	for _, c := range []struct {
		at   int
		want sound.Fault
	}{
		{0, sound.Fault{Rule: 1, Year: -1}}, {1, sound.Fault{Rule: 2, Year: -1}}, {2, sound.Fault{Rule: 5, Year: -1}}, {3, sound.Fault{Rule: 6, Year: -1, At: 1}},
		{41, sound.Fault{Rule: 6, Year: -1, At: 39}}, {42, sound.Fault{Rule: 7}}, {42 + 4096, sound.Fault{Rule: 7, Year: 1}},
		{41 + 40*4096, sound.Fault{Rule: 7, Year: 39, At: 4095}}, {42 + 40*4096, sound.Fault{Rule: 9}}, {len(l) - 1, sound.Fault{Rule: 14, Year: 39, At: 4095}},
	} {
		if l[c.at] != c.want {
			t.Errorf("fault %d: %v, not %v", c.at, l[c.at], c.want)
		}
	}
}

// TestLongChains lets as many as there may be hold one behind the other, of no entities, with a ring at last, in all years.
func TestLongChains(t *testing.T) {
	f := full(t)
	f.Years = nil
	for y := range 40 {
		year := ast.Year{Number: 1 + y}
		for i := range 4095 {
			h := ast.Hold{Owner: name("x", i), Owned: name("x", i+1), Share: of("1")}
			if y%2 == 1 {
				h = ast.Hold{Owner: name("x", 4094-i), Owned: name("x", 4095-i), Share: of("1")}
			}
			year.Holds = append(year.Holds, h)
		}
		// The last one makes a ring of all of them in some years, and of none in the others.
		h := ast.Hold{Owner: "x4095", Owned: "x0", Share: of("1")}
		if y%3 == 0 {
			h.Owned = "x4096"
		}
		year.Holds = append(year.Holds, h)
		f.Years = append(f.Years, year)
	}
	l, e := sound.All(f)
	if e != api.OK {
		t.Fatal(e)
	}
	rings := []sound.Fault{}
	for _, fault := range l {
		if fault.Rule != 7 {
			rings = append(rings, fault)
		}
	}
	if len(l) != 40*4096+26 || len(rings) != 26 || rings[0] != (sound.Fault{Rule: 9, Year: 1, At: 4095}) || rings[25] != (sound.Fault{Rule: 9, Year: 38, At: 4095}) {
		t.Fatalf("%d faults; %v", len(l), rings)
	}
}
