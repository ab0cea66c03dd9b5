package sound

import (
	"iter"

	"tallage/api"
	"tallage/ast"
	"tallage/rat"
)

// noYear is the year's place of what is in none.
const noYear = -1

// subject is a filing that is right, whose rules are asked, with what the rules look up by name.
type subject struct {
	ast.Filing
	// entities tells how often each one stands there.
	entities map[string]int
	// kinds tells each class's kind, which is never 0.
	kinds map[string]uint8
}

func subjectOf(f ast.Filing) subject {
	s := subject{Filing: f, entities: map[string]int{}, kinds: map[string]uint8{}}
	for _, name := range f.Entities {
		s.entities[name]++
	}
	for _, c := range f.Classes {
		if s.kinds[c.Name] == 0 {
			s.kinds[c.Name] = c.Kind
		}
	}
	return s
}

// rule tells what breaks it, by years, then places; which rule it is, it leaves open.
type rule func(subject) []Fault

// rules are the chapter's, in its order: each one's number is its place here, from 1 on.
func rules() []rule {
	return []rule{
		subject.bracketsRise, subject.lawMayBe,
		subject.classesMayBe, subject.entitiesDiffer, subject.parentIsThere, subject.yearsFollow,
		subject.holdsMayBe, subject.holdsAddUp, subject.holdsMakeNoRing,
		subject.booksMayBe, subject.dealsMayBe, subject.dealsMatch,
		subject.stocksMayBe, subject.soldsMayBe,
	}
}

// faults hands out what breaks the rules. A rule is asked only when all that break the ones ahead were taken.
func faults(s subject, rules ...rule) iter.Seq[Fault] {
	return func(yield func(Fault) bool) {
		for i, broken := range rules {
			for _, fault := range broken(s) {
				fault.Rule = uint8(i + 1)
				if !yield(fault) {
					return
				}
			}
		}
	}
}

func (s subject) bracketsRise() []Fault {
	return faultsAt(noYear, unchained(s.Brackets,
		func(first ast.Bracket) bool { return rat.Sign(first.From) == 0 },
		func(ahead, b ast.Bracket) bool { return rat.Cmp(b.From, ahead.From) > 0 })...)
}

func (s subject) lawMayBe() []Fault {
	return s.once(rat.Sign(s.Threshold) > 0 && rat.Sign(s.Floor) >= 0)
}

func (s subject) classesMayBe() []Fault {
	times := map[string]int{}
	return faultsAt(noYear, breaking(s.Classes, func(c ast.Class) bool {
		times[c.Name]++
		return times[c.Name] == 1 && rightArg(c)
	})...)
}

func (s subject) entitiesDiffer() []Fault {
	times := map[string]int{}
	return faultsAt(noYear, breaking(s.Entities, func(name string) bool {
		times[name]++
		return times[name] == 1
	})...)
}

func (s subject) parentIsThere() []Fault { return s.once(s.isEntity(s.Parent)) }

func (s subject) yearsFollow() []Fault {
	return faultsAt(noYear, unchained(s.Years,
		func(ast.Year) bool { return true },
		func(ahead, y ast.Year) bool { return y.Number == ahead.Number+1 })...)
}

func (s subject) holdsMayBe() []Fault {
	return s.yearly(func(y ast.Year) []int {
		times := map[[2]string]int{}
		return breaking(y.Holds, func(h ast.Hold) bool {
			both := [2]string{h.Owner, h.Owned}
			times[both]++
			return times[both] == 1 && rat.Sign(h.Share) > 0 && h.Owned != s.Parent && s.areTwo(h.Owner, h.Owned)
		})
	})
}

func (s subject) holdsAddUp() []Fault {
	return s.yearly(func(y ast.Year) []int {
		held := tally{}
		return breaking(y.Holds, func(h ast.Hold) bool { return held.addUp(h.Owned, h.Share) })
	})
}

func (s subject) holdsMakeNoRing() []Fault {
	return s.yearly(func(y ast.Year) []int {
		ahead := web{places: map[string]int{}}
		return breaking(y.Holds, ahead.add)
	})
}

func (s subject) booksMayBe() []Fault {
	return s.yearly(func(y ast.Year) []int {
		return breaking(y.Books, func(b ast.Book) bool { return s.isEntity(b.Entity) && s.kinds[b.Class] != 0 })
	})
}

func (s subject) dealsMayBe() []Fault {
	return s.yearly(func(y ast.Year) []int {
		return breaking(y.Deals, func(d ast.Deal) bool {
			// A class that is not there has the kind 0, which fits no deal.
			return rat.Sign(d.Amount) > 0 && s.areTwo(d.Payee, d.Payer) && Fits(d.Kind, d.Give, s.kinds[d.Class])
		})
	})
}

func (s subject) dealsMatch() []Fault {
	earlier := map[string]int{}
	return s.yearly(func(y ast.Year) []int {
		sides := map[string][]ast.Deal{}
		for _, d := range y.Deals {
			sides[d.ID] = append(sides[d.ID], d)
		}
		places := breaking(y.Deals, func(d ast.Deal) bool {
			l := sides[d.ID]
			return earlier[d.ID] == 0 && len(l) == 2 && match(l[0], l[1])
		})
		for _, d := range y.Deals {
			earlier[d.ID]++
		}
		return places
	})
}

func (s subject) stocksMayBe() []Fault {
	return s.yearly(func(y ast.Year) []int {
		times, goods := map[string]int{}, dearest(y.Deals)
		return breaking(y.Stocks, func(k ast.Stock) bool {
			times[k.ID]++
			amount, isThere := goods[k.ID]
			return times[k.ID] == 1 && isThere && rat.Cmp(amount, k.Margin) >= 0 && rat.Sign(k.Margin) >= 0
		})
	})
}

func (s subject) soldsMayBe() []Fault {
	earlier, sold := map[string]int{}, tally{}
	return s.yearly(func(y ast.Year) []int {
		places := breaking(y.Solds, func(x ast.Sold) bool {
			return sold.addUp(x.ID, x.Share) && earlier[x.ID] > 0
		})
		for _, k := range y.Stocks {
			earlier[k.ID]++
		}
		return places
	})
}

// dearest is of each item of goods the greatest amount that a deal tells: where that is less than a margin, all are.
func dearest(deals []ast.Deal) map[string]rat.Rat {
	goods := map[string]rat.Rat{}
	for _, d := range deals {
		if d.Kind != api.Goods {
			continue
		}
		amount, isThere := goods[d.ID]
		if !isThere || rat.Cmp(d.Amount, amount) > 0 {
			goods[d.ID] = d.Amount
		}
	}
	return goods
}
