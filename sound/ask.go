package sound

import (
	"tallage/api"
	"tallage/ast"
	"tallage/rat"
)

// breaking is the places of a row's parts that don't keep a rule, each of which is asked once, in order: so a rule may count what stood ahead.
func breaking[T any](row []T, keeps func(T) bool) []int {
	var places []int
	for at, x := range row {
		if !keeps(x) {
			places = append(places, at)
		}
	}
	return places
}

// unchained is likewise the places where a rule is broken that asks each part about the one ahead of it; one part at least must be there.
func unchained[T any](row []T, first func(T) bool, follows func(ahead, x T) bool) []int {
	if len(row) == 0 {
		return []int{0}
	}
	var places []int
	for at, x := range row {
		if at == 0 && !first(x) || at > 0 && !follows(row[at-1], x) {
			places = append(places, at)
		}
	}
	return places
}

func faultsAt(year int, places ...int) []Fault {
	var l []Fault
	for _, at := range places {
		l = append(l, Fault{Year: year, At: at})
	}
	return l
}

// once is the faults of a rule that is asked of the filing itself.
func (s subject) once(kept bool) []Fault {
	if kept {
		return nil
	}
	return faultsAt(noYear, 0)
}

// yearly is the faults of a rule that tells of a year which places break it. It is asked of the years in order.
func (s subject) yearly(broken func(ast.Year) []int) []Fault {
	var l []Fault
	for i, y := range s.Years {
		l = append(l, faultsAt(i, broken(y)...)...)
	}
	return l
}

func (s subject) isEntity(name string) bool { return s.entities[name] > 0 }

// areTwo tells whether both are entities, and not the same.
func (s subject) areTwo(name, other string) bool {
	return name != other && s.isEntity(name) && s.isEntity(other)
}

func rightArg(c ast.Class) bool {
	switch c.Kind {
	case api.Deferred:
		return rat.Cmp(c.Arg, rat.Whole(1)) >= 0
	case api.Capped:
		return rat.Sign(c.Arg) >= 0
	}
	return true
}

// match tells whether two deals are both sides of one item, but for their ID.
func match(d, other ast.Deal) bool {
	return d.Give != other.Give && d.Kind == other.Kind &&
		d.Payee == other.Payee && d.Payer == other.Payer && rat.Same(d.Amount, other.Amount)
}

// tally adds up shares by names.
type tally map[string]rat.Rat

// addUp adds a share to its name's, and tells whether these are together at most 1.
func (t tally) addUp(name string, share rat.Rat) bool {
	// Of a name that is new there is the zero value, which counts as 0.
	t[name] = rat.Add(t[name], share)
	return rat.Cmp(t[name], rat.Whole(1)) <= 0
}

// web is who holds whom, by names, which need not be entities: each has a place, in the order in which they come.
type web struct {
	places map[string]int
	owned  [][]int
}

// add adds a hold, and tells whether it makes no ring with those ahead.
func (w *web) add(h ast.Hold) bool {
	owner, owned := w.place(h.Owner), w.place(h.Owned)
	isRing := w.reaches(owned, owner)
	w.owned[owner] = append(w.owned[owner], owned)
	return !isRing
}

func (w *web) place(name string) int {
	i, isThere := w.places[name]
	if !isThere {
		i = len(w.owned)
		w.places[name] = i
		w.owned = append(w.owned, nil)
	}
	return i
}

// reaches tells whether it is the same one, or is owned by it, be it through others.
func (w *web) reaches(from, to int) bool {
	if from == to {
		return true
	}
	seen := make([]bool, len(w.owned))
	for todo := []int{from}; len(todo) > 0; {
		owner := todo[len(todo)-1]
		todo = todo[:len(todo)-1]
		for _, i := range w.owned[owner] {
			if i == to {
				return true
			}
			if !seen[i] {
				seen[i] = true
				todo = append(todo, i)
			}
		}
	}
	return false
}
