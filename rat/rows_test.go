package rat_test

import (
	library "math/big"
	"math/rand/v2"
	"slices"
	"testing"

	"tallage/api"
	"tallage/big"
	"tallage/rat"
)

// P4.4

func TestRowsOfNone(t *testing.T) {
	zero, one := new(library.Rat), library.NewRat(1, 1)
	for _, l := range [][]rat.Rat{nil, {}, small()[:0]} {
		check(t, rat.Sum(l...), zero, "Sum")
		check(t, rat.Product(l...), one, "Product")
		for _, x := range append(fractions(), zeros()...) {
			check(t, rat.Min(x, l...), value(x), "Min", value(x))
			check(t, rat.Max(x, l...), value(x), "Max", value(x))
		}
		for _, w := range wrong() {
			check(t, rat.Min(w, l...), zero, "Min", w)
			check(t, rat.Max(w, l...), zero, "Max", w)
		}
	}
}

func TestRowsOfOne(t *testing.T) {
	for _, x := range append(fractions(), zeros()...) {
		check(t, rat.Sum(x), value(x), "Sum", value(x))
		check(t, rat.Product(x), value(x), "Product", value(x))
	}
	for _, w := range wrong() {
		check(t, rat.Sum(w), new(library.Rat), "Sum", w)
		check(t, rat.Product(w), new(library.Rat), "Product", w)
	}
}

// TestRows holds the first ones of a long row, as many as there are, against the library's.
func TestRows(t *testing.T) {
	for _, l := range [][]rat.Rat{small(), long()} {
		sum, product := new(library.Rat), library.NewRat(1, 1)
		least, greatest := value(l[0]), value(l[0])
		for i, x := range l {
			if rat.Sign(x) == 0 {
				// One 0 would make all longer products 0.
				x = rat.Whole(1)
				l[i] = x
			}
			v := value(x)
			sum.Add(sum, v)
			product.Mul(product, v)
			if i == 0 || v.Cmp(least) < 0 {
				least = v
			}
			if i == 0 || v.Cmp(greatest) > 0 {
				greatest = v
			}
			check(t, rat.Sum(l[:i+1]...), sum, "Sum of the first", i+1)
			check(t, rat.Product(l[:i+1]...), product, "Product of the first", i+1)
			check(t, rat.Min(l[0], l[1:i+1]...), least, "Min of the first", i+1)
			check(t, rat.Max(l[0], l[1:i+1]...), greatest, "Max of the first", i+1)
		}
		check(t, rat.Product(append(l, rat.Whole(0))...), new(library.Rat), "Product with 0")
	}
}

// TestRowsWithWrong lays what is not right between others: it counts as 0, in a product and as the least or greatest one, too.
func TestRowsWithWrong(t *testing.T) {
	zero := new(library.Rat)
	for _, w := range wrong() {
		check(t, rat.Sum(of(1, 2), w, of(1, 3), w), library.NewRat(5, 6), "Sum", w)
		check(t, rat.Product(of(1, 2), w, of(1, 3)), zero, "Product", w)
		check(t, rat.Min(of(1, 2), of(1, 3), w), zero, "Min", w)
		check(t, rat.Min(w, of(1, 2), of(1, 3)), zero, "Min", w)
		check(t, rat.Min(w, of(1, 2), of(-1, 3)), library.NewRat(-1, 3), "Min", w)
		check(t, rat.Max(of(-1, 2), w, of(-1, 3)), zero, "Max", w)
		check(t, rat.Max(w, of(-1, 2), of(-1, 3)), zero, "Max", w)
		check(t, rat.Max(w, of(-1, 2), of(1, 3)), library.NewRat(1, 3), "Max", w)
	}
}

// TestRowsOfMany are as long as a year's items may be, and longer.
func TestRowsOfMany(t *testing.T) {
	l := slices.Repeat([]rat.Rat{of(1, 100), of(-2, 3), of(7, 2)}, 1<<15)
	want := new(library.Rat).Mul(library.NewRat(1<<15, 1), library.NewRat(3+1050-200, 300))
	check(t, rat.Sum(l...), want, "Sum", "many")
	check(t, rat.Max(l[1], l...), library.NewRat(7, 2), "Max", "many")
	check(t, rat.Min(l[0], l...), library.NewRat(-2, 3), "Min", "many")
	l = l[:0]
	sum := new(library.Rat)
	for n := range int64(1000) {
		l = append(l, of(n+1, n+2))
		sum.Add(sum, library.NewRat(n+1, n+2))
	}
	check(t, rat.Sum(l...), sum, "Sum", "of unlike numbers below")
	check(t, rat.Product(l...), library.NewRat(1, 1001), "Product", "many")
}

// P4.6

func TestRowsHangOnNoOrder(t *testing.T) {
	r := rand.New(rand.NewPCG(37, 38))
	l := append(long()[:12], small()[:12]...)
	sum, product, least, greatest := rat.Sum(l...), rat.Product(l...), rat.Min(l[0], l...), rat.Max(l[0], l...)
	for range 50 {
		r.Shuffle(len(l), func(i, j int) { l[i], l[j] = l[j], l[i] })
		cut := r.IntN(len(l) + 1)
		if !alike(rat.Sum(l...), sum) || !alike(rat.Add(rat.Sum(l[:cut]...), rat.Sum(l[cut:]...)), sum) {
			t.Fatalf("the sum of %v hangs on its order", l)
		}
		if !alike(rat.Product(l...), product) || !alike(rat.Mul(rat.Product(l[:cut]...), rat.Product(l[cut:]...)), product) {
			t.Fatalf("the product of %v hangs on its order", l)
		}
		if !alike(rat.Min(l[0], l[1:]...), least) || !alike(rat.Max(l[0], l[1:]...), greatest) {
			t.Fatalf("the least or greatest of %v hangs on their order", l)
		}
	}
}

func TestTwoHangOnNoOrder(t *testing.T) {
	pairs(func(a, b rat.Rat) {
		if !alike(rat.Add(a, b), rat.Add(b, a)) || !alike(rat.Mul(a, b), rat.Mul(b, a)) || !alike(rat.Sub(a, b), rat.Neg(rat.Sub(b, a))) {
			t.Fatalf("%v and %v hang on their order", value(a), value(b))
		}
		if !alike(rat.Sum(a, b), rat.Add(a, b)) || !alike(rat.Product(a, b), rat.Mul(a, b)) {
			t.Fatalf("%v and %v: rows answer other fractions than calls of two", value(a), value(b))
		}
	})
}

func TestProductOfSum(t *testing.T) {
	l := fractions()
	n := 0
	pairs(func(a, b rat.Rat) {
		n++
		c := l[(7*n+3)%len(l)]
		if whole, parts := rat.Mul(rat.Add(a, b), c), rat.Add(rat.Mul(a, c), rat.Mul(b, c)); !alike(whole, parts) {
			t.Fatalf("%v and %v, times %v: %v, in parts %v", value(a), value(b), value(c), value(whole), value(parts))
		}
	})
}

func TestTakenAwayAndDivided(t *testing.T) {
	pairs(func(a, b rat.Rat) {
		if back := rat.Sub(rat.Add(a, b), b); !alike(back, a) {
			t.Fatalf("%v and %v, taken away: %v", value(a), value(b), value(back))
		}
		if rat.Sign(b) == 0 {
			return
		}
		if back, e := rat.Div(rat.Mul(a, b), b); !alike(back, a) || e != api.OK {
			t.Fatalf("%v times %v, divided: %v, %d", value(a), value(b), value(back), e)
		}
	})
}

func TestCmpOrdersAll(t *testing.T) {
	l := fractions()
	slices.SortFunc(l, rat.Cmp)
	for i, a := range l {
		for j, b := range l {
			c := rat.Cmp(a, b)
			if c != -rat.Cmp(b, a) || i < j && c > 0 || i > j && c < 0 || i == j && c != 0 {
				t.Fatalf("Cmp(%v, %v): %d, at %d and %d", value(a), value(b), c, i, j)
			}
			if c != rat.Sign(rat.Sub(a, b)) || (c == 0) != rat.Same(a, b) || (c == 0) != alike(a, b) {
				t.Fatalf("Cmp(%v, %v): %d, and their difference tells otherwise", value(a), value(b), c)
			}
		}
	}
}

func tripled(n big.Int) big.Int { return big.Mul(n, big.Of(3)) }

// TestSameNumbers comes to one number by many ways: its Num and Den must be the same, limb by limb.
func TestSameNumbers(t *testing.T) {
	for _, x := range fractions() {
		times, third := rat.Whole(-30), of(1, 3)
		more, _ := rat.New(tripled(x.Num), big.Neg(tripled(x.Den)))
		back, _ := rat.Div(rat.Mul(x, times), times)
		ways := []rat.Rat{rat.Neg(more), back, rat.Sum(x), rat.Product(x), rat.Min(x), rat.Max(x), rat.Neg(rat.Neg(x)),
			rat.Mul(x, rat.Whole(1)), rat.Add(x, rat.Whole(0)), rat.Sub(rat.Add(x, third), third), rat.Sum(rat.Mul(x, third), rat.Mul(x, of(2, 3)))}
		for i, y := range ways {
			if !alike(x, y) {
				t.Fatalf("%v by way %d: %v", x, i, y)
			}
		}
	}
}
