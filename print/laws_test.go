package print_test

import (
	"math/rand/v2"
	"reflect"
	"strings"
	"testing"

	"tallage/api"
	"tallage/ast"
	"tallage/big"
	"tallage/parse"
	"tallage/print"
	"tallage/rat"
)

// P10.4

// parsed is what a text says.
func parsed(t *testing.T, s string) ast.Filing {
	t.Helper()
	f, at, e := parse.Parse(s)
	if at != 0 || e != api.OK {
		t.Fatalf("%q: at %d, error %d", s, at, e)
	}
	return f
}

func TestPrintedAndParsed(t *testing.T) {
	m := maker{rand.New(rand.NewPCG(107, 108))}
	for i := range 500 {
		f := m.filing()
		if i == 0 {
			f = full()
		}
		s, _ := print.Print(f)
		if len(s) <= api.MaxBytes && !ast.Same(parsed(t, s), f) {
			t.Fatalf("%q is not parsed as it was", s)
		}
	}
}

// fractions are all of a value's, which may be set.
func fractions(v reflect.Value) []reflect.Value {
	l := []reflect.Value{}
	switch {
	case v.Type() == reflect.TypeFor[rat.Rat]():
		l = append(l, v)
	case v.Kind() == reflect.Struct:
		for i := range v.NumField() {
			l = append(l, fractions(v.Field(i))...)
		}
	case v.Kind() == reflect.Slice:
		for i := range v.Len() {
			l = append(l, fractions(v.Index(i))...)
		}
	}
	return l
}

// TestEachFraction lays fractions of all sorts in each place of a filing: whatever is printed is parsed as it was.
func TestEachFraction(t *testing.T) {
	f := full()
	printed := map[bool]int{}
	all := append(wrong(), of("0"), of("1"), of("2"), of("40"), of("41"), of("-1"), of("1/2"), of("1/3"), of("-1/8"), of("0.01"), of("0.001"), of("0.000001"), of("0.0000001"), of("1e30"))
	for i, v := range fractions(reflect.ValueOf(&f).Elem()) {
		was := v.Interface()
		for _, x := range all {
			v.Set(reflect.ValueOf(x))
			s, e := print.Print(f)
			printed[e == api.OK]++
			switch {
			case e != api.OK && s != "":
				t.Fatalf("fraction %d, %v: error %d, and %q", i, x, e, s)
			case e == api.OK && !ast.Same(parsed(t, s), f):
				t.Fatalf("fraction %d, %v: %q is not parsed as it was", i, x, s)
			}
		}
		v.Set(reflect.ValueOf(was.(rat.Rat)))
	}
	if printed[true] == 0 || printed[false] == 0 {
		t.Fatal(printed)
	}
}

// TestAlikeTexts: of classes whose lines have no argument, one is printed, for the line can't tell one argument from another one.
func TestAlikeTexts(t *testing.T) {
	zeros := []rat.Rat{of("0"), {Num: big.Int{Mag: []uint32{}}, Den: big.Int{Mag: []uint32{1}}}}
	for kind, word := range classKinds {
		c := ast.Class{Name: "c", Kind: uint8(kind)}
		if c.Kind < api.Income || c.Kind >= api.Denied && c.Kind <= api.Deferred {
			continue
		}
		f := short()
		for _, x := range append(wrong(), of("1"), of("-1"), of("1/2")) {
			c.Arg = x
			f.Classes = []ast.Class{c}
			checkPrint(t, f, "", api.ErrArg)
		}
		for _, x := range zeros {
			c.Arg = x
			f.Classes = []ast.Class{c}
			s := shortText + "class c " + word + "\n"
			checkPrint(t, f, s, api.OK)
			if !ast.Same(parsed(t, s), f) {
				t.Fatalf("%q is not parsed as it was", s)
			}
		}
	}
}

// TestLongestText: a text of just the most bytes is parsed as it was.
func TestLongestText(t *testing.T) {
	f := short()
	f.Years = []ast.Year{{Number: 1}}
	const bytes = len("book a b 0.00\n")
	for room := api.MaxBytes - len(shortText+"year 1\n"); room > 0; {
		b := ast.Book{Entity: "a", Class: "b", Amount: of("0")}
		if room < 2*bytes {
			b.Class = strings.Repeat("b", room-bytes+1)
		}
		f.Years[0].Books = append(f.Years[0].Books, b)
		room -= len("book a  0.00\n") + len(b.Class)
		if len(f.Years[0].Books) == api.MaxItems && room > 0 {
			f.Years = append([]ast.Year{{Number: 1}}, f.Years...)
			room -= len("year 1\n")
		}
	}
	s, e := print.Print(f)
	if len(s) != api.MaxBytes || e != api.OK {
		t.Fatal(len(s), e)
	}
	if !ast.Same(parsed(t, s), f) {
		t.Fatal("the longest text is not parsed as it was")
	}
	f.Years[0].Number = 10
	s, _ = print.Print(f)
	if _, _, e := parse.Parse(s); len(s) != api.MaxBytes+1 || e != api.ErrLimit {
		t.Fatal(len(s), e)
	}
}

// said is the text again, its words written otherwise where they may be, with other blanks, remarks, and lines without words.
func said(r *rand.Rand, s string) string {
	var b strings.Builder
	pick := func(l ...string) { b.WriteString(l[r.IntN(len(l))]) }
	for line := range strings.Lines(s) {
		pick("", "", " ", "\t", "\n", "# all\n")
		for i, w := range strings.Fields(line) {
			if i > 0 {
				pick(" ", "\t", "  ")
			}
			b.WriteString(saidWord(r, w))
		}
		pick("", " ", "#", " # year 5", "\n#a")
		b.WriteByte('\n')
	}
	return b.String()
}

// saidWord writes an amount with less places, or a share with more.
func saidWord(r *rand.Rand, w string) string {
	number, isShare := strings.CutSuffix(w, "%")
	_, places, stop := strings.Cut(number, ".")
	switch {
	case r.IntN(2) == 0:
		return w
	case isShare && !stop:
		return number + "." + strings.Repeat("0", 1+r.IntN(4)) + "%"
	case isShare:
		return number + strings.Repeat("0", r.IntN(5-len(places))) + "%"
	case stop && strings.HasSuffix(w, ".00"):
		return strings.TrimSuffix(w, ".00")
	case stop:
		return strings.TrimSuffix(w, "0")
	}
	return w
}

func TestParsedAndPrinted(t *testing.T) {
	r := rand.New(rand.NewPCG(109, 110))
	m := maker{r}
	for i := range 500 {
		f := m.filing()
		if i == 0 {
			f = full()
		}
		s, _ := print.Print(f)
		other := said(r, s)
		if len(s) > api.MaxBytes || len(other) > api.MaxBytes {
			continue
		}
		g := parsed(t, other)
		again, e := print.Print(g)
		if again != s || e != api.OK {
			t.Fatalf("error %d: two texts that say the same: %q and %q", e, s, again)
		}
		h := parsed(t, again)
		if last, _ := print.Print(h); !ast.Same(g, h) || last != again {
			t.Fatalf("%q, printed again: %q", again, last)
		}
	}
}
