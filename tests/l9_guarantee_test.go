package tests

import (
	"math"
	"math/rand"
	"slices"
	"strings"
	"testing"

	"loop.example/gradual/impl"
)

// Promise 9: If a term yields a value, a term with less precise types yields the
// same one, unless its evaluation reaches a limit.

const (
	none    = impl.CompareNone
	same    = impl.CompareSame
	earlier = impl.CompareEarlier
	open    = impl.CompareOpen
	large   = impl.StepLarge
	much    = impl.StepMuch
)

// compared returns CompareRuns by the table of the document.
func compared(a, b impl.Term, fuel int) int {
	_, typed := impl.TypeOf(a)
	text, code, _ := impl.RunTerm(a, fuel)
	textToo, codeToo, _ := impl.RunTerm(b, fuel)
	switch {
	case !typed || !impl.TermPrecise(a, b) || fuel < 0 || fuel > 300:
		return impl.CompareNone
	case code == blamed:
		return impl.CompareEarlier
	case code != valued || codeToo == large || codeToo == much:
		return impl.CompareOpen
	case codeToo == valued && text == textToo:
		return impl.CompareSame
	}
	return impl.CompareWrong
}

// expectNoGuarantee checks the functions of the chapter for a term that is not valid.
func expectNoGuarantee(t *testing.T, what string, bad impl.Term) {
	t.Helper()
	for _, args := range [][2]impl.Term{{bad, bad}, {bad, num(1)}, {num(1), bad}} {
		for _, fuel := range []int{-1, 0, 300, 301} {
			if got := impl.CompareRuns(args[0], args[1], fuel); got != none {
				t.Errorf("%s: CompareRuns with the fuel %d = %d", what, fuel, got)
			}
		}
	}
	if count := impl.CountSlots(bad); count != 0 {
		t.Errorf("%s: CountSlots = %d", what, count)
	}
	for _, mask := range []int{math.MinInt, -1, 0, 1, 2, 3, math.MaxInt} {
		if e, ok := impl.BlurTerm(bad, mask); ok || !isZeroTerm(e) {
			t.Errorf("%s: BlurTerm with the mask %d = %v, %v", what, mask, e, ok)
		}
	}
	if e, ok := impl.EmbedTerm(bad); ok || !isZeroTerm(e) {
		t.Errorf("%s: EmbedTerm = %v, %v", what, e, ok)
	}
	if e, ok := impl.WrapTerm(bad); ok || !isZeroTerm(e) {
		t.Errorf("%s: WrapTerm = %v, %v", what, e, ok)
	}
}

// expectComparison checks CompareRuns, and that it is what the document's table says.
func expectComparison(t *testing.T, a, b impl.Term, fuel, want int) {
	t.Helper()
	if got := impl.CompareRuns(a, b, fuel); got != want || compared(a, b, fuel) != want {
		t.Errorf("CompareRuns(%s, %s, %d) = %d, not %d, and by the table %d", textOf(a), textOf(b), fuel, got, want, compared(a, b, fuel))
	}
}

func TestGuaranteeExample(t *testing.T) {
	a, b := "(!x:I.(x+1) 2)", "(!x:?.(x+1) 2)"
	expectRun(t, a, "3", valued, 0)
	expectRun(t, b, "3", valued, 0)
	expectComparison(t, parseTerm(t, a), parseTerm(t, b), 100, same)
}

func TestGuaranteeConstants(t *testing.T) {
	got := []int{impl.CompareNone, impl.CompareSame, impl.CompareEarlier, impl.CompareOpen, impl.CompareWrong}
	if !slices.Equal(got, []int{0, 1, 2, 3, 4}) {
		t.Errorf("the constants are %v", got)
	}
}

// Functions that call themselves through casts, with types that keep the casts from being nested, and without them.
const (
	callsFlat   = "(!f:?.((f f) 3) !s:(?>(I>B)).!n:I.{(n<1)?T:((s s) (n+999))})"
	callsNested = "(!f:?.((f f) 3) !s:(?>(I>?)).!n:I.{(n<1)?T:((s s) (n+999))})"
)

// Each row of the table, and terms to which several rows apply. The codes are those of the two evaluations.
func TestRowsOfComparisons(t *testing.T) {
	loop := "(!x:?.(x x) !x:?.(x x))"
	grows := "(!x:?.[(x x),1] !x:?.[(x x),1])"
	for _, c := range []struct {
		a, b          string
		fuel          int
		code, codeToo int
		want          int
	}{
		// No type, no precision, or both, whatever the evaluations come to.
		{"(1 2)", "(1 2)", 100, stuck, stuck, none},
		{"x", "x", 100, stuck, stuck, none},
		{"(!x:I.(x+1) T)", "(!x:?.(x+1) T)", 100, stuck, blamed, none},
		{"(!x:B.x 2)", "(!x:?.x 2)", 100, stuck, valued, none},
		{"(!f:(I>I).f !x:B.x)", "(!f:(I>I).f !x:?.x)", 100, stuck, valued, none},
		{"(!x:I.(x x) 1)", "(!x:?.(x x) 1)", 0, stuck, much, none},
		{"(!x:?.x 2)", "(!x:I.x 2)", 100, valued, valued, none},
		{"(!x:?.(x+1) T)", "(!x:I.(x+1) T)", 100, blamed, stuck, none},
		{"(!x:?.(x+1) 2)", "(!x:B.(x+1) 2)", 100, valued, stuck, none},
		{"(!x:?.x 2)", "(!x:B.x 2)", 0, much, stuck, none},
		{"((1:?):B)", "((1:?):I)", 100, blamed, valued, none},
		{"1", "2", 100, valued, valued, none},
		{"1", "T", 100, valued, valued, none},
		{"!x:I.x", "!y:?.y", 100, valued, valued, none},
		{"[1,2]", "[2,1]", 100, valued, valued, none},
		{"(1:I)", "1", 100, valued, valued, none},
		{"1", "(1:?)", 100, valued, valued, none},
		{"(1 2)", "(1 3)", 100, stuck, stuck, none},
		{"1", "x", 100, valued, stuck, none},
		{loop, "(!x:?.(x x) !y:?.(y y))", 100, much, much, none},
		// The first term fails, and the second one fails, yields a value or reaches a limit.
		{"(!x:?.(x+1) T)", "(!x:?.(x+1) T)", 100, blamed, blamed, earlier},
		{"((T:?):I)", "((T:?):?)", 100, blamed, valued, earlier},
		{"(!x:B.x (1:?))", "(!x:?.x (1:?))", 100, blamed, valued, earlier},
		{"(((!x:I.x:?):(B>I)) T)", "(((!x:?.x:?):(B>?)) T)", 100, blamed, valued, earlier},
		{"[((1:?):B)," + loop + "]", "[((1:?):?)," + loop + "]", 100, blamed, much, earlier},
		{"[((1:?):B)," + grows + "]", "[((1:?):?)," + grows + "]", 300, blamed, large, earlier},
		{"[((1:?):B),(1+1)]", "[((1:?):?),(1+1)]", 0, blamed, much, earlier},
		// The first term reaches a limit, and the second one does, too, or yields a value, or fails.
		{loop, loop, 100, much, much, open},
		{loop, loop, 300, much, much, open},
		{grows, grows, 300, large, large, open},
		{"(1+1)", "(1+1)", 0, much, much, open},
		{"((1:?):I)", "((1:?):?)", 0, much, valued, open},
		{"[((1:?):I),((T:?):I)]", "[((1:?):?),((T:?):I)]", 0, much, blamed, open},
		{"(!f:?.((f f) 4) !s:?.!n:?.{(n<1)?T:((((s s) (n+999)):B):?)})", "(!f:?.((f f) 4) !s:?.!n:?.{(n<1)?T:((((s s) (n+999)):?):?)})", 300, large, valued, open},
		{"(!f:?.((f f) 27) !s:?.!n:I.{(n<1)?(T:?):((((s s) (n+999)):B):?)})", "(!f:?.((f f) 27) !s:?.!n:?.{(n<1)?(T:?):((((s s) (n+999)):?):?)})", 300, large, much, open},
		// The first term yields a value, and the second one reaches a limit.
		{callsFlat, callsNested, 300, valued, large, open},
		{"(!x:I.(x+1) 2)", "(!x:?.(x+1) 2)", 2, valued, much, open},
		{"(1:I)", "(1:?)", 0, valued, valued, same},
		{"((1:I):I)", "((1:?):I)", 0, valued, much, open},
		{"((!x:I.x:(I>I)) 1)", "((!x:I.x:?) 1)", 1, valued, much, open},
		// Both yield the same value.
		{"7", "7", 0, valued, valued, same},
		{"T", "T", 300, valued, valued, same},
		{"((T:B):B)", "((T:?):?)", 100, valued, valued, same},
		{"(!x:I.(x<3) 3)", "(!x:?.(x<3) 3)", 100, valued, valued, same},
		{"((1:?):I)", "((1:?):?)", 100, valued, valued, same},
		{"(([1,T]:(I*B)):(I*B))", "(([1,T]:?):(?*B))", 100, valued, valued, same},
		{"%(([1,T]:(I*B)):(I*B))", "%(([1,T]:?):(?*B))", 100, valued, valued, same},
		{"[1,(2:I)]", "[1,(2:?)]", 100, valued, valued, same},
	} {
		a, b := parseTerm(t, c.a), parseTerm(t, c.b)
		_, code, _ := impl.RunTerm(a, c.fuel)
		_, codeToo, _ := impl.RunTerm(b, c.fuel)
		if code != c.code || codeToo != c.codeToo {
			t.Errorf("the codes of %s and %s are %d and %d", c.a, c.b, code, codeToo)
		}
		expectComparison(t, a, b, c.fuel, c.want)
	}
}

// A result that is a function: what it would return does not matter.
func TestComparisonsOfFunctions(t *testing.T) {
	for _, c := range [][2]string{
		{"!x:I.x", "!x:I.x"},
		{"!x:I.x", "!x:?.x"},
		{"!x:I.((x:?):B)", "!x:?.((x:?):?)"},
		{"!x:(I>(B*I)).$(x 1)", "!x:(?>(?*I)).$(x 1)"},
		{"!x:(I>(B*I)).$(x 1)", "!x:?.$(x 1)"},
		{"(!x:I.x:(I>I))", "(!x:?.x:?)"},
		{"((!x:I.x:(I>I)):(I>I))", "((!x:I.x:?):(I>?))"},
		{"((!x:I.x:?):(B>I))", "((!x:I.x:?):(?>?))"},
		{"((!x:I.x:?):(B>I))", "((!x:?.x:?):?)"},
		{"(!f:(I>I).f !x:I.(x+1))", "(!f:?.f !x:?.(x+1))"},
		{"(!f:(I>I).!x:I.(f (f x)) !x:I.(x+1))", "(!f:?.!x:?.(f (f x)) !x:I.(x+1))"},
		{"$([!x:I.x,1]:((I>I)*I))", "$([!x:I.x,1]:?)"},
	} {
		for _, text := range c {
			if got, code, _ := impl.RunTerm(parseTerm(t, text), 300); got != "function" || code != valued {
				t.Errorf("%s yields %q, with the code %d", text, got, code)
			}
		}
		expectComparison(t, parseTerm(t, c[0]), parseTerm(t, c[1]), 300, same)
	}
}

// Terms that fail with some types, and not with less precise ones.
func TestTermsThatFailOnlyWithMorePreciseTypes(t *testing.T) {
	for _, c := range []struct{ a, b, want string }{
		{"((T:?):I)", "((T:?):?)", "T"},
		{"(!x:B.x (1:?))", "(!x:?.x (1:?))", "1"},
		{"(((!x:I.5:?):(B>I)) T)", "(((!x:?.5:?):(B>I)) T)", "5"},
		{"(((!x:I.5:?):(B>I)) T)", "(((!x:?.5:?):(?>?)) T)", "5"},
		{"(!f:(I>B).(f 1) !x:?.x)", "(!f:(I>?).(f 1) !x:?.x)", "1"},
		{"{((T:?):B)?((1:?):B):(F:B)}", "{((T:?):B)?((1:?):?):(F:B)}", ""},
		{"{((T:?):B)?((1:?):B):(F:B)}", "{((T:?):B)?((1:?):?):(F:?)}", "1"},
		{"(([1,T]:?):(I>I))", "(([1,T]:?):?)", "pair"},
		{"$(([1,T]:?):(B*B))", "$(([1,T]:?):(?*B))", "1"},
	} {
		a, b := parseTerm(t, c.a), parseTerm(t, c.b)
		if _, code, _ := impl.RunTerm(a, 300); code != blamed {
			t.Errorf("%s: the code is %d", c.a, code)
		}
		if got, code, _ := impl.RunTerm(b, 300); got != c.want || code != valued && c.want != "" {
			t.Errorf("%s: %q, and the code %d", c.b, got, code)
		}
		expectComparison(t, a, b, 300, earlier)
		expectComparison(t, b, b, 300, map[bool]int{true: earlier, false: same}[c.want == ""])
	}
}

// A second term that needs more fuel than the first one, or less.
func TestComparisonsWithLittleFuel(t *testing.T) {
	for _, c := range []struct {
		a, b           string
		steps, stepsTo int // of the two terms, until a value
	}{
		{"(!x:I.(x+1) 2)", "(!x:?.(x+1) 2)", 2, 3},
		{"(!x:I.x 2)", "(!x:?.x 2)", 1, 1},
		{"((1:?):I)", "((1:?):?)", 1, 0},
		{"((1:I):I)", "((1:?):I)", 0, 1},
		{"(!f:(I>I).(f (f 1)) !x:I.(x+1))", "(!f:?.(f (f 1)) !x:I.(x+1))", 5, 12},
	} {
		a, b := parseTerm(t, c.a), parseTerm(t, c.b)
		for fuel := range 301 {
			want := same
			if fuel < max(c.steps, c.stepsTo) {
				want = open
			}
			expectComparison(t, a, b, fuel, want)
		}
		for _, fuel := range []int{c.steps, c.stepsTo} {
			_, code, _ := impl.RunTerm(a, fuel)
			_, codeToo, _ := impl.RunTerm(b, fuel)
			if (code == valued) != (fuel >= c.steps) || (codeToo == valued) != (fuel >= c.stepsTo) {
				t.Errorf("%s, %s: the codes with the fuel %d are %d and %d", c.a, c.b, fuel, code, codeToo)
			}
		}
	}
	// Failures count as soon as there is fuel for them.
	failing, failed := parseTerm(t, "(!x:?.(x+1) T)"), parseTerm(t, "((1:?):B)")
	for fuel := range 301 {
		want := earlier
		if fuel < 1 {
			want = open
		}
		expectComparison(t, failing, failing, fuel, want)
		expectComparison(t, failed, failed, fuel, earlier)
	}
}

func TestComparisonsWithFuelOutOfRange(t *testing.T) {
	for _, fuel := range []int{-1, -2, -300, 301, 302, 1000, math.MinInt, math.MaxInt, 1 << 32, -1 << 32, 1<<32 + 100} {
		for _, c := range [][2]string{
			{"7", "7"}, {"(!x:I.(x+1) 2)", "(!x:?.(x+1) 2)"}, {"((T:?):I)", "((T:?):?)"}, {"((1:?):B)", "((1:?):B)"},
			{"(!x:?.(x x) !x:?.(x x))", "(!x:?.(x x) !x:?.(x x))"}, {"(1 2)", "(1 2)"}, {"1", "2"}, {callsFlat, callsNested},
		} {
			expectComparison(t, parseTerm(t, c[0]), parseTerm(t, c[1]), fuel, none)
		}
	}
	for _, fuel := range []int{0, 300} {
		expectComparison(t, num(7), num(7), fuel, same)
	}
}

// lessPrecise returns e with less precise types, where random numbers choose.
func lessPrecise(r *rand.Rand, e impl.Term) impl.Term {
	list := impl.TermTypes(e)
	for i := range list {
		list[i] = blurred(r, list[i])
	}
	less, _ := impl.WithTypes(e, list)
	return less
}

// expectGuarantee checks the promise for a term and one with less precise types,
// whose comparison it returns.
func expectGuarantee(t *testing.T, a, b impl.Term, fuel int) int {
	t.Helper()
	text, code, _ := impl.RunTerm(a, fuel)
	textToo, codeToo, _ := impl.RunTerm(b, fuel)
	limited := codeToo == large || codeToo == much
	if code == valued && !limited && (codeToo != valued || text != textToo) {
		t.Fatalf("%s yields %q, but %s comes to %q and the code %d", textOf(a), text, textOf(b), textToo, codeToo)
	}
	got := impl.CompareRuns(a, b, fuel)
	if got != compared(a, b, fuel) || got == impl.CompareWrong || got == impl.CompareNone {
		t.Fatalf("CompareRuns(%s, %s, %d) = %d", textOf(a), textOf(b), fuel, got)
	}
	return got
}

func TestGuaranteeForManyTerms(t *testing.T) {
	r := rand.New(rand.NewSource(50))
	count, values, fixed := map[int]int{}, map[string]int{}, 0
	terms := runnableTerms()
	for i, e := range closedCases(t) {
		if _, ok := impl.TypeOf(e); ok && i%4 == 0 {
			terms = append(terms, e)
		}
	}
	for i, e := range terms {
		if i%3 == 0 {
			continue
		}
		less := lessPrecise(r, e)
		even, _ := impl.EraseTerm(e)
		if i%3 == 1 {
			even = lessPrecise(r, less)
		}
		text, _, _ := impl.RunTerm(e, 300)
		values[text]++
		for _, pair := range [][2]impl.Term{{e, less}, {less, even}, {e, even}} {
			got := expectGuarantee(t, pair[0], pair[1], 300)
			count[got]++
			if _, code, _ := impl.RunTerm(pair[1], 300); got == earlier && code == valued {
				fixed++
			}
		}
		count[expectGuarantee(t, e, e, 300)]++
		count[expectGuarantee(t, e, even, r.Intn(15))]++
		if back := impl.CompareRuns(less, e, 300); !impl.TermSame(less, e) && back != none {
			t.Fatalf("CompareRuns(%s, %s) = %d", textOf(less), textOf(e), back)
		}
	}
	if count[same] < 5000 || count[earlier] < 3000 || count[open] < 500 || fixed < 500 {
		t.Errorf("results %v, and %d terms fail only with more precise types", count, fixed)
	}
	for _, text := range []string{"function", "pair", "T", "F", "1"} {
		if values[text] < 5 {
			t.Errorf("%d terms yield %s", values[text], text)
		}
	}
}

// All terms with some of the types of a term, two of which are compared if one has all types of the other.
func TestGuaranteeForAllMasks(t *testing.T) {
	count := map[int]int{}
	for i, e := range runnableTerms() {
		slots := impl.CountSlots(e)
		if slots < 2 || slots > 4 || i%8 != 0 {
			continue
		}
		for fewer := range 1 << slots {
			b, _ := impl.BlurTerm(e, fewer)
			for more := range 1 << slots {
				if a, _ := impl.BlurTerm(e, more); more&fewer == more {
					count[expectGuarantee(t, a, b, 300)]++
				}
			}
		}
	}
	if count[same] < 1000 || count[earlier] < 1000 {
		t.Errorf("results %v", count)
	}
}

// Terms that reach limits, with all amounts of fuel that matter.
func TestGuaranteeOfLongRuns(t *testing.T) {
	r := rand.New(rand.NewSource(51))
	texts := append(callsItself(3), callsItself(9)...)
	texts = append(texts, callsFlat, callsNested, "(!x:?.(x x) !x:?.(x x))", "(!x:(?>?).(x x) (!x:?.(x x):(?>(I>I))))",
		"((!t:?.((t t) !n:I.(n+1)) !f:?.!x:?.(f (f x))) 7)", "(((!t:?.(t t) !f:?.!x:?.(f (f x))) !n:B.n) 7)")
	count := map[int]int{}
	for _, text := range texts {
		e := parseTerm(t, text)
		for _, fuel := range []int{0, 1, 10, 20, 30, 40, 50, 60, 80, 100, 200, 300} {
			less := lessPrecise(r, e)
			erased, _ := impl.EraseTerm(e)
			for _, pair := range [][2]impl.Term{{e, e}, {e, less}, {less, erased}} {
				count[expectGuarantee(t, pair[0], pair[1], fuel)]++
			}
		}
	}
	if count[same] < 50 || count[open] < 200 || count[earlier] < 5 {
		t.Errorf("results %v", count)
	}
}

func TestEmbedding(t *testing.T) {
	for text, want := range map[string]string{
		// Each kind of node.
		"x":             "x",
		"7":             "(7:?)",
		"T":             "(T:?)",
		"F":             "(F:?)",
		"!x:I.x":        "(!x:?.x:?)",
		"!x:?.y":        "(!x:?.y:?)",
		"!x:(I>B).1":    "(!x:?.(1:?):?)",
		"(x y)":         "(x y)",
		"(1 2)":         "((1:?) (2:?))",
		"(x+y)":         "((x+y):?)",
		"(1+T)":         "(((1:?)+(T:?)):?)",
		"(x<y)":         "((x<y):?)",
		"(x<1)":         "((x<(1:?)):?)",
		"{x?y:z}":       "{x?y:z}",
		"{T?1:F}":       "{(T:?)?(1:?):(F:?)}",
		"[x,y]":         "([x,y]:?)",
		"[1,[x,2]]":     "([(1:?),([x,(2:?)]:?)]:?)",
		"$x":            "$x",
		"%x":            "%x",
		"$[1,x]":        "$([(1:?),x]:?)",
		"%$%1":          "%$%(1:?)",
		"((x y) (y x))": "((x y) (y x))",
		// Ascriptions at the top, inside others, and in other nodes.
		"(x:I)":                       "x",
		"(x:?)":                       "x",
		"(1:?)":                       "(1:?)",
		"(1:I)":                       "(1:?)",
		"((1:I):?)":                   "(1:?)",
		"(((x:?):(I>I)):?)":           "x",
		"(((1:?):(I>I)):B)":           "(1:?)",
		"((x y):I)":                   "(x y)",
		"({x?y:z}:I)":                 "{x?y:z}",
		"($x:I)":                      "$x",
		"(!x:I.(x:B):(I>B))":          "(!x:?.x:?)",
		"((x:?)+(y:I))":               "((x+y):?)",
		"(((x:?)+(y:I)):B)":           "((x+y):?)",
		"((f:(I>I)) (1:I))":           "(f (1:?))",
		"{((T:?):B)?(x:I):(1:I)}":     "{(T:?)?x:(1:?)}",
		"$([(1:?),(x:B)]:(I*B))":      "$([(1:?),x]:?)",
		"[(%(x:?):?),!y:(?*?).(y:?)]": "([%x,(!y:?.y:?)]:?)",
		// The example of the given tests, and one of the document.
		"(!x:I.{(x<1)?x:(2:I)} 3)": "((!x:?.{((x<(1:?)):?)?x:(2:?)}:?) (3:?))",
		"(!x:?.(x+1) T)":           "((!x:?.((x+(1:?)):?):?) (T:?))",
	} {
		e, ok := impl.EmbedTerm(parseTerm(t, text))
		if !ok || impl.FormatTerm(e) != want {
			t.Errorf("EmbedTerm(%s) = %s, %v", text, impl.FormatTerm(e), ok)
		}
	}
}

// embedded returns the embedding of a term by the document, of any size.
func embedded(e impl.Term) impl.Term {
	if e.Kind == impl.TermAs {
		return embedded(e.Kids[0])
	}
	e.Kids = slices.Clone(e.Kids)
	for i := range e.Kids {
		e.Kids[i] = embedded(e.Kids[i])
	}
	switch e.Kind {
	case impl.TermVar, impl.TermApp, impl.TermIf, impl.TermFst, impl.TermSnd:
		return e
	case impl.TermLam:
		e.Type = anyType
	}
	return as(e, anyType)
}

// expectEmbedding compares EmbedTerm with the document, and reports whether the result is valid.
func expectEmbedding(t *testing.T, e impl.Term) bool {
	t.Helper()
	want := embedded(e)
	got, ok := impl.EmbedTerm(e)
	if fits := nodes(want) <= 30 && depthOf(want) <= 12; ok != fits {
		t.Fatalf("EmbedTerm(%s) = %v, with %d nodes and a depth of %d", textOf(e), ok, nodes(want), depthOf(want))
	}
	if ok && !impl.TermSame(got, want) || !ok && !isZeroTerm(got) {
		t.Fatalf("EmbedTerm(%s) = %s, %v", textOf(e), textOf(got), ok)
	}
	return ok
}

func TestEmbeddingsThatAreNoLongerValid(t *testing.T) {
	// applied returns a term without ascriptions, of numbers and variables that are applied.
	applied := func(numbers, variables int) impl.Term {
		leaves := slices.Concat(slices.Repeat([]impl.Term{num(1)}, numbers), slices.Repeat([]impl.Term{name("x")}, variables))
		for len(leaves) > 1 {
			leaves = append(leaves[2:], node(impl.TermApp, leaves[0], leaves[1]))
		}
		return leaves[0]
	}
	// nested returns functions in one another, within selections.
	nested := func(selections, functions int) impl.Term {
		e := name("x")
		for range functions {
			e = lam("x", intType, e)
		}
		for range selections {
			e = node(impl.TermFst, e)
		}
		return e
	}
	inAs := func(e impl.Term, times int) impl.Term {
		for range times {
			e = as(e, intType)
		}
		return e
	}
	for _, c := range []struct {
		what string
		e    impl.Term
		ok   bool
	}{
		{"29 nodes", applied(10, 0), true},
		{"30 nodes", applied(9, 2), true},
		{"31 nodes", applied(10, 1), false},
		{"32 nodes", applied(11, 0), false},
		{"29 nodes of variables", applied(0, 15), true},
		{"44 nodes of 29", applied(15, 0), false},
		{"a depth of 12", nested(1, 5), true},
		{"a depth of 13", nested(2, 5), false},
		{"a depth of 13 without selections", nested(0, 6), false},
		{"a depth of 12 without anything to ascribe", nested(11, 0), true},
		{"a number at the greatest depth", deepTerm(impl.TermFst, 0, 12), false},
		{"a number just above it", deepTerm(impl.TermFst, 0, 11), true},
		{"the depth of pairs", deepTerm(impl.TermPair, 1, 7), false},
		{"the depth of fewer pairs", deepTerm(impl.TermPair, 1, 6), true},
		{"an If at the greatest depth", node(impl.TermIf, name("x"), name("x"), deepTerm(impl.TermSnd, 0, 11)), false},
		{"ascriptions that vanish", inAs(num(1), 11), true},
		{"ascriptions that vanish, in a function", lam("x", intType, inAs(name("x"), 10)), true},
		{"ascriptions and functions", inAs(nested(0, 6), 5), false},
		{"30 nodes, some of them ascriptions", node(impl.TermIf, inAs(num(1), 10), inAs(num(1), 10), inAs(num(1), 6)), true},
	} {
		if !impl.TermValid(c.e) {
			t.Fatalf("%s: the term is not valid", c.what)
		}
		if ok := expectEmbedding(t, c.e); ok != c.ok {
			t.Errorf("%s: EmbedTerm = %v", c.what, ok)
		}
	}
}

func TestEmbeddingOfManyTerms(t *testing.T) {
	fits, over := 0, 0
	for _, e := range append(mixedTerms(), runnableTerms()...) {
		if !expectEmbedding(t, e) {
			over++
			continue
		}
		fits++
		got, _ := impl.EmbedTerm(e)
		bare, _ := impl.BareTerm(e)
		erased, _ := impl.EraseTerm(e)
		for _, other := range []impl.Term{got, bare, erased} {
			if again, ok := impl.EmbedTerm(other); !ok || !impl.TermSame(again, got) {
				t.Fatalf("the embeddings of %s and of %s are %s and %s", textOf(e), textOf(other), textOf(got), textOf(again))
			}
		}
		if back, ok := impl.BareTerm(got); !ok || !impl.TermSame(back, bare) {
			t.Fatalf("EmbedTerm(%s) = %s, which is bare %s", textOf(e), textOf(got), textOf(back))
		}
		if impl.FreeNames(e) != "" {
			continue
		}
		if x, ok := impl.TypeOf(got); !ok || !impl.TypeSame(x, anyType) {
			t.Fatalf("EmbedTerm(%s) = %s, of the type %s, %v", textOf(e), textOf(got), impl.FormatType(x), ok)
		}
	}
	if fits < 1000 || over < 500 {
		t.Errorf("%d embeddings are valid, and %d are not", fits, over)
	}
}

// An embedding behaves as the term does without types: it yields the value that the term yields with them.
func TestEmbeddingsYieldTheSameValues(t *testing.T) {
	values, failures := 0, 0
	for _, e := range runnableTerms() {
		embedding, ok := impl.EmbedTerm(e)
		if !ok {
			continue
		}
		text, code, _ := impl.RunTerm(e, 300)
		textToo, codeToo, _ := impl.RunTerm(embedding, 300)
		if code == valued && codeToo != large && codeToo != much {
			values++
			if codeToo != valued || text != textToo {
				t.Fatalf("%s yields %s, but %s comes to %q and the code %d", textOf(e), text, textOf(embedding), textToo, codeToo)
			}
		}
		if code == blamed && codeToo == blamed {
			failures++
		}
	}
	if values < 500 || failures < 50 {
		t.Errorf("only %d terms yield a value, and %d fail", values, failures)
	}
	for text, code := range map[string]int{"(1 2)": blamed, "(T+1)": blamed, "{1?2:3}": blamed, "$1": blamed, "(!x:B.x 1)": valued, "$[1,(2 3)]": blamed, "{T?1:(2 3)}": valued} {
		e := parseTerm(t, text)
		if _, ok := impl.TypeOf(e); ok {
			t.Errorf("%s has a type", text)
		}
		embedding, _ := impl.EmbedTerm(e)
		if _, got, _ := impl.RunTerm(embedding, 300); got != code {
			t.Errorf("the embedding of %s comes to the code %d", text, got)
		}
	}
}

func TestBlur(t *testing.T) {
	for _, c := range []struct {
		text string
		mask int
		want string
	}{
		// No bit, a single bit, and all bits.
		{"(!x:(I>I).(x 1):(I>?))", 0, "(!x:(I>I).(x 1):(I>?))"},
		{"(!x:(I>I).(x 1):(I>?))", 1, "(!x:(I>I).(x 1):?)"},
		{"(!x:(I>I).(x 1):(I>?))", 2, "(!x:?.(x 1):(I>?))"},
		{"(!x:(I>I).(x 1):(I>?))", 3, "(!x:?.(x 1):?)"},
		{"!x:I.!y:B.(x:(I*I))", 0, "!x:I.!y:B.(x:(I*I))"},
		{"!x:I.!y:B.(x:(I*I))", 1, "!x:?.!y:B.(x:(I*I))"},
		{"!x:I.!y:B.(x:(I*I))", 2, "!x:I.!y:?.(x:(I*I))"},
		{"!x:I.!y:B.(x:(I*I))", 4, "!x:I.!y:B.(x:?)"},
		{"!x:I.!y:B.(x:(I*I))", 5, "!x:?.!y:B.(x:?)"},
		{"!x:I.!y:B.(x:(I*I))", 6, "!x:I.!y:?.(x:?)"},
		{"!x:I.!y:B.(x:(I*I))", 7, "!x:?.!y:?.(x:?)"},
		// Types that are unknown already.
		{"!x:?.!y:B.(x:?)", 1, "!x:?.!y:B.(x:?)"},
		{"!x:?.!y:B.(x:?)", 5, "!x:?.!y:B.(x:?)"},
		{"!x:?.!y:B.(x:?)", 2, "!x:?.!y:?.(x:?)"},
		// Operands from left to right.
		{"{(T:B)?(1:I):((2:I) (3:B))}", 9, "{(T:?)?(1:I):((2:I) (3:?))}"},
		{"{(T:B)?(1:I):((2:I) (3:B))}", 6, "{(T:B)?(1:?):((2:?) (3:B))}"},
		// A term without types, and one without a type.
		{"1", 0, "1"},
		{"(x y)", 0, "(x y)"},
		{"((1:I) (T:B))", 2, "((1:I) (T:?))"},
	} {
		e, ok := impl.BlurTerm(parseTerm(t, c.text), c.mask)
		if !ok || impl.FormatTerm(e) != c.want {
			t.Errorf("BlurTerm(%s, %d) = %s, %v", c.text, c.mask, impl.FormatTerm(e), ok)
		}
	}
}

// manySlots returns a valid term with as many types as one can have.
func manySlots(t *testing.T) impl.Term {
	t.Helper()
	chain := func(count int) impl.Term {
		e := num(1)
		for range count {
			e = as(e, boolType)
		}
		return e
	}
	e := node(impl.TermIf, chain(10), chain(10), chain(6))
	if !impl.TermValid(e) || impl.CountSlots(e) != 26 {
		t.Fatalf("CountSlots(%s) = %d", textOf(e), impl.CountSlots(e))
	}
	return e
}

func TestMasksThatDoNotFit(t *testing.T) {
	for text, slots := range map[string]int{"1": 0, "(x y)": 0, "!x:I.x": 1, "!x:?.x": 1, "!x:I.(x:B)": 2, "((1:I)+((2:?) (T:B)))": 3, textOf(manySlots(t)): 26} {
		e := parseTerm(t, text)
		all := 1<<slots - 1
		if got, ok := impl.BlurTerm(e, all); !ok || strings.ContainsAny(impl.FormatTerm(got), "IB") {
			t.Errorf("BlurTerm(%s, %d) = %s, %v", text, all, textOf(got), ok)
		}
		masks := []int{-1, -2, -3, -all, -all - 1, -all - 2, math.MinInt, math.MinInt + 1, all + 1, all + 2, 2*all + 1, 2*all + 2, 1 << 26, 1 << 30, 1 << 32, 1 << 62, -1 << 32, 1<<32 + 1, math.MaxInt, math.MaxInt - 1}
		for _, mask := range masks {
			if got, ok := impl.BlurTerm(e, mask); (ok || !isZeroTerm(got)) && mask != 0 {
				t.Errorf("BlurTerm(%s, %d) = %s, %v", text, mask, textOf(got), ok)
			}
		}
	}
}

// expectBlur compares BlurTerm with the document.
func expectBlur(t *testing.T, e impl.Term, mask int) impl.Term {
	t.Helper()
	list, rest := impl.TermTypes(e), mask
	for i := range list {
		if rest%2 == 1 {
			list[i] = anyType
		}
		rest /= 2
	}
	want, _ := impl.WithTypes(e, list)
	got, ok := impl.BlurTerm(e, mask)
	if !ok || !impl.TermSame(got, want) {
		t.Fatalf("BlurTerm(%s, %d) = %s, %v", textOf(e), mask, textOf(got), ok)
	}
	return got
}

func TestBlurOfManyTerms(t *testing.T) {
	r := rand.New(rand.NewSource(52))
	many := 0
	for _, e := range append(mixedTerms(), manySlots(t)) {
		slots := impl.CountSlots(e)
		if slots != countTypes(e) {
			t.Fatalf("CountSlots(%s) = %d", textOf(e), slots)
		}
		if slots >= 5 {
			many++
		}
		all := 1 << slots
		if whole := expectBlur(t, e, 0); !impl.TermSame(whole, e) {
			t.Fatalf("BlurTerm(%s, 0) = %s", textOf(e), textOf(whole))
		}
		erased, _ := impl.EraseTerm(e)
		if without := expectBlur(t, e, all-1); !impl.TermSame(without, erased) {
			t.Fatalf("BlurTerm(%s, %d) = %s", textOf(e), all-1, textOf(without))
		}
		for slot := range slots {
			expectBlur(t, e, 1<<slot)
			expectBlur(t, e, all-1-1<<slot)
		}
		for range 3 {
			first, second := r.Intn(all), r.Intn(all)
			once := expectBlur(t, e, first)
			if twice := expectBlur(t, once, second); !impl.TermSame(twice, expectBlur(t, e, first|second)) || !impl.TermPrecise(e, once) || !impl.TermPrecise(once, twice) {
				t.Fatalf("BlurTerm(%s, %d), and %d: %s", textOf(e), first, second, textOf(twice))
			}
		}
		for _, mask := range []int{-1, -all, all, all + r.Intn(all), 2 * all, 3*all - 1} {
			if got, ok := impl.BlurTerm(e, mask); ok || !isZeroTerm(got) {
				t.Fatalf("BlurTerm(%s, %d) = %s, %v", textOf(e), mask, textOf(got), ok)
			}
		}
	}
	if many < 50 {
		t.Errorf("%d terms have many types", many)
	}
}

func TestSlots(t *testing.T) {
	for text, want := range map[string]int{
		"1": 0, "x": 0, "(1 2)": 0, "!x:I.x": 1, "(x:?)": 1, "!x:?.(x:?)": 2, "(!x:(I>I).(x 1):(I>?))": 2,
		"{(T:B)?!x:(I>I).x:[(1:I),(!y:?.y:B)]}": 5, "((((1:I):I):I):I)": 4,
	} {
		if got := impl.CountSlots(parseTerm(t, text)); got != want {
			t.Errorf("CountSlots(%s) = %d", text, got)
		}
	}
}

func TestWrap(t *testing.T) {
	for _, text := range []string{
		"1", "x", "T", "!x:I.x", "(1 2)", "(1+T)", "(x<y)", "{T?1:F}", "[1,2]", "$x", "%[1,2]", "(x:I)", "(x:?)", "((1:?):?)",
		"(!x:(I>?).{(x<1)?[x,T]:$%(y:(I*B))} 25)",
	} {
		e, ok := impl.WrapTerm(parseTerm(t, text))
		if !ok || impl.FormatTerm(e) != "("+text+":?)" {
			t.Errorf("WrapTerm(%s) = %s, %v", text, impl.FormatTerm(e), ok)
		}
	}
	for _, e := range mixedTerms() {
		got, ok := impl.WrapTerm(e)
		if fits := nodes(e) <= 29 && depthOf(e) <= 11; ok != fits || ok && !impl.TermSame(got, as(e, anyType)) || !ok && !isZeroTerm(got) {
			t.Fatalf("WrapTerm(%s) = %s, %v", textOf(e), textOf(got), ok)
		}
	}
}

// A term to which the wrapping adds a node or a level too many.
func TestWrapLimits(t *testing.T) {
	for count := 1; count <= 30; count++ {
		e, ok := impl.WrapTerm(wideTerm(count))
		if ok != (count < 30) || ok && impl.CountNodes(e) != count+1 || !ok && !isZeroTerm(e) {
			t.Errorf("%d nodes: WrapTerm = %s, %v", count, textOf(e), ok)
		}
	}
	for _, kind := range []int{impl.TermFst, impl.TermLam, impl.TermAs, impl.TermPair} {
		for depth := 1; depth <= 12; depth++ {
			e, ok := impl.WrapTerm(deepTerm(kind, 0, depth))
			if ok != (depth < 12) || ok && depthOf(e) != depth+1 || !ok && !isZeroTerm(e) {
				t.Errorf("kind %d, a depth of %d: WrapTerm = %s, %v", kind, depth, textOf(e), ok)
			}
		}
	}
}

// A wrapped term yields the same value, and has the unknown type.
func TestWrappedTermsYieldTheSameValues(t *testing.T) {
	for i, e := range runnableTerms() {
		wrapped, ok := impl.WrapTerm(e)
		if !ok || i%4 != 0 {
			continue
		}
		if x, ok := impl.TypeOf(wrapped); !ok || !impl.TypeSame(x, anyType) {
			t.Fatalf("WrapTerm(%s) has the type %s, %v", textOf(e), impl.FormatType(x), ok)
		}
		text, code, label := impl.RunTerm(e, 300)
		textToo, codeToo, labelToo := impl.RunTerm(wrapped, 300)
		if code != large && codeToo != large && (text != textToo || code != codeToo || label != labelToo) {
			t.Fatalf("%s comes to %q, %d, %d, but wrapped to %q, %d, %d", textOf(e), text, code, label, textToo, codeToo, labelToo)
		}
	}
}

// Terms with casts, and terms beyond the limits; more terms that are not valid are in the tests of chapter 2.
func TestGuaranteeOfInvalidTerms(t *testing.T) {
	inserted, _, _ := impl.InsertCasts(parseTerm(t, "(!x:?.(x+1) 2)"))
	for what, bad := range map[string]impl.Term{
		"the zero value":                  {},
		"a term with casts":               inserted,
		"a bare term that is too large":   wideTerm(31),
		"a bare term that is too deep":    deepTerm(impl.TermFst, 0, 13),
		"ascriptions that are too deep":   deepTerm(impl.TermAs, 0, 13),
		"a function without a type":       lam("x", impl.Type{}, name("x")),
		"an ascription without a type":    as(num(1), impl.Type{}),
		"an ascription that is too deep":  as(num(1), leftChain(5)),
		"a function with a deep type":     lam("x", rightChain(5), name("x")),
		"an ascription with a name":       {Kind: impl.TermAs, Name: "x", Type: anyType, Kids: []impl.Term{num(1)}},
		"a cast in an ascription":         as(castOf(num(1), intType, anyType, 1), anyType),
		"a number that is too large":      as(num(1000), anyType),
		"an ascription of itself":         selfTerm(impl.TermAs, 1),
		"a function that contains itself": selfTerm(impl.TermLam, 1),
	} {
		expectNoGuarantee(t, what, bad)
	}
	for i, e := range mixedCasts() {
		if !impl.TermValid(e) && i%10 == 0 {
			expectNoGuarantee(t, textOf(e), e)
		}
	}
}

func TestGuaranteeResultsAreNewMemory(t *testing.T) {
	for i, plain := range append(mixedTerms(), runnableTerms()...) {
		if i%3 != 0 {
			continue
		}
		e, other := roomyTerm(plain), roomyTerm(plain)
		impl.CompareRuns(e, other, 300)
		impl.CountSlots(e)
		places := []impl.Term{e, other}
		for range 2 {
			embedding, _ := impl.EmbedTerm(e)
			wrapped, _ := impl.WrapTerm(e)
			whole, _ := impl.BlurTerm(e, 0)
			some, _ := impl.BlurTerm(e, (1<<impl.CountSlots(e)-1)/3)
			places = append(places, embedding, wrapped, whole, some)
		}
		if reused(places...) {
			t.Fatalf("the results for %s share memory", textOf(plain))
		}
		texts := []string{}
		for _, result := range places[6:] {
			texts = append(texts, impl.FormatTerm(result))
		}
		for _, result := range places[2:6] {
			overwriteTerm(result)
		}
		for i, result := range places[6:] {
			if texts[i] != impl.FormatTerm(result) {
				t.Fatalf("a result for %s has been changed", textOf(plain))
			}
		}
		for _, argument := range places[:2] {
			if !impl.TermSame(argument, plain) || marked(argument) {
				t.Fatalf("%s has been changed", textOf(plain))
			}
		}
	}
}
