package tests

import (
	"math"
	"math/rand"
	"slices"
	"strconv"
	"strings"
	"sync"
	"testing"

	"loop.example/gradual/impl"
)

// Promise 11: A configuration with fewer types does not fail if one with more
// types yields a value.

// configResults holds the results of the functions for a term, without CountCasts.
type configResults struct {
	runs, costs, casts, failing []int
	worst                       int
}

func configsOf(t *testing.T, e impl.Term, fuel int) configResults {
	t.Helper()
	var got configResults
	var ok [5]bool
	got.runs, ok[0] = impl.ConfigRuns(e, fuel)
	got.costs, ok[1] = impl.ConfigCosts(e, fuel)
	got.casts, ok[2] = impl.ConfigCasts(e)
	got.worst, ok[3] = impl.WorstConfig(e, fuel)
	got.failing, ok[4] = impl.FailingSlots(e, fuel)
	if ok != [5]bool{true, true, true, true, true} {
		t.Fatalf("%s, fuel %d: the functions return %v", textOf(e), fuel, ok)
	}
	return got
}

func (c configResults) same(other configResults) bool {
	return slices.Equal(c.runs, other.runs) && slices.Equal(c.costs, other.costs) && slices.Equal(c.casts, other.casts) &&
		slices.Equal(c.failing, other.failing) && c.worst == other.worst
}

// keeping returns e with each type for which keep does not hold made unknown.
func keeping(e impl.Term, keep func(slot int) bool) impl.Term {
	list := impl.TermTypes(e)
	for slot := range list {
		if !keep(slot) {
			list[slot] = anyType
		}
	}
	result, _ := impl.WithTypes(e, list)
	return result
}

func countCasts(e impl.Term) int {
	casts := 0
	for _, x := range everyNode(e) {
		if x.Kind == impl.TermCast {
			casts++
		}
	}
	return casts
}

// codeOf returns the code of RunTerm.
func codeOf(e impl.Term, fuel int) int {
	_, code, _ := impl.RunTerm(e, fuel)
	return code
}

// configsByDocument returns what the document says of a term with a type.
func configsByDocument(e impl.Term, fuel int) configResults {
	var want configResults
	slots, most := countTypes(e), -1
	for mask := 0; mask < int(math.Pow(2, float64(slots))); mask++ {
		config := keeping(e, func(slot int) bool { return mask/int(math.Pow(2, float64(slot)))%2 == 0 })
		inserted, _, _ := impl.InsertCasts(config)
		cost := impl.CountSteps(inserted, fuel)
		want.runs = append(want.runs, codeOf(config, fuel))
		want.costs = append(want.costs, cost)
		want.casts = append(want.casts, countCasts(inserted))
		if cost > most {
			most, want.worst = cost, mask
		}
	}
	if erased, _ := impl.EraseTerm(e); codeOf(erased, fuel) == blamed {
		return want
	}
	for kept := range slots {
		if codeOf(keeping(e, func(slot int) bool { return slot == kept }), fuel) == blamed {
			want.failing = append(want.failing, kept)
		}
	}
	return want
}

// expectConfigs compares the functions with the document, and checks the promise
// for all pairs of configurations. It returns the results.
func expectConfigs(t *testing.T, e impl.Term, fuel int) configResults {
	t.Helper()
	got := configsOf(t, e, fuel)
	if want := configsByDocument(e, fuel); !got.same(want) {
		t.Fatalf("%s, fuel %d: %v, not %v", textOf(e), fuel, got, want)
	}
	for more, code := range got.runs {
		for fewer, codeToo := range got.runs {
			if more&fewer == more && code == valued && codeToo == blamed {
				t.Fatalf("%s, fuel %d: configuration %d yields a value, but %d fails", textOf(e), fuel, more, fewer)
			}
		}
	}
	return got
}

// expectNoConfigs checks the functions for a term that is not valid or has no type.
func expectNoConfigs(t *testing.T, what string, bad impl.Term, fuels ...int) {
	t.Helper()
	for _, fuel := range fuels {
		what := what + ", fuel " + strconv.Itoa(fuel)
		if list, ok := impl.ConfigRuns(bad, fuel); ok || len(list) != 0 {
			t.Errorf("%s: ConfigRuns = %v, %v", what, list, ok)
		}
		if list, ok := impl.ConfigCosts(bad, fuel); ok || len(list) != 0 {
			t.Errorf("%s: ConfigCosts = %v, %v", what, list, ok)
		}
		if config, ok := impl.WorstConfig(bad, fuel); ok || config != 0 {
			t.Errorf("%s: WorstConfig = %d, %v", what, config, ok)
		}
		if list, ok := impl.FailingSlots(bad, fuel); ok || len(list) != 0 {
			t.Errorf("%s: FailingSlots = %v, %v", what, list, ok)
		}
	}
}

// expectNoConfigCasts does what expectNoConfigs does for ConfigCasts, which has no fuel.
func expectNoConfigCasts(t *testing.T, what string, bad impl.Term) {
	t.Helper()
	if list, ok := impl.ConfigCasts(bad); ok || len(list) != 0 {
		t.Errorf("%s: ConfigCasts = %v, %v", what, list, ok)
	}
}

func TestConfigExample(t *testing.T) {
	e := parseTerm(t, "(!x:B.x (1:?))")
	want := configResults{runs: []int{blamed, valued, blamed, valued}, costs: []int{0, 1, 0, 1}, casts: []int{2, 1, 2, 1}, failing: []int{0}, worst: 1}
	if got := expectConfigs(t, e, 100); !got.same(want) {
		t.Errorf("the results are %v", got)
	}
	expectRun(t, "(!x:B.x (1:?))", "", blamed, 2)
	expectRun(t, "(!x:?.x (1:?))", "1", valued, 0)
}

func TestConfigConstants(t *testing.T) {
	if impl.MaxSlots != 6 {
		t.Errorf("MaxSlots = %d", impl.MaxSlots)
	}
}

// The results in the order of the masks, from the term itself to its erasure.
func TestConfigsInOrder(t *testing.T) {
	for text, want := range map[string]configResults{
		// A single type.
		"(!x:I.(x+1) 2)": {runs: []int{0, 0}, costs: []int{2, 3}, casts: []int{0, 2}, worst: 1},
		"!x:(I>B).x":     {runs: []int{0, 0}, costs: []int{0, 0}, casts: []int{0, 0}},
		"(1:I)":          {runs: []int{0, 0}, costs: []int{0, 0}, casts: []int{0, 1}},
		"(!x:?.(x+1) T)": {runs: []int{2, 2}, costs: []int{1, 1}, casts: []int{2, 2}},
		// Two types: the first one, and then the second one.
		"((T:?):I)":     {runs: []int{2, 0, 2, 0}, costs: []int{0, 0, 0, 0}, casts: []int{2, 1, 2, 1}, failing: []int{0}},
		"((1:I):?)":     {runs: []int{0, 0, 0, 0}, costs: []int{0, 0, 0, 0}, casts: []int{1, 1, 1, 1}},
		"((1:?):I)":     {runs: []int{0, 0, 0, 0}, costs: []int{1, 0, 1, 0}, casts: []int{2, 1, 2, 1}},
		"[(T:B),(1:I)]": {runs: []int{0, 0, 0, 0}, costs: []int{0, 0, 0, 0}, casts: []int{0, 1, 1, 2}},
		// Three types, the inner one of two after the outer one.
		"[(1:I),((2:I):I)]": {runs: []int{0, 0, 0, 0, 0, 0, 0, 0}, costs: []int{0, 0, 0, 0, 1, 1, 0, 0}, casts: []int{0, 1, 1, 2, 2, 3, 1, 2}, worst: 4},
		"[((2:I):I),(1:I)]": {runs: []int{0, 0, 0, 0, 0, 0, 0, 0}, costs: []int{0, 0, 1, 0, 0, 0, 1, 0}, casts: []int{0, 1, 2, 1, 1, 2, 3, 2}, worst: 2},
		// Limits, with some of the types only.
		"(!x:(?>?).(x x) (!x:?.(x x):(?>(I>I))))": {runs: []int{4, 4, 5, 5, 4, 4, 5, 5}, costs: []int{93, 95, 300, 300, 93, 95, 300, 300}, casts: []int{4, 4, 4, 3, 4, 4, 4, 3}, worst: 2},
	} {
		if got := expectConfigs(t, parseTerm(t, text), 300); !got.same(want) {
			t.Errorf("%s: the results are %v, not %v", text, got, want)
		}
	}
}

// A term without types has one configuration, which is the term itself and its erasure.
func TestConfigsOfTermsWithoutTypes(t *testing.T) {
	for _, c := range []struct {
		text              string
		fuel, code, steps int
	}{
		{"1", 0, valued, 0},
		{"T", 300, valued, 0},
		{"[1,T]", 5, valued, 0},
		{"(1+2)", 0, much, 0},
		{"(1+2)", 1, valued, 1},
		{"{(1<2)?$[1,2]:%[1,2]}", 2, much, 2},
		{"{(1<2)?$[1,2]:%[1,2]}", 3, valued, 3},
		{"((1+2)+(3+4))", 100, valued, 3},
	} {
		want := configResults{runs: []int{c.code}, costs: []int{c.steps}, casts: []int{0}}
		if got := expectConfigs(t, parseTerm(t, c.text), c.fuel); !got.same(want) {
			t.Errorf("%s, fuel %d: the results are %v", c.text, c.fuel, got)
		}
	}
}

// The first of several configurations with the greatest number of steps counts.
func TestWorstConfig(t *testing.T) {
	for _, c := range []struct {
		text       string
		fuel, want int
		costs      []int
	}{
		// All are equal, with no steps and with some.
		{"7", 300, 0, []int{0}},
		{"!x:I.!y:B.x", 300, 0, []int{0, 0, 0, 0}},
		{"(!x:I.x 2)", 300, 0, []int{1, 1}},
		{"(!x:?.(!y:?.y x) 2)", 300, 0, []int{2, 2, 2, 2}},
		// The term itself, one in the middle, and the erasure.
		{"((1:?):I)", 300, 0, []int{1, 0, 1, 0}},
		{"((2:I):I)", 300, 2, []int{0, 0, 1, 0}},
		{"(!x:I.((x+x)+x) (2:I))", 300, 1, []int{3, 6, 4, 6}},
		{"(!x:I.(!y:I.(x+y) 1) 2)", 300, 3, []int{3, 4, 4, 5}},
		// Several, the first one of which is not the term itself.
		{"[((2:I):I),(1:I)]", 300, 2, []int{0, 0, 1, 0, 0, 0, 1, 0}},
		// The fuel makes them equal.
		{"(!x:I.((x+x)+x) (2:I))", 3, 0, []int{3, 3, 3, 3}},
		{"(!x:I.((x+x)+x) (2:I))", 4, 1, []int{3, 4, 4, 4}},
		{"(!x:I.(!y:I.(x+y) 1) 2)", 4, 1, []int{3, 4, 4, 4}},
		{"(!x:I.(!y:I.(x+y) 1) 2)", 0, 0, []int{0, 0, 0, 0}},
		{"(!x:?.(x x) !x:?.(x x))", 300, 0, []int{300, 300, 300, 300}},
		// A configuration that fails late, and one that yields a value early.
		{"(((!x:I.x:?):(B>I)) T)", 300, 0, []int{5, 3, 5, 3, 4, 2, 4, 2}},
	} {
		e := parseTerm(t, c.text)
		got := expectConfigs(t, e, c.fuel)
		if got.worst != c.want || !slices.Equal(got.costs, c.costs) {
			t.Errorf("%s, fuel %d: WorstConfig = %d, and the costs are %v", c.text, c.fuel, got.worst, got.costs)
		}
	}
}

func TestFailingSlots(t *testing.T) {
	for text, want := range map[string][]int{
		// No type makes the term fail.
		"1":                                 {},
		"(!x:I.(x+1) 2)":                    {},
		"((1:?):I)":                         {},
		"(!f:(I>I).(f 1) !x:I.(x+1))":       {},
		"{T?((1:?):I):((2:?):I)}":           {},
		"!x:I.((x:?):B)":                    {},
		"((!x:I.x:?):(B>I))":                {},
		"[((1:?):I),[((T:?):B),(T:B)]]":     {},
		"(!x:?.{(x<1)?((x:?):I):(0:?)} 0)":  {},
		"(!x:?.{(x<1)?((T:?):I):(0:?)} 10)": {},
		// A single one does: the first, one in the middle, and the last.
		"((T:?):I)":                        {0},
		"(!x:B.x (1:?))":                   {0},
		"$(([1,T]:?):(B*B))":               {0},
		"(([1,T]:?):(I>I))":                {0},
		"(!f:(I>B).(f 1) !x:?.x)":          {0},
		"[(1:I),((T:?):I)]":                {1},
		"((!x:?.x:(I>?)) (T:?))":           {0},
		"(!x:?.{(x<1)?((x:?):B):(T:?)} 0)": {1},
		"(!x:?.{(x<1)?((T:?):I):(0:?)} 0)": {1},
		"(!x:?.(x:I) T)":                   {1},
		"(!x:?.[(x:B),[(x:?),(x:I)]] T)":   {3},
	} {
		if got := expectConfigs(t, parseTerm(t, text), 300); !slices.Equal(got.failing, want) {
			t.Errorf("FailingSlots(%s) = %v", text, got.failing)
		}
	}
}

// A type that makes the term fail counts, although the term itself fails because
// of another one, or does not fail because it reaches a limit before.
func TestFailuresThatAreHidden(t *testing.T) {
	for _, c := range []struct {
		text    string
		fuel    int
		code    int // of the term itself
		failing []int
	}{
		{"[(!x:B.x (1:?)),((T:?):I)]", 300, blamed, []int{0, 2}},
		{"[((T:?):I),((T:?):I)]", 300, blamed, []int{0, 2}},
		{"[((T:?):I),[((1:?):B),((1:?):(I>I))]]", 300, blamed, []int{0, 2, 4}},
		{"(!x:?.[(x:I),[(x:B),(x:I)]] T)", 300, blamed, []int{1, 3}},
		{"(!x:I.[x,((1:?):B)] (T:?))", 300, blamed, []int{0, 1}},
		{"(((!x:I.x:?):(B>I)) (0<1))", 300, blamed, []int{0, 2}},
		// The last type fails first.
		{"((((T:?):I):?):(?>?))", 300, blamed, []int{0, 2}},
		{"(((!x:?.x:?):(B>?)) ((1:?):B))", 300, blamed, []int{0, 3}},
		{"(!x:?.(x:B) ((1:?):(I>I)))", 300, blamed, []int{1, 2}},
		// The term itself reaches a limit.
		{"[((1:?):I),((T:?):I)]", 0, much, []int{2}},
		{"[((1:?):I),((T:?):I)]", 1, blamed, []int{2}},
		{"[((((1:I):?):I):?),((T:?):I)]", 0, much, []int{4}},
		{"[(!f:?.((f f) 9) !s:?.!n:?.{(n<1)?s:(((s s) (n+999)):(?>?))}),((T:?):I)]", 300, large, []int{4}},
		{"[(!f:?.((f f) 26) !s:?.!n:?.{(n<1)?s:(((s s) (n+999)):(?>?))}),((T:?):I)]", 300, large, []int{4}},
		// With each type alone, a limit is reached, too.
		{"[(!f:?.((f f) 27) !s:?.!n:?.{(n<1)?s:(((s s) (n+999)):(?>?))}),((T:?):I)]", 300, large, nil},
		{"[(1+1),((T:?):I)]", 0, much, nil},
		{"[(1+1),((T:?):I)]", 1, blamed, []int{0}},
	} {
		got := expectConfigs(t, parseTerm(t, c.text), c.fuel)
		if got.runs[0] != c.code || !slices.Equal(got.failing, c.failing) {
			t.Errorf("%s, fuel %d: the code is %d, and FailingSlots = %v", c.text, c.fuel, got.runs[0], got.failing)
		}
	}
}

// If the last configuration fails, no type counts; if it reaches a limit, it does not fail.
func TestFailingSlotsAndTheErasure(t *testing.T) {
	for _, c := range []struct {
		text    string
		fuel    int
		code    int // of the last configuration
		failing []int
	}{
		{"(!x:?.(x+1) T)", 300, blamed, nil},
		{"((1:?) 2)", 300, blamed, nil},
		{"{((1:?):B)?2:3}", 300, blamed, nil},
		{"[((T:?):I),(!x:?.(x+1) T)]", 300, blamed, nil},
		{"[((T:?):I),((!x:?.(x+1):(B>?)) T)]", 300, blamed, nil},
		{"[((T:?):I),(!x:?.(x x) !x:?.(x x))]", 300, much, []int{0}},
		{"[((T:?):I),(!x:?.(x x) !x:?.(x x))]", 0, much, []int{0}},
		{"(!y:B.(!x:?.(x x) !x:?.(x x)) (1:?))", 300, much, []int{0}},
		{"[((T:?):I),(!x:?.[(x x),1] !x:?.[(x x),1])]", 300, large, []int{0}},
		{"(!y:B.(!x:?.[(x x),1] !x:?.[(x x),1]) (1:?))", 300, large, []int{0}},
		// The fuel ends before the last configuration fails, but not before another one does.
		{"[((T:?):I),(!x:?.(x+1) T)]", 0, much, []int{0}},
		{"[((T:?):I),(!x:?.(x+1) T)]", 1, blamed, nil},
		{"(!x:?.(x+1) T)", 0, much, nil},
	} {
		got := expectConfigs(t, parseTerm(t, c.text), c.fuel)
		if last := got.runs[len(got.runs)-1]; last != c.code || !slices.Equal(got.failing, c.failing) {
			t.Errorf("%s, fuel %d: the last code is %d, and FailingSlots = %v", c.text, c.fuel, last, got.failing)
		}
	}
}

// annotated returns terms with a type that have this many types, in different places.
func annotated(t *testing.T, slots int) []impl.Term {
	t.Helper()
	inner, sums, functions, both := num(1), num(1), trueTerm, as(num(1), anyType)
	for i := range slots {
		inner = as(inner, []impl.Type{intType, anyType}[i%2])
		sums = node(impl.TermAdd, sums, as(num(1), []impl.Type{intType, anyType}[i%2]))
		functions = node(impl.TermApp, lam(string(rune('a'+i)), []impl.Type{anyType, boolType}[i%2], functions), trueTerm)
		if i > 0 {
			both = node(impl.TermApp, lam("x", []impl.Type{boolType, anyType}[i%2], name("x")), both)
		}
	}
	list := []impl.Term{inner, sums, functions}
	if slots > 0 {
		list = append(list, both)
	}
	for _, e := range list {
		if _, ok := impl.TypeOf(e); impl.TermValid(e) && (!ok || impl.CountSlots(e) != slots) {
			t.Fatalf("%s has no type, or not %d types", textOf(e), slots)
		}
	}
	return slices.DeleteFunc(list, func(e impl.Term) bool { return !impl.TermValid(e) })
}

func TestNumberOfTypesOfConfigurations(t *testing.T) {
	for slots := range 11 {
		list := annotated(t, slots)
		if len(list) == 0 {
			t.Errorf("no term with %d types is valid", slots)
		}
		for _, e := range list {
			if slots > 6 {
				expectNoConfigs(t, textOf(e), e, 0, 100, 300)
				expectNoConfigCasts(t, textOf(e), e)
				continue
			}
			got := expectConfigs(t, e, 300)
			if n := 1 << slots; len(got.runs) != n || len(got.costs) != n || len(got.casts) != n {
				t.Errorf("%s: %d, %d and %d results", textOf(e), len(got.runs), len(got.costs), len(got.casts))
			}
		}
	}
	if len(annotated(t, 6)) < 3 || len(annotated(t, 7)) < 3 {
		t.Error("too few terms with 6 and 7 types are valid")
	}
	many, _ := impl.EraseTerm(manySlots(t))
	if _, ok := impl.TypeOf(many); !ok {
		t.Errorf("%s has no type", textOf(many))
	}
	expectNoConfigs(t, "26 types", many, 0, 300)
	expectNoConfigCasts(t, "26 types", many)
}

func TestFuelOfConfigurations(t *testing.T) {
	loop := "(!x:?.(x x) (!y:?.(y y):?))"
	for _, text := range []string{"7", "((T:?):I)", "(!x:I.(x+1) 2)", "(!x:B.x (1:?))", "[((2:I):I),(1:I)]", loop, "(((((1:?):I):?):I):?)", "(!x:?.(x+1) T)"} {
		e := parseTerm(t, text)
		casts := configsOf(t, e, 0).casts
		for _, fuel := range []int{-1, -2, -300, math.MinInt, 301, 302, 1000, math.MaxInt, 1 << 32, 1<<32 + 5, -1 << 32} {
			expectNoConfigs(t, text, e, fuel)
		}
		for _, fuel := range []int{0, 1, 2, 3, 10, 299, 300} {
			if got := expectConfigs(t, e, fuel); !slices.Equal(got.casts, casts) {
				t.Errorf("%s, fuel %d: ConfigCasts = %v", text, fuel, got.casts)
			}
		}
	}
	for _, c := range []struct {
		text        string
		fuel        int
		runs, costs []int
	}{
		{"(!x:I.(x+1) 2)", 0, []int{much, much}, []int{0, 0}},
		{"(!x:I.(x+1) 2)", 1, []int{much, much}, []int{1, 1}},
		{"(!x:I.(x+1) 2)", 2, []int{valued, much}, []int{2, 2}},
		{"(!x:I.(x+1) 2)", 3, []int{valued, valued}, []int{2, 3}},
		{"(!x:I.(x+1) 2)", 300, []int{valued, valued}, []int{2, 3}},
		{"((T:?):I)", 0, []int{blamed, valued, blamed, valued}, []int{0, 0, 0, 0}},
		{loop, 0, []int{much, much, much, much, much, much, much, much}, []int{0, 0, 0, 0, 0, 0, 0, 0}},
		{loop, 299, []int{much, much, much, much, much, much, much, much}, []int{299, 299, 299, 299, 299, 299, 299, 299}},
		{loop, 300, []int{much, much, much, much, much, much, much, much}, []int{300, 300, 300, 300, 300, 300, 300, 300}},
	} {
		got := configsOf(t, parseTerm(t, c.text), c.fuel)
		if !slices.Equal(got.runs, c.runs) || !slices.Equal(got.costs, c.costs) {
			t.Errorf("%s, fuel %d: the codes are %v, and the costs %v", c.text, c.fuel, got.runs, got.costs)
		}
	}
}

// All functions for many terms, with the promise for all pairs of their configurations.
func TestConfigurationsOfManyTerms(t *testing.T) {
	r := rand.New(rand.NewSource(60))
	slots, codes, failing, later, over := map[int]int{}, map[int]int{}, map[int]int{}, 0, 0
	for i, e := range append(runnableTerms(), closedCases(t)...) {
		_, typed := impl.TypeOf(e)
		count := impl.CountSlots(e)
		if !typed || count > 6 {
			over++
			expectNoConfigs(t, textOf(e), e, 300)
			expectNoConfigCasts(t, textOf(e), e)
			continue
		}
		if i%(1+count) != 0 {
			continue
		}
		got := expectConfigs(t, e, 300)
		for _, code := range got.runs {
			codes[code]++
		}
		if slots[count]++; got.worst > 0 {
			later++
		}
		failing[len(got.failing)]++
		expectConfigs(t, e, r.Intn(12))
	}
	for count := range 7 {
		if slots[count] < 50 {
			t.Errorf("%d terms have %d types", slots[count], count)
		}
	}
	if codes[valued] < 2000 || codes[blamed] < 2000 || codes[stuck] > 0 || failing[1] < 20 || failing[2] < 5 || later < 100 || over < 100 {
		t.Errorf("codes %v, failing types %v, %d terms with a worst configuration of their own, and %d without configurations", codes, failing, later, over)
	}
}

// Terms that reach limits in some configurations.
func TestConfigurationsOfLongRuns(t *testing.T) {
	count, worse := map[int]int{}, 0
	texts := append(callsItself(3), callsItself(9)...)
	texts = append(texts, callsFlat, callsNested, "(!x:?.(x x) !x:?.(x x))", "(!x:(?>?).(x x) (!x:?.(x x):(?>(I>I))))", "(!x:?.[(x x),1] !x:?.[(x x),1])",
		"((!t:?.((t t) !n:I.(n+1)) !f:?.!x:?.(f (f x))) 7)", "(((!t:?.(t t) !f:?.!x:?.(f (f x))) !n:B.n) 7)")
	for _, text := range texts {
		for _, fuel := range []int{0, 1, 30, 50, 100, 299, 300} {
			got := expectConfigs(t, parseTerm(t, text), fuel)
			for _, code := range got.runs {
				count[code]++
			}
			if got.worst > 0 {
				worse++
			}
		}
	}
	if count[valued] < 100 || count[large] < 100 || count[much] < 500 || count[blamed] < 5 || worse < 10 {
		t.Errorf("codes %v, and %d worst configurations", count, worse)
	}
}

func TestConfigurationsOfTermsWithoutType(t *testing.T) {
	for _, text := range []string{
		"x", "(x:?)", "(1 2)", "(T+1)", "{1?2:3}", "$1", "%!x:I.x", "(1:B)", "!x:I.(x+T)", "!x:(((I>I)>I)>I).x", "[1,[1,[1,[1,1]]]]",
		// Some of their configurations have a type, or all others.
		"(!x:B.x 1)", "(!x:I.(x x) 1)", "((1:I):B)", "(!f:(I>I).f !x:B.x)", "{T?(1:I):(T:B)}", "[((1:I):B),((1:B):?)]",
		"((((((1:I):B):I):B):I):B)", "(((((((1:I):B):I):B):I):B):I)",
	} {
		e := parseTerm(t, text)
		if x, ok := impl.TypeOf(e); ok {
			t.Fatalf("%s has the type %s", text, impl.FormatType(x))
		}
		expectNoConfigs(t, text, e, -1, 0, 1, 100, 300, 301)
		expectNoConfigCasts(t, text, e)
	}
}

// More terms that are not valid are in the tests of chapter 2.
func TestConfigurationsOfInvalidTerms(t *testing.T) {
	inserted, _, _ := impl.InsertCasts(parseTerm(t, "(!x:?.(x+1) 2)"))
	for what, bad := range map[string]impl.Term{
		"the zero value":                  {},
		"a term with casts":               inserted,
		"a cast":                          castOf(num(1), intType, anyType, 1),
		"a term that is too large":        wideTerm(31),
		"a term that is too deep":         deepTerm(impl.TermPair, 0, 13),
		"ascriptions that are too deep":   deepTerm(impl.TermAs, 0, 13),
		"a function without a type":       lam("x", impl.Type{}, name("x")),
		"a function with a deep type":     lam("x", rightChain(5), num(1)),
		"an ascription without a type":    as(num(1), impl.Type{}),
		"an ascription that is too deep":  as(num(1), leftChain(5)),
		"a number that is too large":      num(1000),
		"a negative number":               as(num(-1), intType),
		"an ascription of itself":         selfTerm(impl.TermAs, 1),
		"a function that contains itself": selfTerm(impl.TermLam, 1),
	} {
		if impl.TermValid(bad) {
			t.Fatalf("%s: the term is valid", what)
		}
		expectNoConfigs(t, what, bad, -1, 0, 1, 100, 300, 301)
		expectNoConfigCasts(t, what, bad)
	}
}

func TestCountOfCasts(t *testing.T) {
	for text, want := range map[string]int{
		"1":                                 0,
		"x":                                 0,
		"[1,(2 T)]":                         0,
		"!x:(I>I).x":                        0,
		"(1:I~?#1)":                         1,
		"(1:I~I#-99)":                       1,
		"(x:?~?#5)":                         1,
		"((1:I~?#1):?~I#2)":                 2,
		"((1:I~?#1):?~I#1)":                 2,
		"((((1:I~?#1):?~I#2):I~?#3):?~B#4)": 4,
		"[(1:I~?#7),(T:B~?#-7)]":            2,
		"{((T:B~?#1):?~B#3)?1:((2:I~?#2):?~I#4)}":             4,
		"(!x:?.((x:?~I#1)+1) (T:B~?#2))":                      2,
		"!x:(I>?).$[(x:(I>?)~?#1),%(y:?~(?*I)#1)]":            2,
		"((!x:I.(x:I~I#1):(I>I)~?#2) ((1:I~?#3):?~I#4))":      4,
		"((1:I~?#1) (2:I~?#2))":                               2,
		"(!f:?.((f:?~(?>?)#1) (1:I~?#2)) (!x:I.x:(I>I)~?#3))": 3,
	} {
		if got := impl.CountCasts(parseCast(t, text)); got != want {
			t.Errorf("CountCasts(%s) = %d", text, got)
		}
	}
	most := 0
	for _, e := range append(mixedCasts(), wideCast(200), deepTerm(impl.TermCast, 0, 40)) {
		got := impl.CountCasts(e)
		if got != countCasts(e) || got < len(impl.CastLabels(e)) {
			t.Fatalf("CountCasts(%s) = %d", textOf(e), got)
		}
		most = max(most, got)
	}
	if most < 50 {
		t.Errorf("no term has more than %d casts", most)
	}
	// Terms are terms with casts, too, unless they contain a TermAs.
	for _, e := range mixedTerms() {
		if got := impl.CountCasts(e); got != 0 {
			t.Fatalf("CountCasts(%s) = %d", textOf(e), got)
		}
	}
}

// More terms with casts that are not valid are in the tests of chapter 4.
func TestCountOfCastsOfInvalidTerms(t *testing.T) {
	good := castOf(num(1), intType, anyType, 1)
	for what, bad := range map[string]impl.Term{
		"the zero value":                {},
		"an ascription in a cast":       castOf(as(num(1), intType), intType, anyType, 1),
		"a cast in an ascription":       as(good, anyType),
		"a cast beside an ascription":   node(impl.TermPair, good, as(num(1), anyType)),
		"types that are not consistent": castOf(good, anyType, intType, 0),
		"a label of 0":                  castOf(good, intType, boolType, 1),
		"a label of 100":                castOf(good, anyType, intType, 100),
		"a label of -100":               castOf(good, anyType, intType, -100),
		"a cast without a type":         castOf(good, anyType, impl.Type{}, 1),
		"a cast from an invalid type":   castOf(good, leftChain(5), anyType, 1),
		"a cast of nothing":             {Kind: impl.TermCast, From: intType, Type: anyType, Label: 1},
		"a cast of two operands":        {Kind: impl.TermCast, From: intType, Type: anyType, Label: 1, Kids: []impl.Term{good, good}},
		"a cast with a name":            {Kind: impl.TermCast, Name: "x", From: intType, Type: anyType, Label: 1, Kids: []impl.Term{good}},
		"a cast of a number too large":  castOf(num(1000), intType, anyType, 1),
		"a cast beside an unknown kind": node(impl.TermPair, good, impl.Term{Kind: 15}),
		"201 nodes":                     wideCast(201),
		"a depth of 41":                 deepTerm(impl.TermCast, 0, 41),
		"a cast of itself":              selfTerm(impl.TermCast, 1),
		"a pair of casts and of itself": node(impl.TermPair, good, selfTerm(impl.TermPair, 2)),
	} {
		if got := impl.CountCasts(bad); got != 0 || impl.CastValid(bad) {
			t.Errorf("%s: CountCasts = %d", what, got)
		}
	}
}

// fill overwrites a list and its unused capacity.
func fill(list []int) {
	list = list[:cap(list)]
	for i := range list {
		list[i] = 1000
	}
}

func TestConfigResultsAreNewMemory(t *testing.T) {
	for i, plain := range runnableTerms() {
		if i%20 != 0 || impl.CountSlots(plain) > 6 {
			continue
		}
		e := roomyTerm(plain)
		first, second := configsOf(t, e, 300), configsOf(t, e, 300)
		for _, list := range [][]int{first.runs, first.costs, first.casts, first.failing} {
			fill(list)
		}
		if !second.same(configsByDocument(plain, 300)) {
			t.Fatalf("the results for %s share memory", textOf(plain))
		}
		if !impl.TermSame(e, plain) || marked(e) {
			t.Fatalf("%s has been changed", textOf(plain))
		}
		inserted, _, _ := impl.InsertCasts(plain)
		roomyCasts := roomyTerm(inserted)
		impl.CountCasts(roomyCasts)
		if !impl.TermSame(roomyCasts, inserted) || marked(roomyCasts) {
			t.Fatalf("%s has been changed", textOf(inserted))
		}
	}
}

// Calls at the same time do not influence each other.
func TestConfigurationsAtTheSameTime(t *testing.T) {
	texts := strings.Fields("((((((1:?):I):?):I):?):I) [((T:?):I),[((1:?):B),((1:?):(I>I))]]")
	texts = append(texts, callsNested, "(!x:(?>?).(x x) (!x:?.(x x):(?>(I>I))))", "(((!x:I.x:?):(B>I)) T)")
	var callers sync.WaitGroup
	for _, text := range texts {
		e := parseTerm(t, text)
		want := configsByDocument(e, 300)
		for range 5 {
			callers.Go(func() {
				runs, _ := impl.ConfigRuns(e, 300)
				costs, _ := impl.ConfigCosts(e, 300)
				casts, _ := impl.ConfigCasts(e)
				worst, _ := impl.WorstConfig(e, 300)
				failing, _ := impl.FailingSlots(e, 300)
				if got := (configResults{runs, costs, casts, failing, worst}); !got.same(want) {
					t.Errorf("%s: the results are %v, not %v", text, got, want)
				}
			})
		}
	}
	callers.Wait()
}
