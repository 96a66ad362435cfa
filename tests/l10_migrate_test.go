package tests

import (
	"math/rand"
	"slices"
	"strings"
	"testing"

	"loop.example/gradual/impl"
)

// Promise 10: A migrated term has a type, is at least as precise as the original,
// and cannot be refined further.

// fullType returns the type whose nodes are functions, down to x at the given depth.
func fullType(x impl.Type, depth int) impl.Type {
	for range depth - 1 {
		x = fun(x, x)
	}
	return x
}

// termTexts returns the texts of terms, one after the other.
func termTexts(list []impl.Term) string {
	texts := []string{}
	for _, e := range list {
		texts = append(texts, textOf(e))
	}
	return strings.Join(texts, " ; ")
}

// refinedTexts returns the texts of RefineType, which replaces one sign of a text at a time.
func refinedTexts(text string) string {
	list := []string{}
	for at, sign := range text {
		for _, part := range []string{"I", "B", "(?>?)", "(?*?)"} {
			refined := text[:at] + part + text[at+1:]
			if _, ok := impl.ParseType(refined); sign == '?' && ok {
				list = append(list, refined)
			}
		}
	}
	return strings.Join(list, " ")
}

// refinedTerms returns the terms that differ from e by RefineType of a single
// node, a node before its operands, whether they have a type or not.
func refinedTerms(e impl.Term) []impl.Term {
	list := []impl.Term{}
	for _, x := range impl.RefineType(e.Type) {
		other := e
		other.Type = x
		list = append(list, other)
	}
	for i, kid := range e.Kids {
		for _, otherKid := range refinedTerms(kid) {
			other := e
			other.Kids = slices.Clone(e.Kids)
			other.Kids[i] = otherKid
			list = append(list, other)
		}
	}
	return list
}

func hasType(e impl.Term) bool { return !isZero(expectedType(nil, e)) }

// migrated returns MigrateTerm of a term with a type by the document.
func migrated(e impl.Term) impl.Term {
	for {
		list := refinedTerms(e)
		first := slices.IndexFunc(list, hasType)
		if first < 0 {
			return e
		}
		e = list[first]
	}
}

// knownNodes returns the number of nodes of the types of e that are known, by their texts.
func knownNodes(e impl.Term) int {
	known := 0
	for _, sign := range impl.FormatType(e.Type) {
		if strings.ContainsRune("IB>*", sign) {
			known++
		}
	}
	for _, kid := range e.Kids {
		known += knownNodes(kid)
	}
	return known
}

// expectNoMigration checks the functions of the chapter for a term that is not valid.
func expectNoMigration(t *testing.T, what string, bad impl.Term) {
	t.Helper()
	if list := impl.RefineTerm(bad); len(list) != 0 {
		t.Errorf("%s: RefineTerm = %v", what, list)
	}
	if e, ok := impl.MigrateTerm(bad); ok || !isZeroTerm(e) {
		t.Errorf("%s: MigrateTerm = %v, %v", what, e, ok)
	}
	if impl.MaximalTerm(bad) {
		t.Errorf("%s: MaximalTerm holds", what)
	}
	if known := impl.PrecisionOf(bad); known != 0 {
		t.Errorf("%s: PrecisionOf = %d", what, known)
	}
	for _, args := range [][2]impl.Term{{bad, bad}, {bad, num(1)}, {num(1), bad}} {
		if e, ok := impl.MergeTerms(args[0], args[1]); ok || !isZeroTerm(e) {
			t.Errorf("%s: MergeTerms = %v, %v", what, e, ok)
		}
	}
}

func TestMigrationExample(t *testing.T) {
	e := parseTerm(t, "(!x:?.x 1)")
	if got := termTexts(impl.RefineTerm(e)); got != "(!x:I.x 1)" {
		t.Errorf("RefineTerm = %s", got)
	}
	if x, ok := impl.TypeOf(parseTerm(t, "(!x:B.x 1)")); ok {
		t.Errorf("(!x:B.x 1) has the type %s", impl.FormatType(x))
	}
}

func TestRefinementsOfTypes(t *testing.T) {
	for text, want := range map[string]string{
		"?":     "I B (?>?) (?*?)",
		"I":     "",
		"B":     "",
		"(I>B)": "",
		// A single unknown part, first and second.
		"(?>I)": "(I>I) (B>I) ((?>?)>I) ((?*?)>I)",
		"(B*?)": "(B*I) (B*B) (B*(?>?)) (B*(?*?))",
		// Several unknown parts, of which no two are replaced at once.
		"(?>?)":         "(I>?) (B>?) ((?>?)>?) ((?*?)>?) (?>I) (?>B) (?>(?>?)) (?>(?*?))",
		"((I*?)>(?>B))": "((I*I)>(?>B)) ((I*B)>(?>B)) ((I*(?>?))>(?>B)) ((I*(?*?))>(?>B)) ((I*?)>(I>B)) ((I*?)>(B>B)) ((I*?)>((?>?)>B)) ((I*?)>((?*?)>B))",
		"(?*(?>?))": "(I*(?>?)) (B*(?>?)) ((?>?)*(?>?)) ((?*?)*(?>?)) " +
			"(?*(I>?)) (?*(B>?)) (?*((?>?)>?)) (?*((?*?)>?)) (?*(?>I)) (?*(?>B)) (?*(?>(?>?))) (?*(?>(?*?)))",
		// The greatest depth: the refinements that would be deeper are left out.
		"(((?>I)>I)>I)": "(((I>I)>I)>I) (((B>I)>I)>I)",
		"(I*(I*(I*?)))": "(I*(I*(I*I))) (I*(I*(I*B)))",
		"((?>I)>I)":     "((I>I)>I) ((B>I)>I) (((?>?)>I)>I) (((?*?)>I)>I)",
		"(((?>?)>I)>I)": "(((I>?)>I)>I) (((B>?)>I)>I) (((?>I)>I)>I) (((?>B)>I)>I)",
		"(((I>?)>?)>B)": "(((I>I)>?)>B) (((I>B)>?)>B) (((I>?)>I)>B) (((I>?)>B)>B) (((I>?)>(?>?))>B) (((I>?)>(?*?))>B)",
		"(((I>I)>I)>I)": "",
	} {
		x, _ := impl.ParseType(text)
		list := []string{}
		for _, finer := range impl.RefineType(x) {
			list = append(list, impl.FormatType(finer))
		}
		if got := strings.Join(list, " "); got != want {
			t.Errorf("RefineType(%s) = %s", text, got)
		}
	}
}

func TestRefinementsOfManyTypes(t *testing.T) {
	r := rand.New(rand.NewSource(60))
	list := append(allTypes(3), fullType(anyType, 4), fullType(pair(anyType, anyType), 3), fullType(pair(anyType, intType), 3))
	for range 3000 {
		list = append(list, mixedType(r, 4))
	}
	count, deepest := 0, 0
	for _, x := range list {
		texts := []string{}
		for _, finer := range impl.RefineType(x) {
			if !impl.TypeValid(finer) || !impl.Precise(finer, x) || impl.TypeSame(finer, x) {
				t.Fatalf("RefineType(%s) contains %v", impl.FormatType(x), finer)
			}
			texts = append(texts, impl.FormatType(finer))
		}
		if got, want := strings.Join(texts, " "), refinedTexts(impl.FormatType(x)); got != want {
			t.Fatalf("RefineType(%s) = %s, not %s", impl.FormatType(x), got, want)
		}
		if impl.IsStatic(x) != (len(texts) == 0) {
			t.Fatalf("RefineType(%s) has %d types", impl.FormatType(x), len(texts))
		}
		count += len(texts)
		if impl.TypeDepth(x) == 4 && len(texts) > 0 {
			deepest++
		}
	}
	if count < 10000 || deepest < 400 {
		t.Errorf("only %d refinements, and those of %d types of the greatest depth", count, deepest)
	}
	for depth, want := range map[int]int{1: 4, 2: 8, 3: 16, 4: 16} {
		if got := len(impl.RefineType(fullType(anyType, depth))); got != want {
			t.Errorf("a depth of %d: RefineType has %d types", depth, got)
		}
	}
}

func TestRefinementsOfInvalidTypes(t *testing.T) {
	bad := invalidTypes()
	bad["an unknown part of a type that is too deep"] = fullType(anyType, 5)
	bad["an unknown part beside an invalid one"] = fun(anyType, impl.Type{})
	bad["an unknown part before an invalid one, below"] = fun(pair(anyType, anyType), fun(anyType, impl.Type{Kind: 6}))
	for what, x := range bad {
		if list := impl.RefineType(x); len(list) != 0 {
			t.Errorf("%s: RefineType = %v", what, list)
		}
	}
}

func TestRefinementsOfTerms(t *testing.T) {
	for text, want := range map[string]string{
		// A term without unknown types, and without any.
		"1":                   "",
		"[1,T]":               "",
		"!x:I.x":              "",
		"(!x:I.(x:I) 1)":      "",
		"((1:I):I)":           "",
		"(!f:(I>I).1 !x:I.x)": "",
		// All refinements have a type.
		"!x:?.1":     "!x:I.1 ; !x:B.1 ; !x:(?>?).1 ; !x:(?*?).1",
		"!x:(?*I).1": "!x:(I*I).1 ; !x:(B*I).1 ; !x:((?>?)*I).1 ; !x:((?*?)*I).1",
		"!x:?.x":     "!x:I.x ; !x:B.x ; !x:(?>?).x ; !x:(?*?).x",
		// Some of them have none.
		"(1:?)":                   "(1:I)",
		"([1,T]:?)":               "([1,T]:(?*?))",
		"([1,T]:(?*?))":           "([1,T]:(I*?)) ; ([1,T]:(?*B))",
		"(!x:?.x:?)":              "(!x:?.x:(?>?)) ; (!x:I.x:?) ; (!x:B.x:?) ; (!x:(?>?).x:?) ; (!x:(?*?).x:?)",
		"!x:?.(x+1)":              "!x:I.(x+1)",
		"!x:?.{x?1:2}":            "!x:B.{x?1:2}",
		"!x:?.(x 1)":              "!x:(?>?).(x 1)",
		"!x:(?>?).(x 1)":          "!x:(I>?).(x 1) ; !x:(?>I).(x 1) ; !x:(?>B).(x 1) ; !x:(?>(?>?)).(x 1) ; !x:(?>(?*?)).(x 1)",
		"!x:?.$x":                 "!x:(?*?).$x",
		"!x:?.[(x+1),{x?1:2}]":    "",
		"(!x:?.[x,{x?1:2}] 1)":    "",
		"(!x:?.x [1,T])":          "(!x:(?*?).x [1,T])",
		"(!x:(?*?).$x [1,T])":     "(!x:(I*?).$x [1,T]) ; (!x:(?*B).$x [1,T])",
		"{T?(1:?):(T:?)}":         "{T?(1:I):(T:?)} ; {T?(1:?):(T:B)}",
		"(!f:(?>I).(f 1) !x:B.1)": "",
		// Several types: that of a node before those of its operands, and those from left to right.
		"!x:?.(x:?)":              "!x:I.(x:?) ; !x:B.(x:?) ; !x:(?>?).(x:?) ; !x:(?*?).(x:?) ; !x:?.(x:I) ; !x:?.(x:B) ; !x:?.(x:(?>?)) ; !x:?.(x:(?*?))",
		"((1:?):?)":               "((1:?):I) ; ((1:?):B) ; ((1:?):(?>?)) ; ((1:?):(?*?)) ; ((1:I):?)",
		"[(1:?),(T:?)]":           "[(1:I),(T:?)] ; [(1:?),(T:B)]",
		"((1:?) (2:?))":           "((1:?) (2:I))",
		"{(T:?)?(1:?):(2:?)}":     "{(T:B)?(1:?):(2:?)} ; {(T:?)?(1:I):(2:?)} ; {(T:?)?(1:?):(2:I)}",
		"((!x:?.x:(?>?)) 1)":      "((!x:?.x:(I>?)) 1) ; ((!x:?.x:(?>I)) 1) ; ((!x:?.x:(?>B)) 1) ; ((!x:?.x:(?>(?>?))) 1) ; ((!x:?.x:(?>(?*?))) 1) ; ((!x:I.x:(?>?)) 1) ; ((!x:B.x:(?>?)) 1) ; ((!x:(?>?).x:(?>?)) 1) ; ((!x:(?*?).x:(?>?)) 1)",
		"(!x:?.(x+1) (T:?))":      "(!x:I.(x+1) (T:?)) ; (!x:?.(x+1) (T:B))",
		"(!x:I.(x+1) (T:?))":      "",
		"(!f:?.(f 1) !x:?.(x+1))": "(!f:(?>?).(f 1) !x:?.(x+1)) ; (!f:?.(f 1) !x:I.(x+1))",
		// Types at the greatest depth, and types that become too deep with that of the term.
		"((1:?):(((?>I)>I)>I))":     "((1:?):(((I>I)>I)>I)) ; ((1:?):(((B>I)>I)>I))",
		"!x:((?>I)>I).1":            "!x:((I>I)>I).1 ; !x:((B>I)>I).1",
		"!x:I.!y:B.!z:?.1":          "!x:I.!y:B.!z:I.1 ; !x:I.!y:B.!z:B.1",
		"!x:I.!y:?.!z:B.y":          "!x:I.!y:I.!z:B.y ; !x:I.!y:B.!z:B.y",
		"[1,[1,[1,((1:?):?)]]]":     "[1,[1,[1,((1:?):I)]]] ; [1,[1,[1,((1:?):B)]]] ; [1,[1,[1,((1:I):?)]]]",
		"[1,[1,!x:?.1]]":            "[1,[1,!x:I.1]] ; [1,[1,!x:B.1]]",
		"([1,[1,[1,1]]]:(I*?))":     "([1,[1,[1,1]]]:(I*(?*?)))",
		"([1,[1,[1,1]]]:(I*(I*?)))": "([1,[1,[1,1]]]:(I*(I*(?*?))))",
		// Terms without a type.
		"(1 2)":                 "",
		"((1:?) (T+1))":         "",
		"x":                     "",
		"(x:?)":                 "",
		"!x:?.(y:?)":            "",
		"((1:B):?)":             "",
		"(!x:?.(x+1) (T+1))":    "",
		"[(1:?),[1,[1,[1,1]]]]": "",
	} {
		e := parseTerm(t, text)
		if got := termTexts(impl.RefineTerm(e)); got != want {
			t.Errorf("RefineTerm(%s) = %s", text, got)
		}
		if impl.MaximalTerm(e) != (want == "" && hasType(e)) {
			t.Errorf("MaximalTerm(%s) = %v", text, impl.MaximalTerm(e))
		}
	}
}

// migratableTerms returns terms many of which have a type that can be refined.
func migratableTerms(t *testing.T) []impl.Term {
	r := rand.New(rand.NewSource(61))
	list := []impl.Term{}
	for i, e := range append(closedCases(t), runnableTerms()...) {
		if i%2 == 0 {
			e = lessPrecise(r, e)
		}
		list = append(list, e)
	}
	return append(list, mixedTerms()...)
}

func TestRefinementsOfManyTerms(t *testing.T) {
	refined, left, maximal := 0, 0, 0
	for i, e := range migratableTerms(t) {
		if i%4 != 0 {
			continue
		}
		all := refinedTerms(e)
		want := slices.DeleteFunc(slices.Clone(all), func(finer impl.Term) bool { return !hasType(finer) })
		got := impl.RefineTerm(e)
		if !slices.EqualFunc(got, want, impl.TermSame) {
			t.Fatalf("RefineTerm(%s) = %s, not %s", textOf(e), termTexts(got), termTexts(want))
		}
		for _, finer := range got {
			if _, ok := impl.TypeOf(finer); !ok || !impl.TermPrecise(finer, e) || impl.PrecisionOf(finer) != impl.PrecisionOf(e)+1 {
				t.Fatalf("RefineTerm(%s) contains %s", textOf(e), textOf(finer))
			}
		}
		if !hasType(e) && len(got) > 0 || impl.MaximalTerm(e) != (hasType(e) && len(got) == 0) {
			t.Fatalf("RefineTerm(%s) = %s, MaximalTerm = %v", textOf(e), termTexts(got), impl.MaximalTerm(e))
		}
		refined += len(got)
		if hasType(e) {
			left += len(all) - len(got)
		}
		if impl.MaximalTerm(e) && len(all) > 0 {
			maximal++
		}
	}
	if refined < 10000 || left < 5000 || maximal < 100 {
		t.Errorf("%d refinements, %d without a type, and %d maximal terms with an unknown type", refined, left, maximal)
	}
}

func TestMigrations(t *testing.T) {
	for text, want := range map[string]string{
		// The examples of the document.
		"(!x:?.x 1)":                  "(!x:I.x 1)",
		"(!f:?.(f 1) !x:?.(x+1))":     "(!f:(I>I).(f 1) !x:I.(x+1))",
		"(!f:(I>I).(f 1) !x:I.(x+1))": "(!f:(I>I).(f 1) !x:I.(x+1))",
		// Nothing to replace.
		"1":              "1",
		"!x:B.x":         "!x:B.x",
		"(!x:I.(x:I) 1)": "(!x:I.(x:I) 1)",
		"$([1,T]:(I*B))": "$([1,T]:(I*B))",
		// The first refinement of several that have a type.
		"!x:?.x":            "!x:I.x",
		"!x:?.{x?x:T}":      "!x:B.{x?x:T}",
		"!x:(?*?).%x":       "!x:(I*I).%x",
		"!x:?.$x":           "!x:(I*I).$x",
		"!x:?.$%x":          "!x:(I*(I*I)).$%x",
		"!x:?.(x T)":        "!x:(B>I).(x T)",
		"!x:?.(x x)":        "!x:((?>I)>I).(x x)",
		"!f:?.!x:?.(f x)":   "!f:(I>I).!x:I.(f x)",
		"!x:?.!f:?.(f x)":   "!x:I.!f:(I>I).(f x)",
		"!x:?.(x:?)":        "!x:I.(x:I)",
		"{T?!x:?.x:!y:B.y}": "{T?!x:B.x:!y:B.y}",
		"([1,!x:?.x]:?)":    "([1,!x:I.x]:(I*(I>I)))",
		"([1,!x:B.x]:?)":    "([1,!x:B.x]:(I*(B>B)))",
		// One type decides on another one, in the order of the types.
		"(!x:?.(x+1) (T:?))":      "(!x:I.(x+1) (T:?))",
		"(!x:?.x (T:?))":          "(!x:I.x (T:?))",
		"(!x:?.x T)":              "(!x:B.x T)",
		"((T:?):?)":               "((T:?):I)",
		"((!x:?.x:?) T)":          "((!x:?.x:(B>I)) T)",
		"[(!x:?.x T),(!y:?.y 1)]": "[(!x:B.x T),(!y:I.y 1)]",
		"{T?(1:?):(T:?)}":         "{T?(1:I):(T:?)}",
		// Unknown types that have to remain.
		"!x:?.[(x+1),{x?1:2}]":         "!x:?.[(x+1),{x?1:2}]",
		"!x:?.[(x+1),{x?1:(2:?)}]":     "!x:?.[(x+1),{x?1:(2:I)}]",
		"!x:(?>?).[((x 1)+1),(x T)]":   "!x:(?>I).[((x 1)+1),(x T)]",
		"!x:?.[$x,(x 1)]":              "!x:?.[$x,(x 1)]",
		"(!x:?.{(x:B)?(x:I):2} (1:?))": "(!x:?.{(x:B)?(x:I):2} (1:I))",
		"(((1:I):?):B)":                "(((1:I):?):B)",
		// The greatest depth.
		"((1:?):(((?>I)>I)>I))":     "((1:?):(((I>I)>I)>I))",
		"((1:?):(((?>?)>?)>?))":     "((1:?):(((I>I)>I)>I))",
		"(((1:?):(((I>I)>I)>I)):?)": "(((1:?):(((I>I)>I)>I)):(((I>I)>I)>I))",
		"!x:I.!y:B.!z:?.1":          "!x:I.!y:B.!z:I.1",
		"!x:?.!y:?.!z:?.(z 1)":      "!x:I.!y:I.!z:?.(z 1)",
		"([1,[1,[1,1]]]:?)":         "([1,[1,[1,1]]]:(I*(I*(I*I))))",
		"(!x:?.1 [1,[1,[1,1]]])":    "(!x:(I*(I*?)).1 [1,[1,[1,1]]])",
	} {
		got, ok := impl.MigrateTerm(parseTerm(t, text))
		if !ok || textOf(got) != want {
			t.Errorf("MigrateTerm(%s) = %s, %v", text, textOf(got), ok)
		}
	}
}

func TestMigrationStepByStep(t *testing.T) {
	for _, steps := range [][]string{
		{"(!f:?.(f 1) !x:?.(x+1))", "(!f:(?>?).(f 1) !x:?.(x+1))", "(!f:(I>?).(f 1) !x:?.(x+1))", "(!f:(I>I).(f 1) !x:?.(x+1))", "(!f:(I>I).(f 1) !x:I.(x+1))"},
		{"!x:?.(x x)", "!x:(?>?).(x x)", "!x:((?>?)>?).(x x)", "!x:((?>I)>?).(x x)", "!x:((?>I)>I).(x x)"},
		{"([1,!x:?.{x?x:x}]:?)", "([1,!x:?.{x?x:x}]:(?*?))", "([1,!x:?.{x?x:x}]:(I*?))", "([1,!x:?.{x?x:x}]:(I*(?>?)))",
			"([1,!x:?.{x?x:x}]:(I*(I>?)))", "([1,!x:?.{x?x:x}]:(I*(I>I)))"},
		{"(!x:(?*?).%x [(T:?),!y:?.y])", "(!x:(I*?).%x [(T:?),!y:?.y])", "(!x:(I*(?>?)).%x [(T:?),!y:?.y])",
			"(!x:(I*(I>?)).%x [(T:?),!y:?.y])", "(!x:(I*(I>I)).%x [(T:?),!y:?.y])", "(!x:(I*(I>I)).%x [(T:?),!y:I.y])"},
	} {
		last := parseTerm(t, steps[len(steps)-1])
		for i, text := range steps {
			e := parseTerm(t, text)
			list := impl.RefineTerm(e)
			if i == len(steps)-1 {
				if len(list) != 0 {
					t.Errorf("RefineTerm(%s) = %s", text, termTexts(list))
				}
			} else if len(list) == 0 || textOf(list[0]) != steps[i+1] {
				t.Errorf("RefineTerm(%s) = %s", text, termTexts(list))
			}
			if impl.MaximalTerm(e) != (i == len(steps)-1) {
				t.Errorf("MaximalTerm(%s) = %v", text, impl.MaximalTerm(e))
			}
			if got, ok := impl.MigrateTerm(e); !ok || !impl.TermSame(got, last) {
				t.Errorf("MigrateTerm(%s) = %s, %v", text, textOf(got), ok)
			}
		}
	}
}

// expectMigration checks the promise for a term, and reports whether it has a type.
func expectMigration(t *testing.T, e impl.Term) (impl.Term, bool) {
	t.Helper()
	got, ok := impl.MigrateTerm(e)
	if ok != hasType(e) || !ok && !isZeroTerm(got) {
		t.Fatalf("MigrateTerm(%s) = %s, %v", textOf(e), textOf(got), ok)
	}
	if !ok {
		return e, false
	}
	_, typed := impl.TypeOf(got)
	if !typed || !impl.TermPrecise(got, e) || !impl.MaximalTerm(got) || len(impl.RefineTerm(got)) != 0 {
		t.Fatalf("MigrateTerm(%s) = %s", textOf(e), textOf(got))
	}
	if impl.MaximalTerm(e) != impl.TermSame(got, e) {
		t.Fatalf("MaximalTerm(%s) = %v, but MigrateTerm = %s", textOf(e), impl.MaximalTerm(e), textOf(got))
	}
	if again, ok := impl.MigrateTerm(got); !ok || !impl.TermSame(again, got) {
		t.Fatalf("MigrateTerm(%s) = %s, %v", textOf(got), textOf(again), ok)
	}
	return got, true
}

func TestMigrationOfManyTerms(t *testing.T) {
	changed, partly, untyped := 0, 0, 0
	for i, e := range migratableTerms(t) {
		if i%3 != 0 {
			continue
		}
		erased, _ := impl.EraseTerm(e)
		for k, start := range []impl.Term{e, erased} {
			got, ok := expectMigration(t, start)
			if !ok {
				untyped++
				continue
			}
			if (i+k)%5 == 0 {
				if want := migrated(start); !impl.TermSame(got, want) {
					t.Fatalf("MigrateTerm(%s) = %s, not %s", textOf(start), textOf(got), textOf(want))
				}
			}
			if !impl.TermSame(got, start) {
				changed++
				if !impl.StaticTerm(got) {
					partly++
				}
			}
		}
	}
	if changed < 3000 || partly < 300 || untyped < 1000 {
		t.Errorf("%d terms have changed, %d of them not to static ones, and %d have no type", changed, partly, untyped)
	}
}

// finerChoices returns the types in which each unknown part of x has been
// replaced by what RefineType puts there, or has been left as it is, x first.
func finerChoices(x impl.Type) []impl.Type {
	if x.Kind == impl.TypeAny {
		return []impl.Type{anyType, intType, boolType, fun(anyType, anyType), pair(anyType, anyType)}
	}
	if len(x.Kids) == 0 {
		return []impl.Type{x}
	}
	list := []impl.Type{}
	for _, a := range finerChoices(x.Kids[0]) {
		for _, b := range finerChoices(x.Kids[1]) {
			list = append(list, impl.Type{Kind: x.Kind, Kids: []impl.Type{a, b}})
		}
	}
	return slices.DeleteFunc(list, func(x impl.Type) bool { return !impl.TypeValid(x) })
}

// everyChoice calls visit with e with each combination of finerChoices of its types.
func everyChoice(e impl.Term, visit func(finer impl.Term)) {
	types := impl.TermTypes(e)
	var choose func(at int)
	choose = func(at int) {
		if at == len(types) {
			finer, _ := impl.WithTypes(e, types)
			visit(finer)
			return
		}
		before := types[at]
		for _, x := range finerChoices(before) {
			types[at] = x
			choose(at + 1)
		}
		types[at] = before
	}
	choose(0)
}

// countUnknown returns the number of unknown parts of the types of e.
func countUnknown(e impl.Term) int {
	count := 0
	for _, x := range impl.TermTypes(e) {
		count += impl.CountAny(x)
	}
	return count
}

// No number of changes at once refines a term that no single change refines.
func TestMaximalTermsForChangesAtOnce(t *testing.T) {
	maximal, several, refinable := 0, 0, 0
	for i, e := range migratableTerms(t) {
		if i%2 == 0 {
			continue
		}
		if got, ok := impl.MigrateTerm(e); ok && i%4 == 1 {
			e = got
		}
		unknown := countUnknown(e)
		if !hasType(e) || unknown < 1 || unknown > 4 || unknown == 4 && i%20 > 2 {
			continue
		}
		found := false
		everyChoice(e, func(finer impl.Term) { found = found || !impl.TermSame(finer, e) && hasType(finer) })
		if found == impl.MaximalTerm(e) {
			t.Fatalf("MaximalTerm(%s) = %v", textOf(e), !found)
		}
		if found {
			refinable++
		} else {
			maximal++
			if unknown > 1 {
				several++
			}
		}
	}
	if maximal < 100 || several < 20 || refinable < 500 {
		t.Errorf("%d maximal terms, %d of them with several unknown types, and %d others", maximal, several, refinable)
	}
}

// A refinement by two changes is not one of RefineTerm, but one of a refinement.
func TestRefinementsByTwoChanges(t *testing.T) {
	for _, c := range [][3]string{
		{"(!f:?.(f 1) !x:I.x)", "(!f:(?>?).(f 1) !x:I.x)", "(!f:(I>?).(f 1) !x:I.x)"},
		{"!x:(?>?).x", "!x:(I>?).x", "!x:(I>I).x"},
		{"!x:?.!y:?.x", "!x:I.!y:?.x", "!x:I.!y:I.x"},
		{"(!x:?.x (1:?))", "(!x:I.x (1:?))", "(!x:I.x (1:I))"},
		{"((!x:?.x:?) 1)", "((!x:?.x:(?>?)) 1)", "((!x:I.x:(?>?)) 1)"},
		{"{T?(1:?):(2:?)}", "{T?(1:?):(2:I)}", "{T?(1:I):(2:I)}"},
		{"([1,T]:?)", "([1,T]:(?*?))", "([1,T]:(?*B))"},
	} {
		start, between, both := parseTerm(t, c[0]), parseTerm(t, c[1]), parseTerm(t, c[2])
		contains := func(e, finer impl.Term) bool {
			return slices.ContainsFunc(impl.RefineTerm(e), func(other impl.Term) bool { return impl.TermSame(other, finer) })
		}
		if contains(start, both) || !contains(start, between) || !contains(between, both) {
			t.Errorf("RefineTerm(%s) = %s, RefineTerm(%s) = %s", c[0], termTexts(impl.RefineTerm(start)), c[1], termTexts(impl.RefineTerm(between)))
		}
	}
}

func TestPrecisionOfTerms(t *testing.T) {
	for text, want := range map[string]int{
		"1": 0, "x": 0, "(1 2)": 0, "{T?[1,2]:$(x+y)}": 0,
		"!x:?.x": 0, "!x:I.x": 1, "!x:B.x": 1, "!x:(?>?).x": 1, "!x:(?*?).x": 1, "!x:(I>?).x": 2, "!x:(?*B).x": 2, "!x:(I>B).x": 3,
		"(x:?)": 0, "(x:I)": 1, "(x:((I>?)*B))": 4, "(x:((?>?)*(?*?)))": 3, "(1:(((I>I)>I)>I))": 7, "(1:(((I>?)>?)>?))": 4,
		"!x:I.(x:?)": 1, "!x:?.(x:I)": 1, "!x:I.(x:B)": 2, "((x:I) (y:(I>I)))": 4, "(!x:(I>?).(x:(?*?)):?)": 3,
		"{(T:B)?!x:(I>I).x:[(1:I),(!y:?.y:B)]}": 6, "(!f:(I>I).(f 1) !x:I.(x+1))": 4, "((1:B) (T+1))": 1,
		textOf(as(num(1), fullType(intType, 4))): 15, textOf(as(num(1), fullType(anyType, 4))): 7,
		textOf(manySlots(t)): 26,
	} {
		if got := impl.PrecisionOf(parseTerm(t, text)); got != want {
			t.Errorf("PrecisionOf(%s) = %d", text, got)
		}
	}
	for _, e := range migratableTerms(t) {
		if got := impl.PrecisionOf(e); got != knownNodes(e) {
			t.Fatalf("PrecisionOf(%s) = %d", textOf(e), got)
		}
		if erased, _ := impl.EraseTerm(e); impl.PrecisionOf(erased) != 0 {
			t.Fatalf("PrecisionOf(%s) = %d", textOf(erased), impl.PrecisionOf(erased))
		}
	}
}

// expectMerge checks MergeTerms of two terms in both orders. A text "" means that there is no result.
func expectMerge(t *testing.T, a, b, want string) {
	t.Helper()
	for _, args := range [][2]string{{a, b}, {b, a}} {
		got, ok := impl.MergeTerms(parseTerm(t, args[0]), parseTerm(t, args[1]))
		if ok != (want != "") || ok && textOf(got) != want || !ok && !isZeroTerm(got) {
			t.Errorf("MergeTerms(%s, %s) = %s, %v", args[0], args[1], textOf(got), ok)
		}
	}
}

func TestMerges(t *testing.T) {
	for _, c := range [][3]string{
		// Terms without types, and equal terms.
		{"1", "1", "1"},
		{"{x?[1,T]:(y 1)}", "{x?[1,T]:(y 1)}", "{x?[1,T]:(y 1)}"},
		{"!x:I.x", "!x:I.x", "!x:I.x"},
		{"!x:?.x", "!x:?.x", "!x:?.x"},
		// One of them decides, or both do.
		{"!x:I.x", "!x:?.x", "!x:I.x"},
		{"(x:?)", "(x:(I*?))", "(x:(I*?))"},
		{"!x:(I>?).T", "!x:(?>B).T", "!x:(I>B).T"},
		{"!x:((?>I)*?).T", "!x:((B>?)*(?>?)).T", "!x:((B>I)*(?>?)).T"},
		{"(x:(((?>I)>?)>I))", "(x:(((B>?)>B)>?))", "(x:(((B>I)>B)>I))"},
		// Several places.
		{"!x:I.(x:?)", "!x:?.(x:B)", "!x:I.(x:B)"},
		{"!x:I.!y:?.x", "!x:?.!y:B.x", "!x:I.!y:B.x"},
		{"((x:I) (y:?))", "((x:?) (y:B))", "((x:I) (y:B))"},
		{"{(T:?)?(1:I):(x:(?>?))}", "{(T:B)?(1:?):(x:(I>?))}", "{(T:B)?(1:I):(x:(I>?))}"},
		{"(!x:(I>?).(x 1):(?>?))", "(!x:?.(x 1):(?>B))", "(!x:(I>?).(x 1):(?>B))"},
		// The result need not have a type, nor the terms.
		{"(!x:I.x (1:?))", "(!x:?.x (1:B))", "(!x:I.x (1:B))"},
		{"((!x:I.x:?) T)", "((!x:?.x:?) T)", "((!x:I.x:?) T)"},
		{"((1:I) (T+1))", "((1:?) (T+1))", "((1:I) (T+1))"},
		// A place that is not consistent, whatever the others are.
		{"!x:I.x", "!x:B.x", ""},
		{"!x:(I>?).x", "!x:(B>?).x", ""},
		{"!x:(?>?).x", "!x:(?*?).x", ""},
		{"(x:((I>B)*?))", "(x:((?>I)*?))", ""},
		{"(x:I)", "(x:(?>?))", ""},
		{"!x:I.(x:?)", "!x:B.(x:?)", ""},
		{"!x:?.(x:I)", "!x:?.(x:B)", ""},
		{"!x:I.!y:I.x", "!x:?.!y:B.x", ""},
		{"[(1:I),[(2:I),(3:B)]]", "[(1:?),[(2:B),(3:B)]]", ""},
		// Different erasures.
		{"1", "2", ""},
		{"1", "T", ""},
		{"x", "y", ""},
		{"!x:I.T", "!x:I.F", ""},
		{"!x:?.1", "!y:?.1", ""},
		{"!x:I.x", "!y:I.y", ""},
		{"(x:?)", "x", ""},
		{"(x:?)", "((x:?):?)", ""},
		{"(x:?)", "!x:?.x", ""},
		{"(x+y)", "(x<y)", ""},
		{"[1,2]", "[2,1]", ""},
		{"$x", "%x", ""},
		{"((x:I) y)", "(x (y:I))", ""},
		{"(!x:?.x 1)", "!x:?.(x 1)", ""},
	} {
		expectMerge(t, c[0], c[1], c[2])
	}
}

// merged returns the merge of two terms that differ in types only by the document, or the zero value.
func merged(a, b impl.Term) impl.Term {
	kids := []impl.Term{}
	for i := range a.Kids {
		kids = append(kids, merged(a.Kids[i], b.Kids[i]))
		if isZeroTerm(kids[i]) {
			return impl.Term{}
		}
	}
	if !isZero(a.Type) {
		meet, ok := impl.MeetTypes(a.Type, b.Type)
		if !ok {
			return impl.Term{}
		}
		a.Type = meet
	}
	a.Kids = kids
	return a
}

func TestMergesOfManyTerms(t *testing.T) {
	r := rand.New(rand.NewSource(62))
	found, finer, none := 0, 0, 0
	before := num(0)
	for i, e := range migratableTerms(t) {
		if i%3 == 0 {
			continue
		}
		erased, _ := impl.EraseTerm(e)
		a, b, other := lessPrecise(r, e), lessPrecise(r, e), lessPrecise(r, e)
		list := impl.TermTypes(other)
		for i := range list {
			if r.Intn(4) == 0 {
				list[i] = mixedType(r, 3)
			}
		}
		other, _ = impl.WithTypes(other, list)
		for _, args := range [][2]impl.Term{{e, e}, {e, erased}, {erased, e}, {a, b}, {e, a}, {a, other}, {other, b}, {e, other}} {
			want := merged(args[0], args[1])
			got, ok := impl.MergeTerms(args[0], args[1])
			if ok == isZeroTerm(want) || !impl.TermSame(got, want) {
				t.Fatalf("MergeTerms(%s, %s) = %s, %v", textOf(args[0]), textOf(args[1]), textOf(got), ok)
			}
			if !ok {
				none++
				continue
			}
			found++
			if !impl.TermPrecise(got, args[0]) || !impl.TermPrecise(got, args[1]) {
				t.Fatalf("MergeTerms(%s, %s) = %s", textOf(args[0]), textOf(args[1]), textOf(got))
			}
			if !impl.TermSame(got, args[0]) && !impl.TermSame(got, args[1]) {
				finer++
			}
		}
		// The least precise one: e is at least as precise as both.
		if least, ok := impl.MergeTerms(a, b); !ok || !impl.TermPrecise(e, least) {
			t.Fatalf("MergeTerms(%s, %s) = %s, %v", textOf(a), textOf(b), textOf(least), ok)
		}
		if got, ok := impl.MergeTerms(e, before); ok && !sameButTypes(e, before) || !ok && !isZeroTerm(got) {
			t.Fatalf("MergeTerms(%s, %s) = %s, %v", textOf(e), textOf(before), textOf(got), ok)
		}
		before = e
	}
	if found < 10000 || finer < 1000 || none < 1000 {
		t.Errorf("%d merges, %d of them finer than both terms, and %d pairs without one", found, finer, none)
	}
}

// Terms with casts, and terms beyond the limits; more terms that are not valid are in the tests of chapter 2.
func TestMigrationOfInvalidTerms(t *testing.T) {
	inserted, _, _ := impl.InsertCasts(parseTerm(t, "(!x:?.(x+1) 2)"))
	for what, bad := range map[string]impl.Term{
		"the zero value":                           {},
		"a term with casts":                        inserted,
		"a term that is too large":                 node(impl.TermApp, as(wideTerm(28), anyType), num(1)),
		"a term that is too deep":                  as(deepTerm(impl.TermFst, 0, 12), anyType),
		"ascriptions that are too deep":            deepTerm(impl.TermAs, 0, 13),
		"a function without a type":                lam("x", impl.Type{}, name("x")),
		"an ascription without a type":             as(num(1), impl.Type{}),
		"an ascription that is too deep":           as(num(1), leftChain(5)),
		"unknown parts of a type that is too deep": lam("x", fullType(anyType, 5), name("x")),
		"an unknown type beside an invalid one":    lam("x", anyType, as(name("x"), fun(anyType, impl.Type{}))),
		"a function with a long name":              lam("xy", anyType, num(1)),
		"a number that is too large":               as(num(1000), anyType),
		"a number with a type":                     {Kind: impl.TermNum, Type: anyType},
		"a function with a source type":            {Kind: impl.TermLam, Name: "x", Type: anyType, From: anyType, Kids: []impl.Term{num(1)}},
		"an ascription of itself":                  selfTerm(impl.TermAs, 1),
		"a function that contains itself":          selfTerm(impl.TermLam, 1),
	} {
		if impl.TermValid(bad) {
			t.Fatalf("%s: the term is valid", what)
		}
		expectNoMigration(t, what, bad)
	}
	for i, e := range mixedCasts() {
		if !impl.TermValid(e) && i%10 == 0 {
			expectNoMigration(t, textOf(e), e)
		}
	}
}

// Terms that are valid, but have no type, can be merged and have a precision.
func TestMigrationOfTermsWithoutType(t *testing.T) {
	for text, known := range map[string]int{
		"x": 0, "(x:?)": 0, "(x:I)": 1, "!x:?.y": 0, "(1 2)": 0, "((1:?) (T+1))": 0, "(!x:I.x T)": 1, "(!x:B.[x,(y:?)] 1)": 1,
		"(1:B)": 1, "((1:B):?)": 1, "(1:(?>?))": 1, "[(1:?),[1,[1,[1,1]]]]": 0, "!x:(((?>I)>I)>I).x": 6, "[!x:?.x,$1]": 0,
	} {
		e := parseTerm(t, text)
		if x, ok := impl.TypeOf(e); ok {
			t.Fatalf("%s has the type %s", text, impl.FormatType(x))
		}
		if list := impl.RefineTerm(e); len(list) != 0 {
			t.Errorf("RefineTerm(%s) = %s", text, termTexts(list))
		}
		if got, ok := impl.MigrateTerm(e); ok || !isZeroTerm(got) {
			t.Errorf("MigrateTerm(%s) = %s, %v", text, textOf(got), ok)
		}
		if impl.MaximalTerm(e) || impl.PrecisionOf(e) != known {
			t.Errorf("MaximalTerm(%s) = %v, PrecisionOf = %d", text, impl.MaximalTerm(e), impl.PrecisionOf(e))
		}
		expectMerge(t, text, text, text)
	}
}

func TestRefinementsAreNewMemory(t *testing.T) {
	for _, plain := range append(allTypes(2), fullType(anyType, 3), fullType(anyType, 4), fun(pair(intType, boolType), anyType)) {
		x := roomyType(plain)
		places := []impl.Term{{Type: x}}
		for range 2 {
			places = append(places, asTerms(impl.RefineType(x))...)
		}
		if reused(places...) {
			t.Fatalf("the refinements of %s share memory", impl.FormatType(plain))
		}
		for _, place := range places[1:] {
			overwrite(place.Type)
		}
		if !impl.TypeSame(x, plain) || markedType(x) {
			t.Fatalf("%s has been changed", impl.FormatType(plain))
		}
	}
}

func TestMigrationResultsAreNewMemory(t *testing.T) {
	for i, plain := range migratableTerms(t) {
		if i%6 != 0 {
			continue
		}
		erased, _ := impl.EraseTerm(plain)
		e, other := roomyTerm(plain), roomyTerm(erased)
		impl.MaximalTerm(e)
		impl.PrecisionOf(e)
		places := []impl.Term{e, other}
		for range 2 {
			places = append(places, impl.RefineTerm(e)...)
			for _, start := range []impl.Term{e, other} {
				first, _ := impl.MigrateTerm(start)
				whole, _ := impl.MergeTerms(start, start)
				both, _ := impl.MergeTerms(start, other)
				places = append(places, first, whole, both)
			}
		}
		if reused(places...) {
			t.Fatalf("the results for %s share memory", textOf(plain))
		}
		half := 2 + (len(places)-2)/2
		for _, result := range places[2:half] {
			overwriteTerm(result)
		}
		if again := append(impl.RefineTerm(e), places[len(places)-6:]...); !slices.EqualFunc(again, places[half:], impl.TermSame) {
			t.Fatalf("a result for %s has been changed", textOf(plain))
		}
		if !impl.TermSame(e, plain) || !impl.TermSame(other, erased) || marked(e) || marked(other) {
			t.Fatalf("%s has been changed", textOf(plain))
		}
	}
}
