package tests

import (
	"math/rand"
	"slices"
	"strconv"
	"strings"
	"testing"

	"loop.example/gradual/impl"
)

// Promise 4: Casts can be inserted exactly into terms with types, and the
// result has the same type by exact rules.

func castOf(e impl.Term, from, to impl.Type, label int) impl.Term {
	return impl.Term{Kind: impl.TermCast, From: from, Type: to, Label: label, Kids: []impl.Term{e}}
}

func parseCast(t *testing.T, text string) impl.Term {
	t.Helper()
	e, ok := impl.ParseCast(text)
	if !ok {
		t.Fatalf("ParseCast(%q) finds no term with casts", text)
	}
	return e
}

// typeTexts returns the texts of types with spaces in between.
func typeTexts(list []impl.Type) string {
	texts := []string{}
	for _, x := range list {
		texts = append(texts, impl.FormatType(x))
	}
	return strings.Join(texts, " ")
}

// castTypeText returns the text of the type of a term with casts, or "" if there is none.
func castTypeText(t *testing.T, e impl.Term) string {
	t.Helper()
	x, ok := impl.CastTypeOf(e)
	if ok != impl.TypeValid(x) || !ok && !isZero(x) {
		t.Errorf("CastTypeOf(%s) = %v, %v", textOf(e), x, ok)
	}
	return impl.FormatType(x)
}

// expectInsertion checks InsertCasts of a term that has a type, and what follows from it.
func expectInsertion(t *testing.T, text, want, wantType string) {
	t.Helper()
	e, x, ok := impl.InsertCasts(parseTerm(t, text))
	if !ok || impl.FormatCast(e) != want || impl.FormatType(x) != wantType {
		t.Errorf("InsertCasts(%s) = %s, %s, %v", text, impl.FormatCast(e), impl.FormatType(x), ok)
	}
	if got := castTypeText(t, parseCast(t, want)); got != wantType {
		t.Errorf("the type of %s is %q", want, got)
	}
	if y, ok := impl.TypeOf(parseTerm(t, text)); !ok || !impl.TypeSame(x, y) {
		t.Errorf("the type of %s is %s, %v", text, impl.FormatType(y), ok)
	}
}

// expectNoInsertion checks InsertCasts of a term that is not valid or has no type.
func expectNoInsertion(t *testing.T, what string, bad impl.Term) {
	t.Helper()
	if e, x, ok := impl.InsertCasts(bad); ok || !isZeroTerm(e) || !isZero(x) {
		t.Errorf("%s: InsertCasts = %v, %v, %v", what, e, x, ok)
	}
	expectNoRun(t, what, bad)
}

// expectNoCastTerm checks the result of every function for a term with casts that is not valid.
func expectNoCastTerm(t *testing.T, what string, bad impl.Term) {
	t.Helper()
	if impl.CastValid(bad) || impl.FormatCast(bad) != "" || len(impl.CastLabels(bad)) != 0 {
		t.Errorf("%s: treated as a term with casts", what)
	}
	for _, label := range []int{0, 1, -1, 5, impl.MaxLabel} {
		if list := impl.CastTypes(bad, label); len(list) != 0 {
			t.Errorf("%s: CastTypes = %v", what, list)
		}
	}
	if x, ok := impl.CastTypeOf(bad); ok || !isZero(x) {
		t.Errorf("%s: CastTypeOf = %v, %v", what, x, ok)
	}
	if e, ok := impl.BareTerm(bad); ok != impl.TermValid(bad) || !ok && !isZeroTerm(e) {
		t.Errorf("%s: BareTerm = %v, %v", what, e, ok)
	}
	if casts := impl.CountCasts(bad); casts != 0 {
		t.Errorf("%s: CountCasts = %d", what, casts)
	}
	expectNoSimplification(t, what, bad)
	expectNoEvaluation(t, what, bad)
}

func TestCastExample(t *testing.T) {
	expectInsertion(t, "(!x:?.(x+1) T)", "(!x:?.((x:?~I#1)+1) (T:B~?#2))", "I")
	e, _, _ := impl.InsertCasts(parseTerm(t, "(!x:?.(x+1) T)"))
	want := node(impl.TermApp,
		lam("x", anyType, node(impl.TermAdd, castOf(name("x"), anyType, intType, 1), num(1))),
		castOf(trueTerm, boolType, anyType, 2))
	if !impl.CastValid(e) || !impl.TermSame(e, want) {
		t.Errorf("InsertCasts = %v", e)
	}
	if labels := impl.CastLabels(e); !slices.Equal(labels, []int{1, 2}) {
		t.Errorf("CastLabels = %v", labels)
	}
	if got := typeTexts(impl.CastTypes(e, 1)) + ", " + typeTexts(impl.CastTypes(e, 2)); got != "? I, B ?" {
		t.Errorf("CastTypes = %s", got)
	}
	if bare, ok := impl.BareTerm(e); !ok || impl.FormatTerm(bare) != "(!x:?.(x+1) T)" {
		t.Errorf("BareTerm = %v, %v", bare, ok)
	}
}

func TestCastConstants(t *testing.T) {
	if impl.MaxCastNodes != 200 || impl.MaxCastDepth != 40 || impl.MaxLabel != 99 {
		t.Errorf("limits: %d, %d, %d", impl.MaxCastNodes, impl.MaxCastDepth, impl.MaxLabel)
	}
}

func TestNoCastIsInserted(t *testing.T) {
	for text, want := range map[string]string{
		"0":                           "I",
		"T":                           "B",
		"!x:I.x":                      "(I>I)",
		"!x:?.x":                      "(?>?)",
		"(!x:I.(x+1) 2)":              "I",
		"(!x:I.(x<1) 2)":              "B",
		"!f:(?>I).!x:?.(f x)":         "((?>I)>(?>I))",
		"!f:((I>?)>I).!g:(I>?).(f g)": "(((I>?)>I)>((I>?)>I))",
		"{(1<2)?F:T}":                 "B",
		"!u:?.{T?u:u}":                "(?>?)",
		"!u:(?*I).{F?u:u}":            "((?*I)>(?*I))",
		"[1,!u:?.[u,T]]":              "(I*(?>(?*B)))",
		"$[1,T]":                      "I",
		"!u:(?*B).$u":                 "((?*B)>?)",
		"!u:(?*B).%u":                 "((?*B)>B)",
	} {
		expectInsertion(t, text, text, want)
	}
}

func TestCastsOfOperands(t *testing.T) {
	for _, c := range [][3]string{
		// Applications: of both operands, of one of them, and where the types are equal already.
		{"!u:?.(u 1)", "!u:?.((u:?~(?>?)#1) (1:I~?#2))", "(?>?)"},
		{"!u:?.(u u)", "!u:?.((u:?~(?>?)#1) u)", "(?>?)"},
		{"!f:(?>B).(f 1)", "!f:(?>B).(f (1:I~?#1))", "((?>B)>B)"},
		{"!f:(?>?).(f f)", "!f:(?>?).(f (f:(?>?)~?#1))", "((?>?)>?)"},
		{"!u:?.(!x:I.x u)", "!u:?.(!x:I.x (u:?~I#1))", "(?>I)"},
		{"!g:(I>?).(!f:(?>B).T g)", "!g:(I>?).(!f:(?>B).T (g:(I>?)~(?>B)#1))", "((I>?)>B)"},
		{"!u:?.((u 1) T)", "!u:?.((((u:?~(?>?)#1) (1:I~?#2)):?~(?>?)#3) (T:B~?#4))", "(?>?)"},
		{"!u:?.(u (u 1))", "!u:?.((u:?~(?>?)#3) ((u:?~(?>?)#1) (1:I~?#2)))", "(?>?)"},
		{"(!f:?.(f 1) !x:I.x)", "(!f:?.((f:?~(?>?)#1) (1:I~?#2)) (!x:I.x:(I>I)~?#3))", "?"},
		// Sums and comparisons.
		{"!u:?.(u+1)", "!u:?.((u:?~I#1)+1)", "(?>I)"},
		{"!u:?.(1+u)", "!u:?.(1+(u:?~I#1))", "(?>I)"},
		{"!u:?.(u+u)", "!u:?.((u:?~I#1)+(u:?~I#2))", "(?>I)"},
		{"!u:?.(u<1)", "!u:?.((u:?~I#1)<1)", "(?>B)"},
		{"!u:?.(1<u)", "!u:?.(1<(u:?~I#1))", "(?>B)"},
		{"!u:?.(u<u)", "!u:?.((u:?~I#1)<(u:?~I#2))", "(?>B)"},
		// Choices: the branches are cast to their meet, which may be neither type.
		{"!u:?.{u?1:2}", "!u:?.{(u:?~B#1)?1:2}", "(?>I)"},
		{"!u:?.{T?u:2}", "!u:?.{T?(u:?~I#1):2}", "(?>I)"},
		{"!u:?.{T?1:u}", "!u:?.{T?1:(u:?~I#1)}", "(?>I)"},
		{"!u:?.{u?u:1}", "!u:?.{(u:?~B#1)?(u:?~I#2):1}", "(?>I)"},
		{"!u:?.{u?u:u}", "!u:?.{(u:?~B#1)?u:u}", "(?>?)"},
		{"!a:(I>?).!b:(?>B).{T?a:b}", "!a:(I>?).!b:(?>B).{T?(a:(I>?)~(I>B)#1):(b:(?>B)~(I>B)#2)}", "((I>?)>((?>B)>(I>B)))"},
		{"!a:?.!b:(?*B).{a?b:[1,a]}", "!a:?.!b:(?*B).{(a:?~B#1)?(b:(?*B)~(I*B)#2):([1,a]:(I*?)~(I*B)#3)}", "(?>((?*B)>(I*B)))"},
		// Selections.
		{"!u:?.$u", "!u:?.$(u:?~(?*?)#1)", "(?>?)"},
		{"!u:?.%u", "!u:?.%(u:?~(?*?)#1)", "(?>?)"},
		{"!u:?.$%u", "!u:?.$(%(u:?~(?*?)#1):?~(?*?)#2)", "(?>?)"},
		{"!p:(?*I).%$p", "!p:(?*I).%($p:?~(?*?)#1)", "((?*I)>?)"},
		{"%(1:?)", "%((1:I~?#1):?~(?*?)#2)", "?"},
		// Operands of functions and pairs keep their types.
		{"!u:?.!x:I.(u+x)", "!u:?.!x:I.((u:?~I#1)+x)", "(?>(I>I))"},
		{"[(1:?),(T:?)]", "[(1:I~?#1),(T:B~?#2)]", "(?*?)"},
	} {
		expectInsertion(t, c[0], c[1], c[2])
	}
}

func TestCastsOfAscriptions(t *testing.T) {
	for _, c := range [][3]string{
		// Without effect.
		{"(1:I)", "1", "I"},
		{"((T:B):B)", "T", "B"},
		{"([1,T]:(I*B))", "[1,T]", "(I*B)"},
		{"(!x:?.x:(?>?))", "!x:?.x", "(?>?)"},
		{"!x:?.(x:?)", "!x:?.x", "(?>?)"},
		{"((1:I)+((2:I):I))", "(1+2)", "I"},
		{"(!x:I.x (1:I))", "(!x:I.x 1)", "I"},
		{"{(T:B)?$([1,2]:(I*I)):((3:I):I)}", "{T?$[1,2]:3}", "I"},
		// With a cast, or with a cast of some of them.
		{"(1:?)", "(1:I~?#1)", "?"},
		{"((1:?):?)", "(1:I~?#1)", "?"},
		{"((1:I):?)", "(1:I~?#1)", "?"},
		{"(((1:?):I):?)", "(((1:I~?#1):?~I#2):I~?#3)", "?"},
		{"((((1:?):?):I):I)", "((1:I~?#1):?~I#2)", "I"},
		{"((1:?):B)", "((1:I~?#1):?~B#2)", "B"},
		{"((T:?):(I>(I*I)))", "((T:B~?#1):?~(I>(I*I))#2)", "(I>(I*I))"},
		{"(!x:I.x:(?>?))", "(!x:I.x:(I>I)~(?>?)#1)", "(?>?)"},
		{"((!x:I.(x:?):(?>B)):(I>?))", "((!x:I.(x:I~?#1):(I>?)~(?>B)#2):(?>B)~(I>?)#3)", "(I>?)"},
		{"([(1:?),T]:(I*?))", "([(1:I~?#1),T]:(?*B)~(I*?)#2)", "(I*?)"},
		// The cast of a TermAs comes before that of its result.
		{"((1:?)+2)", "(((1:I~?#1):?~I#2)+2)", "I"},
		{"((1:?) 2)", "(((1:I~?#1):?~(?>?)#2) (2:I~?#3))", "?"},
		{"{(T:?)?1:(2:?)}", "{((T:B~?#1):?~B#3)?1:((2:I~?#2):?~I#4)}", "I"},
	} {
		expectInsertion(t, c[0], c[1], c[2])
	}
	// A term that consists of ascriptions only, as many as there may be.
	e, want := num(1), num(1)
	for i := range 11 {
		from, to := intType, anyType
		if i%2 == 1 {
			from, to = anyType, intType
		}
		e, want = as(e, to), castOf(want, from, to, i+1)
	}
	expectInsertion(t, textOf(e), textOf(want), "?")
}

func TestOrderOfLabels(t *testing.T) {
	for _, c := range [][3]string{
		{"((1:?)+((2:?)+(3:?)))", "(((1:I~?#1):?~I#6)+(((2:I~?#2):?~I#4)+((3:I~?#3):?~I#5)))", "I"},
		{"(((1:?)+(2:?))+(3:?))", "((((1:I~?#1):?~I#3)+((2:I~?#2):?~I#4))+((3:I~?#5):?~I#6))", "I"},
		{"{(1:?)?(2:?):(!x:?.(x+1):?)}", "{((1:I~?#1):?~B#5)?(2:I~?#2):(!x:?.((x:?~I#3)+1):(?>I)~?#4)}", "?"},
		{"[$(1:?),[%(2:?),(3:?)]]", "[$((1:I~?#1):?~(?*?)#2),[%((2:I~?#3):?~(?*?)#4),(3:I~?#5)]]", "(?*(?*?))"},
		{"!x:?.!y:?.((x y) (y+x))", "!x:?.!y:?.((((x:?~(?>?)#1) y):?~(?>?)#4) (((y:?~I#2)+(x:?~I#3)):I~?#5))", "(?>(?>?))"},
		{"(!f:?.(f 1) !x:?.(x+1))", "(!f:?.((f:?~(?>?)#1) (1:I~?#2)) (!x:?.((x:?~I#3)+1):(?>I)~?#4))", "?"},
	} {
		expectInsertion(t, c[0], c[1], c[2])
	}
}

func TestNoInsertionWithoutType(t *testing.T) {
	for _, text := range []string{
		"(1 2)", "(!x:I.(x+1) T)", "(T+1)", "(1+T)", "(1<F)", "{1?2:3}", "{T?1:F}", "$1", "%!x:I.x", "(1:B)", "([1,T]:(B*?))",
		"[(1:?),(T+1)]", "((1:?) (1:B))", "!x:((I>I)>I).!y:I.x", "!x:I.[x,[x,[x,x]]]", "$[1,[1,[1,[1,1]]]]",
		"x", "(x:?)", "!x:I.y", "(!x:?.x x)", "[1,z]", "{T?1:x}", "(x 1)", "(x+(1:?))", "(!x:?.1 [y,y])", "((x:?):?)",
		"!x:?.!y:?.((x+y) (y x))", "!x:?.{T?[x,1]:(x+1)}", "(!f:(?>I).((f 1):B) !x:?.1)",
	} {
		expectNoInsertion(t, text, parseTerm(t, text))
	}
}

// wantedTypes returns the types that the operands of e should have, by the document.
func wantedTypes(e impl.Term, of []impl.Type, whole impl.Type) []impl.Type {
	switch e.Kind {
	case impl.TermApp:
		if of[0].Kind == impl.TypeAny {
			return []impl.Type{fun(anyType, anyType), anyType}
		}
		return []impl.Type{of[0], of[0].Kids[0]}
	case impl.TermAdd, impl.TermLess:
		return []impl.Type{intType, intType}
	case impl.TermIf:
		return []impl.Type{boolType, whole, whole}
	case impl.TermFst, impl.TermSnd:
		if of[0].Kind == impl.TypeAny {
			return []impl.Type{pair(anyType, anyType)}
		}
	case impl.TermAs:
		return []impl.Type{e.Type}
	}
	return of
}

// expectedCasts returns e, which has a type, with casts by the rules of the
// document. It adds the number of these casts to made.
func expectedCasts(ctx []impl.Bind, e impl.Term, made *int) impl.Term {
	inner := ctx
	if e.Kind == impl.TermLam {
		inner = append(slices.Clone(ctx), impl.Bind{Name: e.Name, Type: e.Type})
	}
	kids, of := []impl.Term{}, []impl.Type{}
	for _, kid := range e.Kids {
		kids = append(kids, expectedCasts(inner, kid, made))
		of = append(of, expectedType(inner, kid))
	}
	for i, wanted := range wantedTypes(e, of, expectedType(ctx, e)) {
		if impl.FormatType(of[i]) != impl.FormatType(wanted) {
			*made++
			kids[i] = castOf(kids[i], of[i], wanted, *made)
		}
	}
	if e.Kind == impl.TermAs {
		return kids[0]
	}
	e.Kids = kids
	return e
}

// expectSameInsertion compares InsertCasts with the rules of the document, and
// returns the number of casts, or -1 if e has no type.
func expectSameInsertion(t *testing.T, e impl.Term) int {
	t.Helper()
	whole := expectedType(nil, e)
	if isZero(whole) {
		expectNoInsertion(t, textOf(e), e)
		return -1
	}
	made := 0
	want := expectedCasts(nil, e, &made)
	got, x, ok := impl.InsertCasts(e)
	if !ok || !impl.TermSame(got, want) || !impl.TypeSame(x, whole) || !impl.CastValid(got) || impl.FormatCast(got) != textOf(want) {
		t.Fatalf("InsertCasts(%s) = %s, %s, %v", textOf(e), impl.FormatCast(got), impl.FormatType(x), ok)
	}
	if castTypeText(t, got) != impl.FormatType(whole) {
		t.Fatalf("the type of %s is not %s", textOf(got), impl.FormatType(whole))
	}
	labels := []int{}
	for label := 1; label <= made; label++ {
		labels = append(labels, label)
	}
	if !slices.Equal(impl.CastLabels(got), labels) {
		t.Fatalf("CastLabels(%s) = %v", textOf(got), impl.CastLabels(got))
	}
	bare, ok := impl.BareTerm(got)
	same, okToo := impl.BareTerm(e)
	if !ok || !okToo || !impl.TermSame(bare, same) || !impl.TermSame(bare, bared(e)) {
		t.Fatalf("BareTerm(%s) = %s", textOf(got), textOf(bare))
	}
	return made
}

// bared returns a term without casts, TermAs nodes and types.
func bared(e impl.Term) impl.Term {
	if e.Kind == impl.TermCast || e.Kind == impl.TermAs {
		return bared(e.Kids[0])
	}
	if e.Kind == impl.TermLam {
		e.Type = anyType
	}
	kids := []impl.Term{}
	for _, kid := range e.Kids {
		kids = append(kids, bared(kid))
	}
	e.Kids = kids
	return e
}

// Every rule is checked for all types, up to a depth of 2, of the operands.
func TestInsertionForAllTypes(t *testing.T) {
	list := allTypes(2)
	for _, a := range list {
		for _, b := range list {
			v, w := as(as(num(1), anyType), a), as(as(trueTerm, anyType), b)
			for _, e := range []impl.Term{
				node(impl.TermApp, v, w), node(impl.TermAdd, v, w), node(impl.TermLess, v, w), node(impl.TermIf, v, w, w),
				node(impl.TermIf, trueTerm, v, w), node(impl.TermPair, v, w), node(impl.TermFst, v), node(impl.TermSnd, v),
				lam("x", b, v), as(v, b), node(impl.TermApp, lam("x", a, name("x")), w),
			} {
				expectSameInsertion(t, e)
			}
		}
	}
}

// closedCases returns many closed terms, most of which have a type.
func closedCases(t *testing.T) []impl.Term {
	list := []impl.Term{}
	for _, c := range typedCases(t) {
		e := c.e
		for _, b := range c.ctx {
			e = node(impl.TermApp, lam(b.Name, b.Type, e), as(num(1), anyType))
		}
		if impl.TermValid(e) {
			list = append(list, e)
		}
	}
	return list
}

func TestInsertionIntoManyTerms(t *testing.T) {
	typed, many, without := 0, 0, 0
	for _, e := range closedCases(t) {
		switch made := expectSameInsertion(t, e); {
		case made < 0:
			without++
		case made >= 10:
			many++
			typed++
		default:
			typed++
		}
	}
	if typed < 2000 || many < 200 || without < 200 {
		t.Errorf("only %d terms have a type, %d have many casts, and %d have no type", typed, many, without)
	}
}

func TestTypesOfTermsWithCasts(t *testing.T) {
	for text, want := range map[string]string{
		"(1:I~?#1)":                               "?",
		"(1:I~?#-99)":                             "?",
		"(1:I~I#5)":                               "I",
		"((1:I~?#3):?~?#3)":                       "?",
		"((1:I~?#3):?~B#3)":                       "B",
		"(!x:?.x (1:I~?#1))":                      "?",
		"((!x:?.x:(?>?)~(I>?)#1) 1)":              "?",
		"((1:I~?#1):?~(I>(I>(I>I)))#2)":           "(I>(I>(I>I)))",
		"(((1:I~?#1):?~I#2)+2)":                   "I",
		"(((1:I~?#1):?~I#2)<2)":                   "B",
		"{((T:B~?#1):?~B#2)?(1:I~?#3):(F:B~?#4)}": "?",
		"$([1,T]:(I*B)~(?*B)#1)":                  "?",
		"%([1,T]:(I*B)~(?*B)#1)":                  "B",
		"[(1:I~?#1),!x:(I>?).(x:(I>?)~(?>B)#2)]":  "(?*((I>?)>(?>B)))",
		"!x:I.!x:B.(x:B~?#1)":                     "(I>(B>?))",
		"!x:I.!y:I.!z:I.([1,2]:(I*I)~?#1)":        "(I>(I>(I>?)))",
	} {
		if got := castTypeText(t, parseCast(t, text)); got != want {
			t.Errorf("the type of %s is %q, not %q", text, got, want)
		}
	}
	// Neither consistency nor matching is enough, and an open term has no type.
	for _, text := range []string{
		"(1 2)", "(!x:?.x 1)", "(!x:I.x (1:I~?#1))", "((1:I~?#1) (1:I~?#2))", "(!f:(?>I).1 !x:I.x)", "((!x:?.x:(?>?)~(I>?)#1) T)",
		"((!x:?.x:(?>?)~(I>?)#1) (1:I~?#2))", "((1:I~?#1)+1)", "(1+(1:I~?#1))", "(T+1)", "((1:I~?#1)<1)", "(1<(1:I~?#1))",
		"{(T:B~?#1)?1:2}", "{1?1:2}", "{T?(1:I~?#1):2}", "{T?1:(2:I~?#1)}", "{T?1:F}", "{T?[1,(1:I~?#1)]:[(1:I~?#1),1]}",
		"$(1:I~?#1)", "%([1,1]:(I*I)~?#1)", "$!x:I.x", "$1", "(1:?~I#1)", "(1:B~?#1)", "(!x:I.x:(?>I)~?#1)", "((1:I~?#1):I~?#2)",
		"!x:I.(x:?~I#1)", "[1,(T:I~?#1)]", "!x:((I>I)>I).!y:I.x", "[1,[1,[1,[1,1]]]]", "$[1,[1,[1,[1,1]]]]",
		"x", "(x:?~I#1)", "(!x:I.x x)", "!y:?.(x:?~?#1)", "[1,z]", "(!x:?.x (y:?~?#1))", "{T?1:x}",
	} {
		if got := castTypeText(t, parseCast(t, text)); got != "" {
			t.Errorf("the type of %s is %s", text, got)
		}
	}
}

// exactType returns the type of a term with casts by the rules of the document, or the zero value if there is none.
func exactType(ctx []impl.Bind, e impl.Term) impl.Type {
	inner := ctx
	if e.Kind == impl.TermLam {
		inner = append(slices.Clone(ctx), impl.Bind{Name: e.Name, Type: e.Type})
	}
	of := []string{}
	types := []impl.Type{}
	for _, kid := range e.Kids {
		types = append(types, exactType(inner, kid))
		of = append(of, impl.FormatType(types[len(types)-1]))
		if of[len(of)-1] == "" {
			return impl.Type{}
		}
	}
	known, holds := impl.Type{}, true
	switch e.Kind {
	case impl.TermApp:
		if holds = types[0].Kind == impl.TypeFun && impl.FormatType(types[0].Kids[0]) == of[1]; holds {
			known = types[0].Kids[1]
		}
	case impl.TermAdd:
		known, holds = intType, of[0] == "I" && of[1] == "I"
	case impl.TermLess:
		known, holds = boolType, of[0] == "I" && of[1] == "I"
	case impl.TermIf:
		known, holds = types[1], of[0] == "B" && of[1] == of[2]
	case impl.TermFst, impl.TermSnd:
		if holds = types[0].Kind == impl.TypePair; holds {
			known = types[0].Kids[e.Kind-impl.TermFst]
		}
	case impl.TermCast:
		known, holds = e.Type, of[0] == impl.FormatType(e.From)
	default:
		known = expectedByRule(ctx, e, types)
	}
	if !holds || !impl.TypeValid(known) {
		return impl.Type{}
	}
	return known
}

// Exact rules for all types, up to a depth of 2, of the operands.
func TestExactRulesForAllTypes(t *testing.T) {
	list := allTypes(2)
	of := func(x impl.Type) impl.Term { return castOf(castOf(num(1), intType, anyType, 1), anyType, x, 2) }
	for _, a := range list {
		for _, b := range list {
			v, w := of(a), of(b)
			terms := []impl.Term{
				node(impl.TermApp, v, w), node(impl.TermAdd, v, w), node(impl.TermLess, v, w), node(impl.TermIf, v, w, w),
				node(impl.TermIf, trueTerm, v, w), node(impl.TermPair, v, w), node(impl.TermFst, v), node(impl.TermSnd, v),
				lam("x", b, v), node(impl.TermApp, lam("x", a, name("x")), w), node(impl.TermApp, of(fun(a, b)), w),
			}
			if impl.Consistent(a, b) {
				terms = append(terms, castOf(v, a, b, 7), castOf(v, b, a, -7), castOf(w, a, b, 7), castOf(v, b, b, 7))
			}
			for _, e := range terms {
				if got, want := castTypeText(t, e), impl.FormatType(exactType(nil, e)); got != want {
					t.Errorf("the type of %s is %q, not %q", textOf(e), got, want)
				}
			}
		}
	}
}

// changedTypes returns a term with casts in which random numbers choose less
// precise types, in one of so many places on average.
func changedTypes(r *rand.Rand, e impl.Term, places int) impl.Term {
	e.Kids = slices.Clone(e.Kids)
	if (e.Kind == impl.TermLam || e.Kind == impl.TermCast) && r.Intn(places) == 0 {
		if e.Kind == impl.TermCast && r.Intn(2) == 0 {
			e.From = blurred(r, e.From)
		} else {
			e.Type = blurred(r, e.Type)
		}
	}
	for i := range e.Kids {
		e.Kids[i] = changedTypes(r, e.Kids[i], places)
	}
	return e
}

// A term with a cast that is not exact has no type, except where the types still agree.
func TestExactRulesForManyTerms(t *testing.T) {
	r := rand.New(rand.NewSource(8))
	typed, untyped := 0, 0
	for i, e := range closedCases(t) {
		inserted, _, ok := impl.InsertCasts(e)
		if !ok || i%2 == 1 {
			continue
		}
		for range 6 {
			changed := changedTypes(r, inserted, 4)
			if !impl.CastValid(changed) {
				t.Fatalf("%s is not valid", textOf(changed))
			}
			got, want := castTypeText(t, changed), impl.FormatType(exactType(nil, changed))
			if got != want {
				t.Fatalf("the type of %s is %q, not %q", textOf(changed), got, want)
			}
			if got == "" {
				untyped++
			} else if !impl.TermSame(changed, inserted) {
				typed++
			}
		}
	}
	if typed < 100 || untyped < 1000 {
		t.Errorf("only %d changed terms have a type, and %d have none", typed, untyped)
	}
}

func TestTextsOfCasts(t *testing.T) {
	x := name("x")
	for text, want := range map[string]impl.Term{
		"(x:I~?#1)":               castOf(x, intType, anyType, 1),
		"(x:I~?#-1)":              castOf(x, intType, anyType, -1),
		"(12:?~I#10)":             castOf(num(12), anyType, intType, 10),
		"(T:B~B#99)":              castOf(trueTerm, boolType, boolType, 99),
		"(F:?~?#-99)":             castOf(falseTerm, anyType, anyType, -99),
		"(x:(I>?)~(?>(I*B))#-20)": castOf(x, fun(intType, anyType), fun(anyType, pair(intType, boolType)), -20),
		"((x:I~?#2):?~B#-2)":      castOf(castOf(x, intType, anyType, 2), anyType, boolType, -2),
		"(!x:I.x:(I>I)~?#3)":      castOf(lam("x", intType, x), fun(intType, intType), anyType, 3),
		"!x:I.(x:I~?#3)":          lam("x", intType, castOf(x, intType, anyType, 3)),
		"((x:?~I#1) (x:I~?#2))":   node(impl.TermApp, castOf(x, anyType, intType, 1), castOf(x, intType, anyType, 2)),
		"((x:?~I#1)+1)":           node(impl.TermAdd, castOf(x, anyType, intType, 1), num(1)),
		"(1<(x:?~I#1))":           node(impl.TermLess, num(1), castOf(x, anyType, intType, 1)),
		"((x+1):I~?#1)":           castOf(node(impl.TermAdd, x, num(1)), intType, anyType, 1),
		"((x 1):I~?#1)":           castOf(node(impl.TermApp, x, num(1)), intType, anyType, 1),
		"[(1:I~?#1),(2:I~?#1)]":   node(impl.TermPair, castOf(num(1), intType, anyType, 1), castOf(num(2), intType, anyType, 1)),
		"$%(x:?~I#1)":             node(impl.TermFst, node(impl.TermSnd, castOf(x, anyType, intType, 1))),
		"($x:?~I#1)":              castOf(node(impl.TermFst, x), anyType, intType, 1),
		"({x?1:2}:I~?#1)":         castOf(node(impl.TermIf, x, num(1), num(2)), intType, anyType, 1),
		"{(x:?~B#1)?(1:I~?#2):(F:B~?#3)}": node(impl.TermIf, castOf(x, anyType, boolType, 1), castOf(num(1), intType, anyType, 2),
			castOf(falseTerm, boolType, anyType, 3)),
		"!x:(I>(B*I)).[x,{T?(1<2):$%999}]": lam("x", fun(intType, pair(boolType, intType)), node(impl.TermPair, x,
			node(impl.TermIf, trueTerm, node(impl.TermLess, num(1), num(2)), node(impl.TermFst, node(impl.TermSnd, num(999)))))),
	} {
		if e := parseCast(t, text); !impl.TermSame(e, want) {
			t.Errorf("ParseCast(%q) = %v", text, e)
		}
		if got := impl.FormatCast(want); got != text || !impl.CastValid(want) {
			t.Errorf("the text of %q is %q", text, got)
		}
	}
}

// mixedCast returns a term with casts with a depth of at most depth, which random numbers choose.
func mixedCast(r *rand.Rand, depth int) impl.Term {
	e := mixedTerm(r, min(depth, 2))
	if e.Kind == impl.TermAs || depth > 1 && r.Intn(3) == 0 {
		to := mixedType(r, 1+r.Intn(4))
		e = castOf(num(1), blurred(r, to), to, (1+r.Intn(99))*(1-2*r.Intn(2)))
		if r.Intn(2) == 0 {
			e.From, e.Type = e.Type, e.From
		}
	}
	for i := range e.Kids {
		e.Kids[i] = mixedCast(r, depth-1)
	}
	return e
}

// mixedCasts returns valid terms with casts.
func mixedCasts() []impl.Term {
	r := rand.New(rand.NewSource(9))
	list := []impl.Term{}
	for len(list) < 1500 {
		if e := mixedCast(r, 1+r.Intn(30)); nodes(e) <= 200 {
			list = append(list, e)
		}
	}
	return list
}

func TestTermsWithCastsAreReadBack(t *testing.T) {
	large := 0
	for _, e := range mixedCasts() {
		text := textOf(e)
		if !impl.CastValid(e) || impl.FormatCast(e) != text {
			t.Fatalf("%q has the text %q", text, impl.FormatCast(e))
		}
		if back, ok := impl.ParseCast(text); !ok || !impl.TermSame(back, e) {
			t.Fatalf("ParseCast(%q) = %v, %v", text, back, ok)
		}
		if nodes(e) > 30 && depthOf(e) > 12 {
			large++
		}
	}
	if large < 50 {
		t.Errorf("only %d terms with casts are too large for a term", large)
	}
	// Without TermAs nodes and casts, terms and terms with casts are the same.
	for _, e := range mixedTerms() {
		text := textOf(e)
		with := slices.ContainsFunc(everyNode(e), func(x impl.Term) bool { return x.Kind == impl.TermAs })
		got, ok := impl.ParseCast(text)
		if impl.CastValid(e) == with || ok == with || ok && !impl.TermSame(got, e) || !ok && !isZeroTerm(got) {
			t.Fatalf("ParseCast(%q) = %v, %v", text, got, ok)
		}
	}
}

// everyNode returns the nodes of e, a node before its operands, from left to right.
func everyNode(e impl.Term) []impl.Term {
	list := []impl.Term{e}
	for _, kid := range e.Kids {
		list = append(list, everyNode(kid)...)
	}
	return list
}

func TestLabels(t *testing.T) {
	for label := -250; label <= 250; label++ {
		want := label >= -99 && label <= 99 && label != 0
		e := castOf(num(1), intType, anyType, label)
		text := "(1:I~?#" + strconv.Itoa(label) + ")"
		if impl.CastValid(e) != want || (impl.FormatCast(e) == text) != want {
			t.Errorf("the label %d: CastValid = %v, text %q", label, !want, impl.FormatCast(e))
		}
		if back, ok := impl.ParseCast(text); ok != want || ok && !impl.TermSame(back, e) || !ok && !isZeroTerm(back) {
			t.Errorf("ParseCast(%q) = %v, %v", text, back, ok)
		}
		if !want {
			expectNoCastTerm(t, "the label "+strconv.Itoa(label), e)
		}
	}
	for _, label := range []int{1 << 40, -1 << 63, 1<<63 - 1, 1 << 32} {
		expectNoCastTerm(t, "the label "+strconv.Itoa(label), castOf(num(1), intType, anyType, label))
	}
	for _, text := range []string{
		"", "-", "--1", "+1", "- 1", " 1", "1 ", "01", "-01", "001", "00", "-0", "-00", "1-", "1-1", "1.0", "x", "-x", "1x", "0x1", "१",
		"100", "-100", "990", "18446744073709551617", "-18446744073709551617", strings.Repeat("9", 100000), "-" + strings.Repeat("0", 100000),
	} {
		if e, ok := impl.ParseCast("(1:I~?#" + text + ")"); ok || !isZeroTerm(e) {
			t.Errorf("the label %.40q is accepted: %v, %v", text, e, ok)
		}
	}
}

func TestTextsThatAreNoTermsWithCasts(t *testing.T) {
	for _, text := range []string{
		"", " ", "(1:?)", "(1:I)", "((1:?):?~I#1)", "((1:I~?#1):?)", "[1,(2:?)]", "!x:?.(x:I)", "(1:I~B#1)", "(1:(I>I)~(I*I)#1)",
		"(1:(I>?)~(B>?)#1)", "(1:I~(?>?)#1)", "((1:B~I#1)+1)", "(1:I~?)", "(1:I~?#)", "(1:I~?#-)", "(1:I~#1)", "(1:~?#1)", "(:I~?#1)",
		"(1:I?#1)", "(1:I#1)", "(1:I#1~?)", "(1~I:?#1)", "(1I~?#1)", "(1:I~?1)", "(1:I~?#1", "1:I~?#1)", "1:I~?#1", "(1:I~?#1))",
		"((1:I~?#1)", "(1 :I~?#1)", "(1: I~?#1)", "(1:I ~?#1)", "(1:I~ ?#1)", "(1:I~? #1)", "(1:I~?#1 )", " (1:I~?#1)", "(1:I~?#1) ",
		"(1:I~?#1)\n", "(1:I~?#1\x00)", "(1:i~?#1)", "(1:I~x#1)", "(1:1~?#1)", "(1:I~?~I#1)", "(1:I~?#1#2)", "(1:I~?#1:?)", "(1,I~?#1)",
		"(1:((((I>I)>I)>I)>I)~?#1)", "(1:?~((((I>I)>I)>I)>I)#1)", "(1:(I~?)#1)", "(1:(I>I~?#1)", "(1:I>I~?#1)", "{1:I~?#1}", "[1:I~?#1]",
		"(1 2 (1:I~?#1))", "(1:I~?#1)+1", "((1:I~?#1)-1)", "((1:I~?#1))", "($:I~?#1)", "(1000:I~?#1)", "(01:I~?#1)", "(X:I~?#1)",
		"(1:Ｉ~?#1)", "(1:I～?#1)", "(1:I~?＃1)", "(\xff:I~?#1)", "(1:\xff~?#1)", "(1:I~?#\xff)",
		strings.Repeat("(", 1000000), strings.Repeat("(1:I~?#1", 100000), strings.Repeat("(", 100000) + "1" + strings.Repeat(":I~I#1)", 100000),
		strings.Repeat("$", 1000000) + "x", "(1:" + strings.Repeat("(", 1000000), "(1:I~" + strings.Repeat("(I>", 100000),
	} {
		if e, ok := impl.ParseCast(text); ok || !isZeroTerm(e) {
			t.Errorf("ParseCast(%.40q) = %v, %v", text, e, ok)
		}
	}
}

// A text that is accepted is the text of the term with casts that is found, however it came about.
func TestChangedTextsOfCasts(t *testing.T) {
	signs := "x1F09?IB(>*)!:.+ <{}[,]$%~#-\x00\xff"
	found := 0
	for _, e := range mixedCasts() {
		text := textOf(e)
		if len(text) > 40 || !strings.Contains(text, "~") {
			continue
		}
		found++
		for at := range len(text) {
			changed := []string{text[:at], text[at:], text[:at] + text[at+1:]}
			for _, sign := range []byte(signs) {
				changed = append(changed, text[:at]+string([]byte{sign})+text[at:], text[:at]+string([]byte{sign})+text[at+1:])
			}
			for _, other := range changed {
				got, ok := impl.ParseCast(other)
				if ok && (textOf(got) != other || !impl.CastValid(got)) || !ok && !isZeroTerm(got) {
					t.Fatalf("ParseCast(%q) = %v, %v", other, got, ok)
				}
			}
		}
	}
	if found < 50 {
		t.Errorf("only %d texts have been changed", found)
	}
}

// Casts are accepted exactly if their types are valid and consistent.
func TestTypesOfValidCasts(t *testing.T) {
	list := append(allTypes(2), leftChain(4), rightChain(4))
	for _, a := range list {
		for _, b := range list {
			e := castOf(num(1), a, b, 1)
			want := impl.Consistent(a, b)
			text := textOf(e)
			if impl.CastValid(e) != want || (impl.FormatCast(e) == text) != want {
				t.Errorf("CastValid(%s) = %v, %q", text, !want, impl.FormatCast(e))
			}
			if back, ok := impl.ParseCast(text); ok != want || ok && !impl.TermSame(back, e) || !ok && !isZeroTerm(back) {
				t.Errorf("ParseCast(%s) = %v, %v", text, back, ok)
			}
			if !want {
				expectNoCastTerm(t, text, e)
			}
		}
	}
	for what, bad := range invalidTypes() {
		for _, other := range []impl.Type{anyType, intType, bad} {
			expectNoCastTerm(t, "from an invalid type, "+what, castOf(num(1), bad, other, 1))
			expectNoCastTerm(t, "to an invalid type, "+what, castOf(num(1), other, bad, 1))
		}
	}
}

// wideCast returns a closed term with casts of this many nodes whose depth is small.
func wideCast(count int) impl.Term {
	switch count {
	case 1:
		return num(1)
	case 2:
		return castOf(num(1), intType, anyType, 1)
	}
	left := (count - 1) / 2
	return node(impl.TermPair, wideCast(left), wideCast(count-1-left))
}

func TestCastNodeLimit(t *testing.T) {
	for count := 1; count <= 200; count++ {
		for _, e := range []impl.Term{wideCast(count), wideTerm(count)} {
			text := textOf(e)
			if nodes(e) != count || !impl.CastValid(e) || impl.FormatCast(e) != text || !impl.TermSame(parseCast(t, text), e) {
				t.Errorf("a term with casts of %d nodes is not accepted", count)
			}
			if bare, ok := impl.BareTerm(e); !ok || !impl.TermSame(bare, bared(e)) {
				t.Errorf("BareTerm of a term with casts of %d nodes: %v", count, ok)
			}
		}
	}
	for _, count := range []int{201, 202, 400, 5000} {
		for _, e := range []impl.Term{wideCast(count), wideTerm(count)} {
			expectNoCastTerm(t, strconv.Itoa(count)+" nodes", e)
			if got, ok := impl.ParseCast(textOf(e)); ok || !isZeroTerm(got) {
				t.Errorf("the text of a term with casts of %d nodes is accepted", count)
			}
		}
	}
	// As wide as the depth allows, with operands that are shared.
	e := castOf(num(1), intType, anyType, 1)
	for range 38 {
		e = node(impl.TermIf, e, e, e)
	}
	expectNoCastTerm(t, "the widest term with casts", e)
}

func TestCastDepthLimit(t *testing.T) {
	for kind := impl.TermLam; kind <= impl.TermCast; kind++ {
		if kind == impl.TermAs {
			continue
		}
		for index := range operands(kind) {
			last, over := deepTerm(kind, index, 40), deepTerm(kind, index, 41)
			text := textOf(last)
			if depthOf(last) != 40 || !impl.CastValid(last) || impl.FormatCast(last) != text || !impl.TermSame(parseCast(t, text), last) {
				t.Errorf("%q is not accepted", text)
			}
			expectNoCastTerm(t, "a depth of 41", over)
			if e, ok := impl.ParseCast(textOf(over)); ok || !isZeroTerm(e) {
				t.Errorf("ParseCast(%q) = %v, %v", textOf(over), e, ok)
			}
		}
	}
	deepest := deepTerm(impl.TermCast, 0, 40)
	if castTypeText(t, deepest) != "I" || len(impl.CastTypes(deepest, 1)) != 2*39 {
		t.Errorf("39 casts: type %q, CastTypes %v", castTypeText(t, deepest), impl.CastTypes(deepest, 1))
	}
	if bare, ok := impl.BareTerm(deepest); !ok || !impl.TermSame(bare, num(1)) {
		t.Errorf("BareTerm of 39 casts = %v, %v", bare, ok)
	}
}

func TestInvalidCastNodes(t *testing.T) {
	cast := castOf(num(1), intType, anyType, 5)
	for _, good := range append(oneOfEach(), cast) {
		if impl.CastValid(good) != (good.Kind != impl.TermAs) {
			t.Errorf("kind %d: CastValid = %v", good.Kind, impl.CastValid(good))
		}
		changes := changesOf(good)
		changes["kind 13"] = func(e *impl.Term) { e.Kind = impl.TermAs }
		changes["a TermAs"] = func(e *impl.Term) { *e = node(impl.TermFst, castOf(as(*e, anyType), anyType, anyType, 1)) }
		if len(good.Kids) > 0 {
			changes["a TermAs as an operand"] = func(e *impl.Term) { e.Kids[0] = as(num(1), anyType) }
		}
		if good.Kind != impl.TermCast {
			changes["kind 14"] = func(e *impl.Term) { e.Kind = impl.TermCast }
			expectInvalid(t, good, changes, expectNoCastTerm)
			continue
		}
		changes["no source type"] = func(e *impl.Term) { e.From = impl.Type{} }
		changes["a source type that is too deep"] = func(e *impl.Term) { e.From = leftChain(5) }
		changes["a source type that contains itself"] = func(e *impl.Term) { e.From = selfType(impl.TypeFun, 2) }
		changes["inconsistent types"] = func(e *impl.Term) { e.Type = boolType }
		changes["no label"] = func(e *impl.Term) { e.Label = 0 }
		changes["a large label"] = func(e *impl.Term) { e.Label = 100 }
		changes["a large negative label"] = func(e *impl.Term) { e.Label = -100 }
		changes["another kind"] = func(e *impl.Term) { e.Kind = impl.TermFst }
		expectInvalid(t, good, changes, expectNoCastTerm)
	}
}

func TestInvalidTermsWithCasts(t *testing.T) {
	expectNoCastTerm(t, "the zero value", impl.Term{})
	expectNoCastTerm(t, "a TermAs", as(num(1), anyType))
	expectNoCastTerm(t, "a TermAs in a cast", castOf(as(num(1), anyType), anyType, intType, 1))
	expectNoCastTerm(t, "a cast in a TermAs", as(castOf(num(1), intType, anyType, 1), intType))
	expectNoCastTerm(t, "a cast beside a TermAs", node(impl.TermPair, castOf(num(1), intType, anyType, 1), as(num(1), anyType)))
	for _, kind := range []int{impl.TermFst, impl.TermApp, impl.TermIf} {
		expectNoCastTerm(t, "a term that contains itself", selfTerm(kind, operands(kind)))
	}
	self := castOf(num(1), anyType, anyType, 1)
	self.Kids[0] = self
	expectNoCastTerm(t, "a cast that contains itself", self)
	expectNoCastTerm(t, "very many casts", deepTerm(impl.TermCast, 0, 100000))
	expectNoCastTerm(t, "very many operands", impl.Term{Kind: impl.TermPair, Kids: slices.Repeat([]impl.Term{num(1)}, 1000000)})
	if impl.TermValid(castOf(num(1), intType, anyType, 1)) || impl.FormatTerm(castOf(num(1), intType, anyType, 1)) != "" {
		t.Error("a cast is a term")
	}
}

// Fields that are empty but not nil are as good as nil.
func TestEmptyFieldsOfCasts(t *testing.T) {
	for _, plain := range append(oneOfEach(), castOf(num(1), intType, anyType, -5)) {
		if plain.Kind == impl.TermAs {
			continue
		}
		e := roomyTerm(plain)
		if !impl.CastValid(e) || impl.FormatCast(e) != textOf(plain) || !impl.TermSame(e, parseCast(t, textOf(plain))) {
			t.Errorf("%q with empty fields is not accepted", textOf(plain))
		}
	}
}

func TestCastLabels(t *testing.T) {
	for text, want := range map[string][]int{
		"1":                                      nil,
		"!x:I.(x y)":                             nil,
		"(x:I~?#1)":                              {1},
		"(x:I~?#-1)":                             {-1},
		"[(1:I~?#7),(T:B~?#-7)]":                 {-7, 7},
		"[(1:I~?#-7),(T:B~?#7)]":                 {-7, 7},
		"[(1:I~?#7),(T:B~?#7)]":                  {7},
		"((((1:I~?#3):?~I#2):I~?#1):?~I#3)":      {1, 2, 3},
		"{(x:?~B#10)?(1:I~?#9):(2:I~?#-10)}":     {-10, 9, 10},
		"[[(1:I~?#99),(1:I~?#-99)],(1:I~?#100)]": nil,
		"[[(1:I~?#99),(1:I~?#-99)],!x:?.(x:?~?#98)]": {-99, 98, 99},
		"((x:?~?#5) $(y:?~?#-5))":                    {-5, 5},
	} {
		e, ok := impl.ParseCast(text)
		if got := impl.CastLabels(e); !slices.Equal(got, want) || ok == strings.Contains(text, "#100") {
			t.Errorf("CastLabels(%s) = %v", text, got)
		}
	}
	for _, e := range mixedCasts() {
		want, every := []int{}, everyNode(e)
		for label := -99; label <= 99; label++ {
			if slices.ContainsFunc(every, func(x impl.Term) bool { return x.Kind == impl.TermCast && x.Label == label }) {
				want = append(want, label)
			}
		}
		if got := impl.CastLabels(e); !slices.Equal(got, want) {
			t.Fatalf("CastLabels(%s) = %v", textOf(e), got)
		}
	}
	for _, e := range mixedTerms() {
		if len(impl.CastLabels(e)) != 0 || len(impl.CastTypes(e, 0)) != 0 {
			t.Fatalf("%s has casts", textOf(e))
		}
	}
}

func TestTypesOfCasts(t *testing.T) {
	for _, c := range []struct {
		text  string
		label int
		want  string
	}{
		{"1", 1, ""},
		{"1", 0, ""},
		{"!x:I.x", 0, ""},
		{"(x:I~?#3)", 3, "I ?"},
		{"(x:I~?#3)", -3, ""},
		{"(x:I~?#-3)", -3, "I ?"},
		{"(x:I~?#-3)", 3, ""},
		{"(x:I~?#3)", 0, ""},
		{"(x:I~?#3)", 4, ""},
		{"(x:I~?#3)", 100, ""},
		{"((1:I~?#3):?~B#3)", 3, "? B I ?"},
		{"((1:I~?#3):?~B#-3)", 3, "I ?"},
		{"((1:I~?#3):?~B#-3)", -3, "? B"},
		{"[(1:I~?#3),(T:B~?#3)]", 3, "I ? B ?"},
		{"([(1:I~?#3),(T:B~?#3)]:(?*?)~(I*B)#3)", 3, "(?*?) (I*B) I ? B ?"},
		{"{((x:I~?#5):?~B#5)?(1:I~I#5):(F:?~?#5)}", 5, "? B I ? I I ? ?"},
		{"((x:(I>?)~(?>B)#-9) !x:I.(x:I~?#-9))", -9, "(I>?) (?>B) I ?"},
		{"((((1:I~?#1):?~I#2):I~?#1):?~I#2)", 1, "I ? I ?"},
		{"((((1:I~?#1):?~I#2):I~?#1):?~I#2)", 2, "? I ? I"},
	} {
		if got := typeTexts(impl.CastTypes(parseCast(t, c.text), c.label)); got != c.want {
			t.Errorf("CastTypes(%s, %d) = %s", c.text, c.label, got)
		}
	}
	for _, e := range mixedCasts() {
		every := everyNode(e)
		for _, label := range append(impl.CastLabels(e), 0, 100, -100) {
			want := []impl.Type{}
			for _, x := range every {
				if x.Kind == impl.TermCast && x.Label == label {
					want = append(want, x.From, x.Type)
				}
			}
			if got := impl.CastTypes(e, label); !slices.EqualFunc(got, want, impl.TypeSame) {
				t.Fatalf("CastTypes(%s, %d) = %s", textOf(e), label, typeTexts(got))
			}
		}
	}
}

func TestBareTerms(t *testing.T) {
	for text, want := range map[string]string{
		"1":                                   "1",
		"(x y)":                               "(x y)",
		"!x:?.x":                              "!x:?.x",
		"!x:(I>B).x":                          "!x:?.x",
		"(1:I)":                               "1",
		"(((1:I):?):B)":                       "1",
		"(!x:I.(x:B):(I>B))":                  "!x:?.x",
		"[(1:?),((T:B):?)]":                   "[1,T]",
		"(!x:I.!y:?.(x (y:I)) (2:I))":         "(!x:?.!y:?.(x y) 2)",
		"{(T:?)?$([1,2]:?):(!x:I.x:?)}":       "{T?$[1,2]:!x:?.x}",
		"(1:I~?#1)":                           "1",
		"(((1:I~?#1):?~B#2):B~?#-1)":          "1",
		"(!x:I.(x:I~?#4):(I>?)~?#5)":          "!x:?.x",
		"[(1:I~?#7),(T:B~?#-7)]":              "[1,T]",
		"(!x:B.!y:I.((x:B~?#1) y) (1:I~I#2))": "(!x:?.!y:?.(x y) 1)",
	} {
		e, ok := impl.ParseTerm(text)
		if !ok {
			e = parseCast(t, text)
		}
		if got, ok := impl.BareTerm(e); !ok || impl.FormatTerm(got) != want {
			t.Errorf("BareTerm(%s) = %s, %v", text, impl.FormatTerm(got), ok)
		}
	}
	for _, e := range append(mixedTerms(), mixedCasts()...) {
		if got, ok := impl.BareTerm(e); !ok || !impl.TermSame(got, bared(e)) {
			t.Fatalf("BareTerm(%s) = %s, %v", textOf(e), textOf(got), ok)
		}
	}
}

func TestBareTermOfInvalidTerms(t *testing.T) {
	for what, bad := range map[string]impl.Term{
		"the zero value":                   {},
		"a TermAs in a cast":               castOf(as(num(1), anyType), anyType, intType, 1),
		"a cast in a TermAs":               as(castOf(num(1), intType, anyType, 1), intType),
		"a TermAs beside a cast":           node(impl.TermPair, as(num(1), anyType), castOf(num(1), intType, anyType, 1)),
		"a cast of inconsistent types":     castOf(num(1), intType, boolType, 1),
		"a TermAs of too many nodes":       as(wideTerm(30), anyType),
		"a TermAs that is too deep":        as(deepTerm(impl.TermFst, 0, 12), anyType),
		"too many nodes":                   wideTerm(201),
		"a depth of 41":                    deepTerm(impl.TermSnd, 0, 41),
		"a term that contains itself":      selfTerm(impl.TermApp, 2),
		"a number that is too large":       num(1000),
		"a function of an invalid type":    lam("x", impl.Type{}, num(1)),
		"a function of a type too deep":    lam("x", leftChain(5), num(1)),
		"a cast of an invalid operand":     castOf(impl.Term{}, intType, anyType, 1),
		"an ascription of an invalid term": as(impl.Term{}, intType),
	} {
		if e, ok := impl.BareTerm(bad); ok || !isZeroTerm(e) {
			t.Errorf("%s: BareTerm = %v, %v", what, e, ok)
		}
	}
	// Terms that are valid only as terms, or only as terms with casts.
	for _, good := range []impl.Term{as(wideTerm(29), anyType), wideTerm(31), deepTerm(impl.TermFst, 0, 13), wideTerm(200)} {
		if e, ok := impl.BareTerm(good); !ok || !impl.TermSame(e, bared(good)) {
			t.Errorf("BareTerm(%.60s) = %v", textOf(good), ok)
		}
	}
}

func asTerms(list []impl.Type) []impl.Term {
	terms := []impl.Term{}
	for _, x := range list {
		terms = append(terms, impl.Term{Type: x})
	}
	return terms
}

func TestInsertionResultsAreNewMemory(t *testing.T) {
	list := closedCases(t)
	shared := pair(fun(intType, anyType), anyType)
	list = append(list, node(impl.TermIf, trueTerm, as(as(num(1), shared), anyType), as(as(as(num(1), anyType), shared), shared)),
		node(impl.TermApp, lam("x", shared, name("x")), as(num(1), anyType)))
	for i, plain := range list {
		if i%3 != 0 && i < len(list)-2 {
			continue
		}
		e := roomyTerm(plain)
		first, x, ok := impl.InsertCasts(e)
		second, y, _ := impl.InsertCasts(e)
		if !ok {
			continue
		}
		z, _ := impl.CastTypeOf(second)
		if reused(e, first, second, impl.Term{Type: x}, impl.Term{Type: y}, impl.Term{Type: z}) {
			t.Fatalf("the results for %s share memory", textOf(plain))
		}
		text := impl.FormatCast(second)
		overwriteTerm(first)
		overwrite(x)
		overwrite(z)
		if !impl.TermSame(e, plain) || marked(e) || impl.FormatCast(second) != text {
			t.Fatalf("%s has been changed", textOf(plain))
		}
	}
}

func TestCastResultsAreNewMemory(t *testing.T) {
	shared := pair(fun(intType, anyType), anyType)
	list := append(mixedCasts(), castOf(castOf(num(1), shared, shared, 5), shared, shared, 5))
	for _, plain := range list {
		e := roomyTerm(plain)
		text := textOf(plain)
		results := []impl.Term{e}
		for _, label := range append(impl.CastLabels(e), 5) {
			results = append(results, asTerms(impl.CastTypes(e, label))...)
		}
		bare, _ := impl.BareTerm(e)
		again, _ := impl.BareTerm(e)
		parsed, _ := impl.ParseCast(text)
		results = append(results, bare, again, parsed)
		if x, ok := impl.CastTypeOf(e); ok {
			y, _ := impl.CastTypeOf(e)
			results = append(results, impl.Term{Type: x}, impl.Term{Type: y})
		}
		if reused(results...) {
			t.Fatalf("results for %s share memory", text)
		}
		for _, result := range results[1:] {
			overwriteTerm(result)
		}
		first, second := impl.CastLabels(e), impl.CastLabels(e)
		first = first[:cap(first)]
		for i := range first {
			first[i] = 1000
		}
		if slices.Contains(second[:cap(second)], 1000) {
			t.Fatalf("the labels of %s share memory", text)
		}
		if textOf(e) != text || marked(e) {
			t.Fatalf("%s has been changed", text)
		}
	}
}

func TestCastArgumentsAreNotChanged(t *testing.T) {
	for _, plain := range append(oneOfEach(), castOf(num(1), fun(intType, anyType), fun(anyType, boolType), -4), lam("x", anyType, node(impl.TermApp, name("x"), num(1)))) {
		kids := append(slices.Clone(plain.Kids), impl.Term{Kind: 41}, impl.Term{Kind: 42})
		e := plain
		e.Kids = kids[:len(plain.Kids)]
		impl.CastValid(e)
		impl.FormatCast(e)
		impl.InsertCasts(e)
		impl.CastTypeOf(e)
		impl.CastLabels(e)
		impl.BareTerm(e)
		impl.CastTypes(e, -4)
		if !impl.TermSame(e, plain) || kids[len(kids)-2].Kind != 41 || kids[len(kids)-1].Kind != 42 {
			t.Errorf("%s has been changed", textOf(plain))
		}
	}
}
