package tests

import (
	"math/rand"
	"slices"
	"strings"
	"testing"

	"loop.example/gradual/impl"
)

// Promise 3: If a term has a type, a term with less precise types has a type
// that is less precise, too.

// bindings returns the context that a text like "x:I y:(I>?)" shows.
func bindings(t *testing.T, text string) []impl.Bind {
	t.Helper()
	list := []impl.Bind{}
	for _, word := range strings.Fields(text) {
		variable, x, _ := strings.Cut(word, ":")
		list = append(list, impl.Bind{Name: variable, Type: parse(t, x)})
	}
	return list
}

// typeText returns the text of the type of a term, or "" if there is none.
func typeText(t *testing.T, ctx []impl.Bind, e impl.Term) string {
	t.Helper()
	x, ok := impl.TypeIn(ctx, e)
	if ok != impl.TypeValid(x) || !ok && !isZero(x) {
		t.Errorf("TypeIn(%v, %s) = %v, %v", ctx, textOf(e), x, ok)
	}
	if len(ctx) == 0 {
		if y, okToo := impl.TypeOf(e); okToo != ok || !impl.TypeSame(x, y) {
			t.Errorf("TypeOf(%s) = %v, %v", textOf(e), y, okToo)
		}
	}
	return impl.FormatType(x)
}

// expectTypes checks the types of terms in a context. A type "" means that there is none.
func expectTypes(t *testing.T, context string, cases map[string]string) {
	t.Helper()
	ctx := bindings(t, context)
	for text, want := range cases {
		if got := typeText(t, ctx, parseTerm(t, text)); got != want {
			t.Errorf("the type of %s in %q is %q, not %q", text, context, got, want)
		}
	}
}

func expectNoType(t *testing.T, context string, texts ...string) {
	t.Helper()
	for _, text := range texts {
		expectTypes(t, context, map[string]string{text: ""})
	}
}

// expectNoTyping checks the result of every function of chapter 3 for a term that is not valid.
func expectNoTyping(t *testing.T, what string, bad impl.Term) {
	t.Helper()
	if x, ok := impl.TypeOf(bad); ok || !isZero(x) {
		t.Errorf("%s: TypeOf = %v, %v", what, x, ok)
	}
	for _, ctx := range [][]impl.Bind{nil, {{Name: "x", Type: anyType}}, {{}}} {
		if x, ok := impl.TypeIn(ctx, bad); ok || !isZero(x) {
			t.Errorf("%s: TypeIn = %v, %v", what, x, ok)
		}
	}
	if impl.StaticTerm(bad) {
		t.Errorf("%s: is static", what)
	}
	if impl.TermPrecise(bad, bad) || impl.TermPrecise(bad, num(1)) || impl.TermPrecise(num(1), bad) {
		t.Errorf("%s: is as precise as another term", what)
	}
}

func TestTypingExample(t *testing.T) {
	expectTypes(t, "", map[string]string{
		"(!x:?.(x+1) T)": "I",
		"(!x:I.(x+1) T)": "",
	})
}

func TestTypesOfClosedTerms(t *testing.T) {
	expectTypes(t, "", map[string]string{
		"0":                       "I",
		"999":                     "I",
		"T":                       "B",
		"F":                       "B",
		"!x:I.x":                  "(I>I)",
		"!x:B.1":                  "(B>I)",
		"!x:?.x":                  "(?>?)",
		"!x:(I*B).%x":             "((I*B)>B)",
		"!x:I.!y:(B>?).x":         "(I>((B>?)>I))",
		"(!x:I.(x<3) 2)":          "B",
		"(!x:I.!y:B.x 1)":         "(B>I)",
		"((!x:I.!y:B.x 1) T)":     "I",
		"(!f:(I>B).(f 1) !x:I.F)": "B",
		"(1+2)":                   "I",
		"(1<2)":                   "B",
		"{T?1:2}":                 "I",
		"{(1<2)?F:T}":             "B",
		"[1,T]":                   "(I*B)",
		"[[1,T],!x:I.x]":          "((I*B)*(I>I))",
		"$[1,T]":                  "I",
		"%[1,T]":                  "B",
		"%$[[1,T],2]":             "B",
		"(1:I)":                   "I",
		"(1:?)":                   "?",
		"((1:?):B)":               "B",
		"(!x:I.x:(I>I))":          "(I>I)",
		"(!x:I.x:(?>?))":          "(?>?)",
		"(!x:?.x:(I>B))":          "(I>B)",
		"(!x:(?>I).x:((B>?)>?))":  "((B>?)>?)",
		"([1,T]:(?*B))":           "(?*B)",
	})
}

func TestTermsWithoutType(t *testing.T) {
	expectNoType(t, "", "(1 2)", "(T T)", "([1,2] 1)", "(!x:I.x T)", "(!x:I.x !y:I.y)", "(!f:(I>I).1 !x:B.1)",
		"(!f:(I>I).1 !x:I.T)", "(!p:(I*I).1 [1,T])", "(!p:(I*I).1 !x:I.1)", "(T+1)", "(1+T)", "([1,2]+1)", "(1+!x:?.x)",
		"(T<1)", "(1<F)", "(!x:I.x<1)", "(1<[1,1])", "{1?2:3}", "{[T,T]?1:1}", "{!x:?.T?1:1}", "{T?1:F}", "{T?F:1}",
		"{T?[1,T]:[1,2]}", "{T?[1,T]:!x:I.T}", "{T?!x:I.1:!x:B.1}", "$1", "%T", "$!x:I.x", "%!x:?.[x,x]", "(1:B)", "(T:I)",
		"(1:(I>I))", "([1,2]:(?>?))", "(!x:I.x:(?*?))", "(!x:I.x:(B>?))", "([1,T]:(B*?))", "((1:I):B)", "((1:(?>?)):?)")
	// A term has no type if an operand has none, even where that operand's type would not matter.
	expectNoType(t, "y:I", "x", "!y:I.x", "(x 1)", "(!y:I.1 x)", "(!y:?.1 x)", "(x+1)", "(1+x)", "(x<1)", "(1<x)",
		"{x?1:2}", "{T?x:2}", "{T?1:x}", "[x,1]", "[1,x]", "$x", "%x", "$[1,x]", "%[x,1]", "(x:?)", "!y:?.[y,(T+1)]")
}

func TestUnknownWhereMoreIsWanted(t *testing.T) {
	expectTypes(t, "u:? f:(?>?) g:(I>?) h:(?>B) p:(?*I)", map[string]string{
		"(u 1)":          "?",
		"(u u)":          "?",
		"(u [T,!x:I.x])": "?",
		"((u 1) T)":      "?",
		"(f T)":          "?",
		"(f f)":          "?",
		"(g u)":          "?",
		"(g T)":          "",
		"(h g)":          "B",
		"((h 1) 1)":      "",
		"((g 1) T)":      "?",
		"(!x:I.x u)":     "I",
		"(!x:(I>B).x u)": "(I>B)",
		"(!x:(I>B).x g)": "(I>B)",
		"(!x:(B>I).x g)": "",
		"(u+1)":          "I",
		"(1+u)":          "I",
		"(u+u)":          "I",
		"(u+T)":          "",
		"(f+u)":          "",
		"(u<1)":          "B",
		"(1<u)":          "B",
		"(u<u)":          "B",
		"(u<p)":          "",
		"{u?1:2}":        "I",
		"{u?1:T}":        "",
		"{f?1:1}":        "",
		"{u?u:u}":        "?",
		"$u":             "?",
		"%u":             "?",
		"$%u":            "?",
		"$p":             "?",
		"%p":             "I",
		"%$p":            "?",
		"$%p":            "",
		"$f":             "",
		"(p 1)":          "",
		"(u:I)":          "I",
		"(u:(I>(I*I)))":  "(I>(I*I))",
		"(u:?)":          "?",
		"(h:(I>I))":      "",
		"(h:(I>?))":      "(I>?)",
		"[u,f]":          "(?*(?>?))",
		"!x:I.u":         "(I>?)",
	})
}

func TestBranchesOfConsistentTypes(t *testing.T) {
	expectTypes(t, "u:? a:(I>?) b:(?>B) c:((?*B)>(?>?)) d:((I*?)>(B>?)) e:(((I>?)>?)*?) f:(((?>B)>?)*(?>(B*?)))", map[string]string{
		"{T?a:b}":             "(I>B)",
		"{T?b:a}":             "(I>B)",
		"{T?u:1}":             "I",
		"{T?1:u}":             "I",
		"{T?u:b}":             "(?>B)",
		"{T?c:d}":             "((I*B)>(B>?))",
		"{T?d:c}":             "((I*B)>(B>?))",
		"{T?e:f}":             "(((I>B)>?)*(?>(B*?)))",
		"{T?[1,u]:[u,T]}":     "(I*B)",
		"{T?!x:I.u:!x:?.T}":   "(I>B)",
		"{T?{F?a:u}:b}":       "(I>B)",
		"{T?{F?u:u}:T}":       "B",
		"{T?{F?1:u}:T}":       "",
		"{T?a:[1,1]}":         "",
		"{T?a:d}":             "",
		"({T?a:b} 1)":         "B",
		"({T?a:b} T)":         "",
		"{1?a:b}":             "",
		"({T?a:b}:(I>(I*I)))": "",
	})
}

func TestInnerVariablesOfTheSameName(t *testing.T) {
	expectTypes(t, "", map[string]string{
		"!x:I.!x:B.x":                   "(I>(B>B))",
		"!x:I.(!x:B.x T)":               "(I>B)",
		"!x:I.[(!x:B.x T),x]":           "(I>(B*I))",
		"!x:I.[x,(!x:B.x T)]":           "(I>(I*B))",
		"!x:I.(!x:B.x x)":               "",
		"!x:?.(!x:B.x x)":               "(?>B)",
		"(!x:B.{x?1:2} (!x:I.(x<1) 3))": "I",
		"!x:I.!y:B.!x:?.x":              "(I>(B>(?>?)))",
		"!x:I.!y:B.!y:?.x":              "(I>(B>(?>I)))",
		"[(!x:I.x 1),x]":                "",
		"(!x:I.x x)":                    "",
	})
	expectTypes(t, "x:I y:(B>B)", map[string]string{
		"x":               "I",
		"!x:B.x":          "(B>B)",
		"!x:B.y":          "(B>(B>B))",
		"[x,(!x:B.x T)]":  "(I*B)",
		"[(!x:B.x T),x]":  "(B*I)",
		"(!x:B.T x)":      "",
		"(!y:I.(x+y) x)":  "I",
		"(!y:I.(x+y) y)":  "",
		"!z:?.(y (z x))":  "(?>B)",
		"{(y T)?x:(x+x)}": "I",
	})
}

func TestSeveralBindingsOfAName(t *testing.T) {
	for context, want := range map[string]string{
		"x:I":                 "I",
		"x:I x:B":             "B",
		"x:B x:I":             "I",
		"x:I y:? x:B":         "B",
		"x:I x:B y:?":         "B",
		"y:? x:I z:? x:B z:I": "B",
		"x:? x:I x:(I>B)":     "(I>B)",
		"x:(I>B) x:I x:?":     "?",
		"y:I z:B":             "",
		"":                    "",
	} {
		expectTypes(t, context, map[string]string{"x": want})
	}
	expectTypes(t, "x:I x:B", map[string]string{"(x+1)": "", "{x?1:2}": "I", "!y:I.x": "(I>B)", "!x:?.x": "(?>?)"})
}

func TestContextLimit(t *testing.T) {
	if impl.MaxCtx != 12 {
		t.Errorf("MaxCtx = %d", impl.MaxCtx)
	}
	for count := range 30 {
		ctx := []impl.Bind{}
		for i := range count {
			ctx = append(ctx, impl.Bind{Name: string(rune('a' + i%26)), Type: intType})
		}
		want := ""
		if count <= 12 {
			want = "I"
		}
		if impl.CtxValid(ctx) != (count <= 12) {
			t.Errorf("%d bindings: CtxValid = %v", count, count > 12)
		}
		if got := typeText(t, ctx, num(1)); got != want {
			t.Errorf("%d bindings: the type of 1 is %q", count, got)
		}
		if got := typeText(t, ctx, name("a")); count > 0 && got != want {
			t.Errorf("%d bindings: the type of the first variable is %q", count, got)
		}
	}
	if impl.CtxValid(slices.Repeat([]impl.Bind{{Name: "x", Type: anyType}}, 1000000)) {
		t.Error("very many bindings are accepted")
	}
}

// The limit of bindings is one of the context that is given, not of inner ones.
func TestInnerContextsBeyondTheLimit(t *testing.T) {
	full := "a:B b:I c:I d:I e:I f:I g:I h:I i:I j:I k:I l:(I*I)"
	expectTypes(t, full, map[string]string{
		"a":                              "B",
		"l":                              "(I*I)",
		"m":                              "",
		"!m:?.a":                         "(?>B)",
		"!m:?.m":                         "(?>?)",
		"!m:?.!n:I.!o:B.l":               "",
		"!m:?.!n:I.$l":                   "(?>(I>I))",
		"(!m:B.(!n:I.{m?(b+n):$l} 3) a)": "I",
		"(!m:I.(!n:I.(!o:I.(!p:I.(!q:I.a 5) 4) 3) 2) 1)": "B",
		"(!m:I.(!n:I.(!o:I.(!p:I.(!q:?.q 5) 4) 3) 2) 1)": "?",
		"(!m:I.(!n:?.(!o:I.(!p:I.(!q:I.n 5) 4) 3) 2) 1)": "?",
		"(!a:I.(!a:I.(!a:I.(!a:I.(!a:?.a 5) 4) 3) 2) 1)": "?",
		"[(!a:I.(!a:?.a 1) 1),a]":                        "(?*B)",
	})
	expectNoType(t, full+" m:I", "a", "m", "1", "!x:?.x")
}

func TestTypesThatBecomeTooDeep(t *testing.T) {
	deep, over := "(I*(B>(I*?)))", "(B>(I*?))"
	expectTypes(t, "d:"+deep+" c:"+over+" u:?", map[string]string{
		"d":                     deep,
		"c":                     over,
		"[1,c]":                 "(I*" + over + ")",
		"[c,1]":                 "(" + over + "*I)",
		"[1,d]":                 "",
		"[d,1]":                 "",
		"[d,d]":                 "",
		"!x:I.c":                "(I>" + over + ")",
		"!x:I.d":                "",
		"!x:" + over + ".1":     "(" + over + ">I)",
		"!x:" + deep + ".1":     "",
		"!x:" + over + ".[x,1]": "",
		"!x:?.[c,1]":            "",
		"$d":                    "I",
		"%d":                    over,
		"[1,%d]":                deep,
		"(d:" + deep + ")":      deep,
		"(d:?)":                 "?",
		"[1,(d:?)]":             "(I*?)",
		"(u:" + deep + ")":      deep,
		"[1,(u:" + deep + ")]":  "",
		"{T?d:u}":               deep,
		"{T?u:d}":               deep,
		"[1,{T?d:u}]":           "",
		"(u d)":                 "?",
		"(!x:(I*?).$x d)":       "I",
	})
	// The outer term would have a valid type, but an operand has none.
	expectNoType(t, "d:"+deep+" c:"+over+" u:?", "$[1,d]", "%[1,d]", "$[d,1]", "(!x:"+deep+".1 d)", "(!x:?.d 1)",
		"([1,d]:?)", "([1,d]:(I*?))", "{T?1:$[1,[c,c]]}", "(u [d,1])", "{T?u:!x:I.d}", "%$[[1,1],d]")
	expectTypes(t, "", map[string]string{
		"!x:I.!y:I.!z:I.1":                   "(I>(I>(I>I)))",
		"!x:I.!y:I.!z:I.!a:I.1":              "",
		"!x:I.!y:I.!z:I.(!a:I.a 1)":          "(I>(I>(I>I)))",
		"!x:I.!y:I.!z:I.$[1,2]":              "(I>(I>(I>I)))",
		"!x:I.!y:I.!z:I.[1,2]":               "",
		"!x:I.!y:I.!z:I.([1,2]:?)":           "(I>(I>(I>?)))",
		"[1,[1,[1,1]]]":                      "(I*(I*(I*I)))",
		"[1,[1,[1,[1,1]]]]":                  "",
		"[1,([1,[1,[1,1]]]:?)]":              "(I*?)",
		"[[[1,1],[1,1]],[[1,1],[1,1]]]":      "(((I*I)*(I*I))*((I*I)*(I*I)))",
		"!x:((I>I)>I).x":                     "(((I>I)>I)>((I>I)>I))",
		"!x:((I>I)>I).!y:I.x":                "",
		"!x:(((I>I)>I)>I).1":                 "",
		"(1:(((I>I)>I)>I))":                  "",
		"((1:?):(((I>I)>I)>I))":              "(((I>I)>I)>I)",
		"(((1:?):(((I>I)>I)>I)) !x:?.(x 1))": "I",
	})
}

// Every rule is checked for all types, up to a depth of 2, of the operands.
func TestRulesForAllTypes(t *testing.T) {
	list := allTypes(2)
	v, w := name("v"), name("w")
	for _, a := range list {
		for _, b := range list {
			ctx := []impl.Bind{{Name: "v", Type: a}, {Name: "w", Type: b}}
			expect := func(e impl.Term, holds bool, want impl.Type) {
				t.Helper()
				text := ""
				if holds {
					text = impl.FormatType(want)
				}
				if got := typeText(t, ctx, e); got != text {
					t.Errorf("the type of %s, where v is %s and w is %s, is %q", textOf(e), impl.FormatType(a), impl.FormatType(b), got)
				}
			}
			from, to, isFun := impl.MatchFun(a)
			left, right, isPair := impl.MatchPair(a)
			meet, isConsistent := impl.MeetTypes(a, b)
			numbers := impl.Consistent(a, intType) && impl.Consistent(b, intType)
			expect(v, true, a)
			expect(w, true, b)
			expect(node(impl.TermApp, v, w), isFun && impl.Consistent(b, from), to)
			expect(node(impl.TermApp, lam("x", a, name("x")), w), isConsistent, a)
			expect(node(impl.TermAdd, v, w), numbers, intType)
			expect(node(impl.TermLess, v, w), numbers, boolType)
			expect(node(impl.TermIf, v, w, w), impl.Consistent(a, boolType), b)
			expect(node(impl.TermIf, trueTerm, v, w), isConsistent, meet)
			expect(node(impl.TermPair, v, w), true, pair(a, b))
			expect(node(impl.TermFst, v), isPair, left)
			expect(node(impl.TermSnd, v), isPair, right)
			expect(lam("v", b, v), true, fun(b, b))
			expect(lam("x", b, v), true, fun(b, a))
			expect(as(v, b), isConsistent, b)
		}
	}
}

// expectedType returns the type of e by the rules of the document, or the zero value if there is none.
func expectedType(ctx []impl.Bind, e impl.Term) impl.Type {
	inner := ctx
	if e.Kind == impl.TermLam {
		inner = append(slices.Clone(ctx), impl.Bind{Name: e.Name, Type: e.Type})
	}
	of := []impl.Type{}
	for _, kid := range e.Kids {
		of = append(of, expectedType(inner, kid))
		if isZero(of[len(of)-1]) {
			return impl.Type{}
		}
	}
	if x := expectedByRule(ctx, e, of); impl.TypeValid(x) {
		return x
	}
	return impl.Type{}
}

func expectedByRule(ctx []impl.Bind, e impl.Term, of []impl.Type) impl.Type {
	known := impl.Type{}
	holds := true
	switch e.Kind {
	case impl.TermVar:
		for _, b := range ctx {
			if b.Name == e.Name {
				known = b.Type
			}
		}
	case impl.TermNum:
		known = intType
	case impl.TermTrue, impl.TermFalse:
		known = boolType
	case impl.TermLam:
		known = fun(e.Type, of[0])
	case impl.TermApp:
		known = anyType
		if of[0].Kind != impl.TypeAny {
			holds = of[0].Kind == impl.TypeFun && impl.Consistent(of[0].Kids[0], of[1])
		}
		if holds && of[0].Kind == impl.TypeFun {
			known = of[0].Kids[1]
		}
	case impl.TermAdd, impl.TermLess:
		known = map[int]impl.Type{impl.TermAdd: intType, impl.TermLess: boolType}[e.Kind]
		holds = of[0].Kind <= impl.TypeInt && of[1].Kind <= impl.TypeInt
	case impl.TermIf:
		known, holds = impl.MeetTypes(of[1], of[2])
		holds = holds && (of[0].Kind == impl.TypeBool || of[0].Kind == impl.TypeAny)
	case impl.TermPair:
		known = pair(of[0], of[1])
	case impl.TermFst, impl.TermSnd:
		known = anyType
		holds = of[0].Kind == impl.TypePair || of[0].Kind == impl.TypeAny
		if of[0].Kind == impl.TypePair {
			known = of[0].Kids[e.Kind-impl.TermFst]
		}
	case impl.TermAs:
		known, holds = e.Type, impl.Consistent(of[0], e.Type)
	}
	if !holds {
		return impl.Type{}
	}
	return known
}

// typedTerm returns a term that is likely to have a type in a context, where
// random numbers choose. It puts a TermAs around operands of unsuitable types.
func typedTerm(r *rand.Rand, ctx []impl.Bind, depth int) impl.Term {
	e := mixedTerm(r, 1)
	if depth > 1 {
		e = mixedTerm(r, 2)
	}
	if e.Kind == impl.TermVar && len(ctx) > 0 && r.Intn(9) > 0 {
		e.Name = ctx[r.Intn(len(ctx))].Name
	}
	if e.Kind == impl.TermLam || e.Kind == impl.TermAs {
		e.Type = mixedType(r, 1+r.Intn(3))
	}
	inner := ctx
	if e.Kind == impl.TermLam {
		inner = append(slices.Clone(ctx), impl.Bind{Name: e.Name, Type: e.Type})
	}
	for i := range e.Kids {
		e.Kids[i] = typedTerm(r, inner, depth-1)
	}
	for i := range e.Kids {
		if isZero(expectedType(ctx, e)) && r.Intn(9) > 0 {
			e.Kids[i] = as(e.Kids[i], anyType)
		}
	}
	return e
}

// typedCase is a term and a context for it.
type typedCase struct {
	ctx []impl.Bind
	e   impl.Term
}

// typedCases returns valid terms, many of which have a type, in different contexts.
func typedCases(t *testing.T) []typedCase {
	r := rand.New(rand.NewSource(5))
	contexts := [][]impl.Bind{
		nil,
		bindings(t, "a:? b:I"),
		bindings(t, "a:(I>?) b:B c:(?*(?>I)) a:(I*B) d:?"),
		bindings(t, "a:I b:B c:(I>I) d:(I*B) a:? b:? c:? d:(((I>I)>I)*?) d:B c:((I*I)>B) b:(I*(B*(I*I))) a:I"),
	}
	list := []typedCase{}
	for i := 0; len(list) < 12000; i++ {
		ctx := contexts[i%len(contexts)]
		if e := typedTerm(r, ctx, 1+r.Intn(7)); impl.TermValid(e) {
			list = append(list, typedCase{ctx, e})
		}
	}
	for i, e := range mixedTerms() {
		list = append(list, typedCase{contexts[i%len(contexts)], e})
	}
	return list
}

func TestTypesOfManyTypedTerms(t *testing.T) {
	typed, large := 0, 0
	for _, c := range typedCases(t) {
		want := expectedType(c.ctx, c.e)
		if got := typeText(t, c.ctx, c.e); got != impl.FormatType(want) {
			t.Fatalf("the type of %s in %v is %q", textOf(c.e), c.ctx, got)
		}
		if !isZero(want) {
			typed++
			if nodes(c.e) > 12 {
				large++
			}
		}
	}
	if typed < 4000 || large < 400 {
		t.Errorf("only %d terms have a type, and %d large ones", typed, large)
	}
}

// blurred returns a type that is at most as precise as x.
func blurred(r *rand.Rand, x impl.Type) impl.Type {
	if r.Intn(4) == 0 {
		return anyType
	}
	kids := []impl.Type{}
	for _, kid := range x.Kids {
		kids = append(kids, blurred(r, kid))
	}
	return impl.Type{Kind: x.Kind, Kids: kids}
}

func TestLessPreciseTermsHaveLessPreciseTypes(t *testing.T) {
	r := rand.New(rand.NewSource(6))
	changed := 0
	for _, c := range typedCases(t) {
		x, ok := impl.TypeIn(c.ctx, c.e)
		if !ok {
			continue
		}
		for range 4 {
			list := impl.TermTypes(c.e)
			for i := range list {
				list[i] = blurred(r, list[i])
			}
			e, _ := impl.WithTypes(c.e, list)
			ctx := slices.Clone(c.ctx)
			for i := range ctx {
				ctx[i].Type = blurred(r, ctx[i].Type)
			}
			y, ok := impl.TypeIn(ctx, e)
			if !impl.TermPrecise(c.e, e) || !ok || !impl.Precise(x, y) {
				t.Fatalf("%s has the type %s, but %s: %v, %v", textOf(c.e), impl.FormatType(x), textOf(e), y, ok)
			}
			if !impl.TypeSame(x, y) {
				changed++
			}
		}
		erased, _ := impl.EraseTerm(c.e)
		if y, ok := impl.TypeIn(c.ctx, erased); !ok || !impl.Precise(x, y) {
			t.Fatalf("%s has the type %s, but without types: %v, %v", textOf(c.e), impl.FormatType(x), y, ok)
		}
	}
	if changed < 1000 {
		t.Errorf("only %d types have become less precise", changed)
	}
}

func TestInvalidContexts(t *testing.T) {
	good := impl.Bind{Name: "x", Type: intType}
	bad := []impl.Bind{{}, {Name: "x"}, {Type: intType}}
	for _, variable := range []string{"", "X", "xx", "x ", " x", "1", "?", "`", "{", "\x00", "é", "\xff", strings.Repeat("x", 100000)} {
		bad = append(bad, impl.Bind{Name: variable, Type: intType})
	}
	for _, x := range invalidTypes() {
		bad = append(bad, impl.Bind{Name: "y", Type: x}, impl.Bind{Name: "x", Type: x})
	}
	for _, b := range bad {
		for _, ctx := range [][]impl.Bind{{b}, {b, good}, {good, b}, {good, b, good}, append(slices.Repeat([]impl.Bind{good}, 11), b)} {
			if impl.CtxValid(ctx) {
				t.Errorf("a context with the name %.20q and the type %.60s is accepted", b.Name, impl.FormatType(b.Type))
			}
			for _, e := range []impl.Term{num(1), name("x"), lam("x", anyType, name("x"))} {
				if x, ok := impl.TypeIn(ctx, e); ok || !isZero(x) {
					t.Errorf("TypeIn an invalid context of %s = %v, %v", textOf(e), x, ok)
				}
			}
		}
	}
}

func TestValidContexts(t *testing.T) {
	if !impl.CtxValid(nil) || !impl.CtxValid([]impl.Bind{}) {
		t.Error("the empty context is not accepted")
	}
	for letter := 'a'; letter <= 'z'; letter++ {
		ctx := []impl.Bind{{Name: string(letter), Type: boolType}}
		if !impl.CtxValid(ctx) || typeText(t, ctx, name(string(letter))) != "B" {
			t.Errorf("a binding of %c is not accepted", letter)
		}
	}
	for _, x := range []impl.Type{anyType, leftChain(4), rightChain(4), {Kind: impl.TypeInt, Kids: []impl.Type{}}} {
		ctx := []impl.Bind{{Name: "x", Type: x}}
		if !impl.CtxValid(ctx) || typeText(t, ctx, name("x")) != impl.FormatType(x) {
			t.Errorf("a binding to %s is not accepted", impl.FormatType(x))
		}
	}
}

func TestMatch(t *testing.T) {
	for what, match := range map[string]func(impl.Type) (impl.Type, impl.Type, bool){"fun": impl.MatchFun, "pair": impl.MatchPair} {
		kind := map[string]int{"fun": impl.TypeFun, "pair": impl.TypePair}[what]
		for _, x := range append(allTypes(3), leftChain(4), rightChain(4)) {
			var want [2]impl.Type
			switch x.Kind {
			case impl.TypeAny:
				want = [2]impl.Type{anyType, anyType}
			case kind:
				want = [2]impl.Type{x.Kids[0], x.Kids[1]}
			}
			a, b, ok := match(x)
			if ok == isZero(want[0]) || !impl.TypeSame(a, want[0]) || !impl.TypeSame(b, want[1]) {
				t.Errorf("%s of %s: %v, %v, %v", what, impl.FormatType(x), a, b, ok)
			}
		}
		for name, bad := range invalidTypes() {
			if a, b, ok := match(bad); ok || !isZero(a) || !isZero(b) {
				t.Errorf("%s of an invalid type, %s: %v, %v, %v", what, name, a, b, ok)
			}
		}
		for _, deep := range []impl.Type{leftChain(5), rightChain(5)} {
			if a, b, ok := match(deep); ok || !isZero(a) || !isZero(b) {
				t.Errorf("%s of a type that is too deep: %v, %v, %v", what, a, b, ok)
			}
		}
	}
}

func TestTermPrecise(t *testing.T) {
	for _, c := range []struct {
		a, b        string
		there, back bool
	}{
		{"1", "1", true, true},
		{"x", "x", true, true},
		{"x", "y", false, false},
		{"1", "2", false, false},
		{"1", "T", false, false},
		{"T", "F", false, false},
		{"(1 2)", "(1 2)", true, true},
		{"(x+y)", "(x<y)", false, false},
		{"[x,y]", "[y,x]", false, false},
		{"[x,y]", "(x y)", false, false},
		{"$x", "%x", false, false},
		{"$x", "x", false, false},
		{"!x:I.x", "!x:I.x", true, true},
		{"!x:I.x", "!x:?.x", true, false},
		{"!x:I.x", "!x:B.x", false, false},
		{"!x:I.x", "!y:I.y", false, false},
		{"!x:I.1", "!y:?.1", false, false},
		{"!x:(I>?).x", "!x:(?>?).x", true, false},
		{"!x:(I>?).x", "!x:(?>B).x", false, false},
		{"!x:(((I>I)>I)*B).x", "!x:(((I>?)>I)*B).x", true, false},
		{"(x:I)", "(x:?)", true, false},
		{"(x:I)", "x", false, false},
		{"(x:?)", "x", false, false},
		{"(1:B)", "(1:?)", true, false},
		{"(x:I)", "!x:I.x", false, false},
		{"!x:I.(x:?)", "!x:?.(x:I)", false, false},
		{"!x:I.(x:I)", "!x:?.(x:I)", true, false},
		{"!x:I.(x:I)", "!x:I.(x:?)", true, false},
		{"!x:I.(x:I)", "!x:?.(x:?)", true, false},
		{"((1:I)+(2:B))", "((1:B)+(2:I))", false, false},
		{"((1:I)+(2:?))", "((1:?)+(2:B))", false, false},
		{"((1:I)+(2:B))", "((1:I)+(2:?))", true, false},
		{"((x:I) y)", "(x (y:I))", false, false},
		{"(!x:I.x 1)", "!x:I.(x 1)", false, false},
		{"{T?(1:I):(x:(I>I))}", "{T?(1:?):(x:(I>?))}", true, false},
		{"(!x:(I>I).x:(I>?))", "(!x:(I>?).x:?)", true, false},
		{"(!x:(I>I).x:?)", "(!x:(I>?).x:(I>?))", false, false},
		{"(!x:(I>I).x:(?>?))", "(!x:(I>?).x:?)", true, false},
	} {
		a, b := parseTerm(t, c.a), parseTerm(t, c.b)
		if impl.TermPrecise(a, b) != c.there {
			t.Errorf("TermPrecise(%s, %s) = %v", c.a, c.b, !c.there)
		}
		if impl.TermPrecise(b, a) != c.back {
			t.Errorf("TermPrecise(%s, %s) = %v", c.b, c.a, !c.back)
		}
	}
}

// sameButTypes reports whether a and b differ in types only.
func sameButTypes(a, b impl.Term) bool {
	return a.Kind == b.Kind && a.Name == b.Name && a.Num == b.Num && slices.EqualFunc(a.Kids, b.Kids, sameButTypes)
}

func TestPrecisionOfManyTerms(t *testing.T) {
	r := rand.New(rand.NewSource(7))
	expect := func(a, b impl.Term, want bool) {
		t.Helper()
		if impl.TermPrecise(a, b) != want {
			t.Fatalf("TermPrecise(%s, %s) = %v", textOf(a), textOf(b), !want)
		}
	}
	before := num(0)
	for _, e := range mixedTerms() {
		list := impl.TermTypes(e)
		erased, _ := impl.EraseTerm(e)
		expect(e, e, true)
		expect(e, erased, true)
		expect(erased, e, !slices.ContainsFunc(list, func(x impl.Type) bool { return x.Kind != impl.TypeAny }))
		if !sameButTypes(e, before) {
			expect(e, before, false)
			expect(before, e, false)
		}
		before = e
		for i, x := range list {
			others := slices.Clone(list)
			others[i] = mixedType(r, 4)
			if r.Intn(2) == 0 {
				others[i] = blurred(r, x)
			}
			other, _ := impl.WithTypes(e, others)
			expect(e, other, impl.Precise(x, others[i]))
			expect(other, e, impl.Precise(others[i], x))
		}
	}
}

func TestPrecisionOfSmallTerms(t *testing.T) {
	list := []impl.Term{}
	for i, e := range smallTerms() {
		if i%5 == 0 || e.Kind == impl.TermLam || e.Kind == impl.TermAs {
			list = append(list, e)
		}
	}
	for _, a := range list {
		for _, b := range list {
			want := sameButTypes(a, b) && (isZero(a.Type) || impl.Precise(a.Type, b.Type))
			if impl.TermPrecise(a, b) != want {
				t.Errorf("TermPrecise(%s, %s) = %v", textOf(a), textOf(b), !want)
			}
		}
	}
}

func TestStaticTerms(t *testing.T) {
	for text, want := range map[string]bool{
		"1":                            true,
		"x":                            true,
		"(1 2)":                        true,
		"{x?[1,T]:$(x+y)}":             true,
		"!x:I.x":                       true,
		"!x:I.T":                       true,
		"!x:?.x":                       false,
		"!x:(I>(B*I)).x":               true,
		"!x:(I>(B*?)).x":               false,
		"!x:(((?>I)>I)>I).1":           false,
		"(x:I)":                        true,
		"(x:?)":                        false,
		"(1:B)":                        true,
		"!x:I.(x:?)":                   false,
		"!x:?.(x:I)":                   false,
		"!x:I.(x:B)":                   true,
		"((1:I)+(2:?))":                false,
		"((1:?)+(2:I))":                false,
		"{(T:B)?!x:(I>I).x:[1,(F:B)]}": true,
		"{(T:B)?!x:(I>I).x:[1,(F:?)]}": false,
	} {
		if impl.StaticTerm(parseTerm(t, text)) != want {
			t.Errorf("StaticTerm(%s) = %v", text, !want)
		}
	}
	static := 0
	for _, c := range typedCases(t) {
		want := !slices.ContainsFunc(impl.TermTypes(c.e), func(x impl.Type) bool { return !impl.IsStatic(x) })
		if impl.StaticTerm(c.e) != want {
			t.Fatalf("StaticTerm(%s) = %v", textOf(c.e), !want)
		}
		if x, ok := impl.TypeOf(c.e); ok && want {
			static++
			if !impl.IsStatic(x) {
				t.Fatalf("the static term %s has the type %s", textOf(c.e), impl.FormatType(x))
			}
		}
	}
	if static < 100 {
		t.Errorf("only %d static terms have a type", static)
	}
}

func TestTypingResultsAreNewMemory(t *testing.T) {
	for i, c := range typedCases(t) {
		if i%4 != 0 {
			continue
		}
		e, ctx := roomyTerm(c.e), slices.Clone(c.ctx)
		places := []impl.Term{e}
		for i := range ctx {
			ctx[i].Type = roomyType(ctx[i].Type)
			places = append(places, impl.Term{Type: ctx[i].Type})
		}
		x, ok := impl.TypeIn(ctx, e)
		y, _ := impl.TypeIn(ctx, e)
		if !ok {
			continue
		}
		if reused(append(places, impl.Term{Type: x}, impl.Term{Type: y})...) {
			t.Fatalf("the type of %s shares memory", textOf(e))
		}
		overwrite(x)
		if slices.ContainsFunc(places, marked) || !impl.TermSame(e, c.e) {
			t.Fatalf("%s has been changed", textOf(c.e))
		}
	}
}

func TestMatchResultsAreNewMemory(t *testing.T) {
	shared := pair(intType, anyType)
	for _, x := range []impl.Type{fun(shared, shared), pair(shared, shared), fun(fun(shared, intType), shared), anyType} {
		full := roomyType(x)
		for _, match := range []func(impl.Type) (impl.Type, impl.Type, bool){impl.MatchFun, impl.MatchPair} {
			a, b, _ := match(full)
			if reused(impl.Term{Type: full}, impl.Term{Type: a}, impl.Term{Type: b}) {
				t.Errorf("the results for %s share memory", impl.FormatType(x))
			}
			overwrite(a)
			overwrite(b)
			if !impl.TypeSame(full, x) || markedType(full) {
				t.Errorf("%s has been changed", impl.FormatType(x))
			}
		}
	}
}

// A context is not changed, nor is the memory behind it, where an inner context might be kept.
func TestTypingArgumentsAreNotChanged(t *testing.T) {
	behind := impl.Bind{Name: "behind", Type: impl.Type{Kind: 41}}
	for _, text := range []string{"!x:B.x", "(!y:I.(!z:B.z T) 1)", "[!x:?.x,!y:?.y]", "(x+1)", "(x T)", "y"} {
		list := append(bindings(t, "x:I z:(I>?)"), behind, behind, behind)
		want := slices.Clone(list)
		e := roomyTerm(parseTerm(t, text))
		impl.CtxValid(list[:2])
		impl.TypeIn(list[:2], e)
		impl.TypeOf(e)
		impl.TermPrecise(e, e)
		impl.StaticTerm(e)
		same := func(a, b impl.Bind) bool { return a.Name == b.Name && impl.TypeSame(a.Type, b.Type) }
		if !slices.EqualFunc(list, want, same) || marked(e) || impl.FormatTerm(e) != text {
			t.Errorf("%s: the context has become %v, and the term %s", text, list, impl.FormatTerm(e))
		}
	}
}
