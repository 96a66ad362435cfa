package tests

import (
	"math"
	"math/rand"
	"regexp"
	"slices"
	"strconv"
	"testing"

	"loop.example/gradual/impl"
)

// Promise 12: Simplified casts do not change the result, if both evaluations
// end, and casts can be replaced by casts to and from the unknown type.

// withKid returns e with another operand in one place.
func withKid(e impl.Term, at int, kid impl.Term) impl.Term {
	e.Kids = slices.Clone(e.Kids)
	e.Kids[at] = kid
	return e
}

// simplerOnce removes the first redundant cast of e, where a node comes before
// its operands, together with the cast that it takes back, if there is one.
func simplerOnce(e impl.Term) (impl.Term, bool) {
	if e.Kind == impl.TermCast {
		from, to, inner := impl.FormatType(e.From), impl.FormatType(e.Type), e.Kids[0]
		if from == to {
			return inner, true
		}
		if from == "?" && inner.Kind == impl.TermCast && impl.FormatType(inner.Type) == "?" && impl.FormatType(inner.From) == to {
			return inner.Kids[0], true
		}
	}
	for i, kid := range e.Kids {
		if simpler, ok := simplerOnce(kid); ok {
			return withKid(e, i, simpler), true
		}
	}
	return e, false
}

// simplified removes redundant casts as long as there are any. The order makes no difference.
func simplified(e impl.Term) impl.Term {
	for {
		next, ok := simplerOnce(e)
		if !ok {
			return e
		}
		e = next
	}
}

// renumbered returns e with the labels from 1 on, in the order of the signs # in its text.
func renumbered(t *testing.T, e impl.Term) impl.Term {
	t.Helper()
	label := 0
	return parseCast(t, regexp.MustCompile("#-?[0-9]+").ReplaceAllStringFunc(textOf(e), func(string) string {
		label++
		return "#" + strconv.Itoa(label)
	}))
}

// dynamic returns e with two casts in place of each one between known types.
func dynamic(e impl.Term) impl.Term {
	for i, kid := range e.Kids {
		e = withKid(e, i, dynamic(kid))
	}
	if e.Kind == impl.TermCast && impl.FormatType(e.From) != "?" && impl.FormatType(e.Type) != "?" {
		forgets := e
		forgets.Type, e.From = anyType, anyType
		return withKid(e, 0, forgets)
	}
	return e
}

// expectSimplified compares SimplifyCasts and RedundantCasts of a valid term
// with the document, and returns the number of redundant casts.
func expectSimplified(t *testing.T, e impl.Term) int {
	t.Helper()
	want := simplified(e)
	got, ok := impl.SimplifyCasts(e)
	if !ok || !impl.TermSame(got, want) || !impl.CastValid(got) {
		t.Fatalf("SimplifyCasts(%s) = %s, %v, not %s", textOf(e), textOf(got), ok, textOf(want))
	}
	redundant := countCasts(e) - countCasts(want)
	if count := impl.RedundantCasts(e); count != redundant || nodes(e)-nodes(got) != redundant {
		t.Fatalf("RedundantCasts(%s) = %d, not %d", textOf(e), count, redundant)
	}
	if again, ok := impl.SimplifyCasts(got); !ok || !impl.TermSame(again, got) || impl.RedundantCasts(got) != 0 {
		t.Fatalf("%s is simplified to %s, which still has redundant casts", textOf(e), textOf(got))
	}
	return redundant
}

// expectRelabelled compares RelabelCasts of a valid term with the document, and
// reports whether there are not too many casts.
func expectRelabelled(t *testing.T, e impl.Term) bool {
	t.Helper()
	got, ok := impl.RelabelCasts(e)
	casts := countCasts(e)
	if ok != (casts <= 99) || !ok && !isZeroTerm(got) {
		t.Fatalf("RelabelCasts(%.200s), with %d casts: %s, %v", textOf(e), casts, textOf(got), ok)
	}
	if !ok {
		return false
	}
	if want := renumbered(t, e); !impl.TermSame(got, want) || !impl.CastValid(got) {
		t.Fatalf("RelabelCasts(%s) = %s, not %s", textOf(e), textOf(got), textOf(want))
	}
	if labels := impl.CastLabels(got); len(labels) != casts || casts > 0 && (labels[0] != 1 || labels[casts-1] != casts) {
		t.Fatalf("the labels of %s are %v", textOf(got), labels)
	}
	return true
}

// expectDynamic compares DynamicCasts of a valid term with the document, and
// reports whether the result is valid.
func expectDynamic(t *testing.T, e impl.Term) bool {
	t.Helper()
	want := dynamic(e)
	fits := nodes(want) <= 200 && depthOf(want) <= 40
	got, ok := impl.DynamicCasts(e)
	if ok != fits || fits && !impl.TermSame(got, want) || !fits && !isZeroTerm(got) {
		t.Fatalf("DynamicCasts(%s) = %s, %v, not %s", textOf(e), textOf(got), ok, textOf(want))
	}
	if again, okToo := impl.DynamicCasts(got); okToo != fits || fits && !impl.TermSame(again, got) {
		t.Fatalf("DynamicCasts(%s) = %s, %v", textOf(got), textOf(again), okToo)
	}
	return fits
}

// forgotten returns the text of ForgetCast of a term with this type.
func forgotten(e impl.Term, x impl.Type, label int) string {
	known, sign := impl.FormatType(x), "#"+strconv.Itoa(label)
	return "((" + textOf(e) + ":" + known + "~?" + sign + "):?~" + known + sign + ")"
}

// expectForgotten compares ForgetCast of a valid term and a label with the
// document, and reports whether there is a result.
func expectForgotten(t *testing.T, e impl.Term, label int) bool {
	t.Helper()
	x := exactType(nil, e)
	fits := !isZero(x) && label >= -99 && label <= 99 && label != 0 && nodes(e) <= 198 && depthOf(e) <= 38
	got, ok := impl.ForgetCast(e, label)
	if ok != fits || !fits && !isZeroTerm(got) || fits && (!impl.CastValid(got) || textOf(got) != forgotten(e, x, label)) {
		t.Fatalf("ForgetCast(%s, %d) = %s, %v", textOf(e), label, textOf(got), ok)
	}
	return fits
}

// expectNoSimplification checks the results for a term that is not a valid term with casts.
func expectNoSimplification(t *testing.T, what string, bad impl.Term) {
	t.Helper()
	if e, ok := impl.SimplifyCasts(bad); ok || !isZeroTerm(e) {
		t.Errorf("%s: SimplifyCasts = %v, %v", what, e, ok)
	}
	if count := impl.RedundantCasts(bad); count != 0 {
		t.Errorf("%s: RedundantCasts = %d", what, count)
	}
	if e, ok := impl.RelabelCasts(bad); ok || !isZeroTerm(e) {
		t.Errorf("%s: RelabelCasts = %v, %v", what, e, ok)
	}
	if e, ok := impl.DynamicCasts(bad); ok || !isZeroTerm(e) {
		t.Errorf("%s: DynamicCasts = %v, %v", what, e, ok)
	}
	for _, label := range []int{1, -1, 99, -99, 0, 100} {
		expectNoForgetting(t, what, bad, label)
	}
}

func expectNoForgetting(t *testing.T, what string, bad impl.Term, label int) {
	t.Helper()
	if e, ok := impl.ForgetCast(bad, label); ok || !isZeroTerm(e) {
		t.Errorf("%s: ForgetCast with the label %d = %v, %v", what, label, e, ok)
	}
}

// result holds what can be observed of an evaluation.
type result struct {
	text        string
	code, label int
}

func (r result) ended() bool { return r.code == valued || r.code == blamed || r.code == stuck }

// resultsOf returns the results of the evaluations by casts and by coercions.
func resultsOf(e impl.Term) [2]result {
	v, code, label := impl.EvalCast(e, 300)
	text, codeToo, labelToo, _ := impl.EvalSpace(e, 300)
	return [2]result{{impl.ValueText(v), code, label}, {text, codeToo, labelToo}}
}

// expectSameResults checks that two terms have the same results, where both of
// their evaluations end, and returns the code of the first one, or much if one of
// them does not end.
func expectSameResults(t *testing.T, a, b impl.Term) int {
	t.Helper()
	first, second := resultsOf(a), resultsOf(b)
	for i := range first {
		if first[i].ended() && second[i].ended() && first[i] != second[i] {
			t.Fatalf("%s has the result %v, but %s has %v", textOf(a), first[i], textOf(b), second[i])
		}
	}
	if !first[0].ended() || !second[0].ended() {
		return much
	}
	return first[0].code
}

func TestSimplificationExample(t *testing.T) {
	e := parseCast(t, "((1:I~?#1):?~I#2)")
	got, ok := impl.SimplifyCasts(e)
	if !ok || impl.FormatCast(got) != "1" || impl.RedundantCasts(e) != 2 {
		t.Errorf("SimplifyCasts = %s, %v; RedundantCasts = %d", impl.FormatCast(got), ok, impl.RedundantCasts(e))
	}
}

// expectSimpler checks the text of SimplifyCasts.
func expectSimpler(t *testing.T, text, want string) {
	t.Helper()
	e := parseCast(t, text)
	expectSimplified(t, e)
	if got, ok := impl.SimplifyCasts(e); !ok || impl.FormatCast(got) != want {
		t.Errorf("SimplifyCasts(%s) = %s, %v, not %s", text, impl.FormatCast(got), ok, want)
	}
}

func TestCastsToTheSameType(t *testing.T) {
	for text, want := range map[string]string{
		"(1:I~I#1)":                 "1",
		"(T:B~B#-99)":               "T",
		"((1:I~?#1):?~?#2)":         "(1:I~?#1)",
		"(x:?~?#1)":                 "x",
		"([1,T]:(I*B)~(I*B)#1)":     "[1,T]",
		"(((1:I~I#1):I~I#2):I~I#3)": "1",
		"((x:?~?#5):?~?#5)":         "x",
		"((x:?~?#5):?~I#6)":         "(x:?~I#6)",
		"((x:I~?#5):?~?#6)":         "(x:I~?#5)",
		"((1:I~I#1):I~?#2)":         "(1:I~?#2)",
		"((x:?~I#1):I~I#2)":         "(x:?~I#1)",
		"(x:((I>?)*(B>(?*I)))~((I>?)*(B>(?*I)))#3)": "x",
		// A cast of a function to its own type.
		"(!x:I.x:(I>I)~(I>I)#1)":                         "!x:I.x",
		"(!x:?.x:(?>?)~(?>?)#-1)":                        "!x:?.x",
		"((!x:I.x:(I>I)~(I>I)#1) 2)":                     "(!x:I.x 2)",
		"((!x:I.x:(I>I)~(I>I)#1):(I>I)~(?>?)#2)":         "(!x:I.x:(I>I)~(?>?)#2)",
		"((!x:I.x:(I>I)~(?>I)#1):(?>I)~(?>I)#2)":         "(!x:I.x:(I>I)~(?>I)#1)",
		"(!f:(I>I).(f:(I>I)~(I>I)#1):((I>I)>(I>I))~?#2)": "(!f:(I>I).f:((I>I)>(I>I))~?#2)",
		// A term need not have a type.
		"(1:B~B#1)":                 "1",
		"(1:(I>I)~(I>I)#1)":         "1",
		"((T:(?*?)~(?*?)#1) 1)":     "(T 1)",
		"((1:I~?#1):(I>I)~(I>I)#2)": "(1:I~?#1)",
	} {
		expectSimpler(t, text, want)
	}
}

func TestCastsThereAndBack(t *testing.T) {
	for text, want := range map[string]string{
		"((1:I~?#1):?~I#1)":                                 "1",
		"((T:B~?#1):?~B#-7)":                                "T",
		"((x:(?>?)~?#1):?~(?>?)#2)":                         "x",
		"((x:(I>?)~?#1):?~(I>?)#2)":                         "x",
		"((!x:I.x:(I>I)~?#1):?~(I>I)#2)":                    "!x:I.x",
		"(([1,T]:(I*B)~?#1):?~(I*B)#2)":                     "[1,T]",
		"((x:((I>?)*(B>(?*I)))~?#1):?~((I>?)*(B>(?*I)))#2)": "x",
		"((x:?~?#1):?~?#2)":                                 "x",
		// A cast that becomes redundant when its operand is simplified.
		"(((1:I~?#1):?~?#2):?~I#3)":                                      "1",
		"((((1:I~?#1):?~?#2):?~?#3):?~I#4)":                              "1",
		"(((1:I~?#1):?~I#2):I~I#3)":                                      "1",
		"(((1:I~I#1):I~?#2):?~I#3)":                                      "1",
		"((((1:I~?#1):?~I#2):I~?#3):?~I#4)":                              "1",
		"(((((1:I~I#1):I~?#2):?~?#3):?~I#4):I~I#5)":                      "1",
		"((((1:I~?#1):?~(I>I)#2):(I>I)~?#3):?~(I>I)#4)":                  "((1:I~?#1):?~(I>I)#2)",
		"((((x:B~?#1):?~I#2):I~?#3):?~I#4)":                              "((x:B~?#1):?~I#2)",
		"((((x:?~I#1):I~?#2):?~I#3):I~?#4)":                              "((x:?~I#1):I~?#4)",
		"((((((x:I~?#1):?~B#2):B~?#3):?~B#4):B~?#5):?~I#6)":              "((((x:I~?#1):?~B#2):B~?#5):?~I#6)",
		"(((!x:I.((x:I~?#1):?~I#2):(I>I)~?#3):?~?#4):?~(I>I)#5)":         "!x:I.x",
		"((((1:I~?#9):?~I#9)+((2:I~I#9):I~I#9)):I~?#9)":                  "((1+2):I~?#9)",
		"(({((T:B~?#1):?~B#2)?1:2}:I~I#3):I~?#4)":                        "({T?1:2}:I~?#4)",
		"((((!x:?.(x:?~?#1):(?>?)~?#2):?~(?>?)#3):(?>?)~?#4):?~(?>I)#5)": "((!x:?.x:(?>?)~?#4):?~(?>I)#5)",
		// A term need not have a type.
		"((T:I~?#1):?~I#2)":                 "T",
		"(((T:I~?#1):?~I#2)+[1,2])":         "(T+[1,2])",
		"((1:(?>?)~?#1):?~(?>?)#2)":         "1",
		"((1:I~?#1):?~((?>?)>B)#2)":         "((1:I~?#1):?~((?>?)>B)#2)",
		"(((1:I~?#1):I~?#2):?~I#3)":         "(1:I~?#1)",
		"(((1:I~?#1):B~?#2):?~I#3)":         "(((1:I~?#1):B~?#2):?~I#3)",
		"((((1:I~?#1):B~?#2):?~B#3):?~I#4)": "1",
	} {
		expectSimpler(t, text, want)
	}
}

// Casts that change something, or that may fail, stay as they are, with their labels.
func TestCastsThatStay(t *testing.T) {
	for _, text := range []string{
		"1", "x", "!x:?.x", "[(1+2),{T?$x:%y}]",
		"(1:I~?#1)", "(x:?~I#-1)", "(x:(I>I)~(I>?)#2)", "(x:(?>?)~(I>I)#2)", "(x:(I*?)~(?*I)#-99)", "((1:I~?#1):I~?#1)", "((x:?~I#1):?~I#2)",
		// To another type, which may be less precise or more precise.
		"((1:I~?#1):?~B#2)", "((1:I~?#1):?~(?>?)#1)", "((x:B~?#1):?~I#1)",
		"((x:(?>?)~?#1):?~(?*?)#2)", "((x:(I>I)~?#1):?~(I*I)#2)",
		"((x:(I>I)~?#1):?~(?>?)#2)", "((x:(?>?)~?#1):?~(I>I)#2)", "((x:(I>?)~?#1):?~(?>I)#2)", "((x:(I>I)~?#1):?~(I>?)#2)", "((x:(I*I)~?#1):?~(I*B)#2)",
		"((x:(I*(I>(I*I)))~?#1):?~(I*(I>(I*?)))#2)", "((x:(I*(I>(I*I)))~?#1):?~(I*(I>(I*B)))#2)",
		// From the unknown type and back, and by a type that is not the unknown one.
		"((x:?~I#1):I~?#2)", "((x:?~(I>I)#1):(I>I)~?#2)",
		"((x:(I>I)~(?>?)#1):(?>?)~(I>I)#2)", "((x:(I>?)~(I>I)#1):(I>I)~(I>?)#2)", "((x:(I*I)~(?*I)#1):(?*I)~(I*I)#2)",
		"(((x:I~?#1):?~B#2):B~?#3)", "((((x:I~?#1):?~B#2):B~?#3):?~I#4)",
		"(((x:(I>I)~(?>?)#4):(?>?)~?#4):?~(I>I)#4)", "(((x:(I>I)~?#4):?~(?>?)#4):(?>?)~(I>I)#4)",
		// From the unknown type, although the operand is cast to another one, so that the term has no type.
		"((x:(I>I)~(?>?)#1):?~(I>I)#2)", "((x:(I*I)~(?*I)#1):?~(I*I)#2)", "((x:?~I#1):?~I#2)",
		// With other nodes in between.
		"($[(1:I~?#1),2]:?~I#2)", "(%[1,(2:I~?#1)]:?~I#2)", "({T?(1:I~?#1):(2:I~?#2)}:?~I#3)", "({(T:B~?#1)?x:x}:?~B#2)",
		"((!x:?.x (1:I~?#1)):?~I#2)", "((!x:I.(x:I~?#1) 1):?~I#2)", "(!x:I.(x:I~?#1):?~(I>I)#2)", "([(x:I~?#1),(y:I~?#2)]:?~(I*I)#3)",
		"(((x:I~?#1)+1):?~I#2)", "((1<(x:I~?#1)):?~I#2)", "(((x:(I>I)~?#1) 1):?~(I>I)#2)", "($(x:(I*I)~?#1):?~(I*I)#2)",
		"[(1:I~?#1),(x:?~I#2)]", "((1:I~?#1) (x:?~I#2))", "{x?(1:I~?#1):(x:?~I#2)}",
	} {
		expectSimpler(t, text, text)
		if redundant := impl.RedundantCasts(parseCast(t, text)); redundant != 0 {
			t.Errorf("RedundantCasts(%s) = %d", text, redundant)
		}
	}
}

// Casts are simplified in every place, and each term shows how many are.
func TestSimplificationInEveryPlace(t *testing.T) {
	for _, c := range []struct {
		text, want string
		redundant  int
	}{
		{"!x:I.(x:I~I#1)", "!x:I.x", 1},
		{"((x:I~I#1) y)", "(x y)", 1},
		{"(x (y:I~I#1))", "(x y)", 1},
		{"(((1:I~?#1):?~I#2)+3)", "(1+3)", 2},
		{"(3+((1:I~?#1):?~I#2))", "(3+1)", 2},
		{"((1:I~I#1)<(2:I~I#1))", "(1<2)", 2},
		{"{(T:B~B#1)?1:2}", "{T?1:2}", 1},
		{"{T?(1:I~I#1):2}", "{T?1:2}", 1},
		{"{T?1:((2:I~?#1):?~I#1)}", "{T?1:2}", 2},
		{"{(T:B~B#1)?((1:I~?#2):?~I#3):(2:I~I#4)}", "{T?1:2}", 4},
		{"[(1:I~I#1),(2:I~I#2)]", "[1,2]", 2},
		{"[(1:I~?#1),(2:I~I#2)]", "[(1:I~?#1),2]", 1},
		{"$(x:(I*I)~(I*I)#1)", "$x", 1},
		{"%((x:(I*I)~?#1):?~(I*I)#1)", "%x", 2},
		{"((!x:I.(x:I~I#1):(I>I)~?#2):?~I#3)", "((!x:I.x:(I>I)~?#2):?~I#3)", 1},
		{"(!x:?.((x:?~I#1)+1) ((2:I~?#2):?~?#3))", "(!x:?.((x:?~I#1)+1) (2:I~?#2))", 1},
	} {
		expectSimpler(t, c.text, c.want)
		if redundant := impl.RedundantCasts(parseCast(t, c.text)); redundant != c.redundant {
			t.Errorf("RedundantCasts(%s) = %d", c.text, redundant)
		}
	}
}

// castChain returns so many casts of e, one around the other, by turns to the unknown type and back.
func castChain(e impl.Term, casts int, x impl.Type) impl.Term {
	from, to := x, anyType
	for i := range casts {
		e = castOf(e, from, to, 1+i%99)
		from, to = to, from
	}
	return e
}

func TestLimitsOfSimplification(t *testing.T) {
	for _, x := range []impl.Type{intType, fun(intType, intType), leftChain(4), anyType} {
		for casts := range 40 {
			e := castChain(name("x"), casts, x)
			want := casts / 2 * 2
			if impl.FormatType(x) == "?" {
				want = casts
			}
			if got := expectSimplified(t, e); got != want {
				t.Errorf("RedundantCasts(%s) = %d", textOf(e), got)
			}
		}
	}
	chain := castChain(num(1), 39, anyType)
	for _, c := range []struct {
		e         impl.Term
		redundant int
	}{
		{wideCast(200), 0},
		{wideTerm(200), 0},
		{deepTerm(impl.TermCast, 0, 40), 39},
		{deepTerm(impl.TermLam, 0, 40), 0},
		{deepTerm(impl.TermPair, 1, 40), 0},
		{node(impl.TermPair, chain.Kids[0], node(impl.TermPair, chain.Kids[0].Kids[0], chain.Kids[0].Kids[0])), 112},
	} {
		if got := expectSimplified(t, c.e); got != c.redundant {
			t.Errorf("RedundantCasts(%.100s) = %d, not %d", textOf(c.e), got, c.redundant)
		}
	}
}

// Every pair of types at both ends of two casts.
func TestSimplificationForAllTypes(t *testing.T) {
	list, both, one := append(allTypes(2), leftChain(4), rightChain(4), leftChain(3)), 0, 0
	for _, a := range list {
		for _, b := range list {
			if impl.Consistent(a, b) {
				got, same := expectSimplified(t, castOf(name("x"), a, b, 5)), impl.FormatType(a) == impl.FormatType(b)
				if (got == 1) != same {
					t.Fatalf("%s~%s: %d redundant casts", impl.FormatType(a), impl.FormatType(b), got)
				}
				if same {
					one++
				}
			}
			e := castOf(castOf(name("x"), a, anyType, 1), anyType, b, 2)
			if got := expectSimplified(t, e); (got == 2) != (impl.FormatType(a) == impl.FormatType(b)) {
				t.Fatalf("%s: %d redundant casts", textOf(e), got)
			} else if got == 2 {
				both++
			}
			expectDynamic(t, e)
		}
	}
	if one != len(list) || both != len(list) {
		t.Errorf("%d casts, and %d pairs of casts, are redundant", one, both)
	}
}

// padded returns e, which has the type that exactType returns in ctx, with
// redundant casts in random places.
func padded(r *rand.Rand, ctx []impl.Bind, e impl.Term) impl.Term {
	x, inner := exactType(ctx, e), ctx
	if e.Kind == impl.TermLam {
		inner = append(slices.Clone(ctx), impl.Bind{Name: e.Name, Type: e.Type})
	}
	for i, kid := range e.Kids {
		e = withKid(e, i, padded(r, inner, kid))
	}
	for range 2 {
		switch r.Intn(5) {
		case 0:
			e = castOf(e, x, x, mixedLabel(r))
		case 1:
			e = castOf(castOf(e, x, anyType, mixedLabel(r)), anyType, x, mixedLabel(r))
		}
	}
	return e
}

// everyResult checks the promise for a term with casts that has a type. It adds
// the codes of the evaluations to count.
func everyResult(t *testing.T, e impl.Term, count map[int]int) {
	t.Helper()
	x := castTypeText(t, e)
	simple, _ := impl.SimplifyCasts(e)
	terms := []impl.Term{simple}
	if mixed, ok := impl.DynamicCasts(e); ok {
		terms = append(terms, mixed)
	}
	if mixed, ok := impl.DynamicCasts(simple); ok {
		terms = append(terms, mixed)
	}
	if mixed, ok := impl.ForgetCast(e, -42); ok {
		terms = append(terms, mixed)
		if back, _ := impl.SimplifyCasts(mixed); !impl.TermSame(back, simple) {
			t.Fatalf("%s is simplified to %s, not to %s", textOf(mixed), textOf(back), textOf(simple))
		}
	}
	for _, other := range terms {
		if got := castTypeText(t, other); got != x {
			t.Fatalf("%s has the type %q, but %s has %q", textOf(e), x, textOf(other), got)
		}
		if !impl.TermSame(other, e) {
			count[expectSameResults(t, e, other)]++
		}
	}
}

func TestSimplificationDoesNotChangeResults(t *testing.T) {
	r := rand.New(rand.NewSource(70))
	count, redundant, paddings := map[int]int{}, map[bool]int{}, 0
	terms := runnableTerms()
	for i, e := range closedCases(t) {
		if _, ok := impl.TypeOf(e); ok && i%3 == 0 {
			terms = append(terms, e)
		}
	}
	for i, e := range terms {
		if i%3 == 2 {
			continue
		}
		inserted, _, _ := impl.InsertCasts(e)
		inserted = relabelled(r, inserted, 1+r.Intn(30))
		more := padded(r, nil, inserted)
		for _, e := range []impl.Term{inserted, more} {
			if !impl.CastValid(e) {
				continue
			}
			redundant[expectSimplified(t, e) > 0]++
			expectDynamic(t, e)
			expectRelabelled(t, e)
			expectForgotten(t, e, 1+r.Intn(99))
			everyResult(t, e, count)
		}
		first, ok := impl.SimplifyCasts(more)
		if second, _ := impl.SimplifyCasts(inserted); ok && !impl.TermSame(first, second) {
			t.Fatalf("%s is simplified to %s, not to %s", textOf(more), textOf(first), textOf(second))
		} else if ok {
			paddings++
		}
	}
	if count[valued] < 2000 || count[blamed] < 1000 || count[stuck] > 0 || redundant[true] < 1000 || redundant[false] < 500 || paddings < 1000 {
		t.Errorf("codes %v, redundant %v, %d paddings", count, redundant, paddings)
	}
}

// Terms that run for a long time, some of which only end with fewer casts, or the other way round.
func TestSimplificationOfLongRuns(t *testing.T) {
	r := rand.New(rand.NewSource(71))
	count := map[int]int{}
	texts := append(callsItself(2), callsItself(4)...)
	texts = append(texts, callsFlat, callsNested, "(!x:?.(x x) !x:?.(x x))", "((!t:?.((t t) !n:I.(n+1)) !f:?.!x:?.(f (f x))) 7)", "(((!t:?.(t t) !f:?.!x:?.(f (f x))) !n:B.n) 7)")
	for _, text := range texts {
		inserted, _, _ := impl.InsertCasts(parseTerm(t, text))
		everyResult(t, inserted, count)
		for range 20 {
			if more := padded(r, nil, inserted); impl.CastValid(more) {
				expectSimplified(t, more)
				everyResult(t, more, count)
			}
		}
	}
	if count[valued] < 20 || count[blamed] < 20 || count[much] < 500 || count[stuck] > 0 {
		t.Errorf("codes %v", count)
	}
	// Without its redundant casts, an evaluation ends before a limit that it reaches with them.
	e := castChain(num(1), 38, intType)
	simple, _ := impl.SimplifyCasts(e)
	for fuel, want := range map[int]int{0: much, 18: much, 19: valued} {
		if got := evaluationOf(e, fuel).code; got != want || evaluationOf(simple, fuel).code != valued {
			t.Errorf("%s, fuel %d: the code is %d", textOf(e), fuel, got)
		}
	}
}

// All functions for many terms, most of which have no type.
func TestSimplificationOfManyTerms(t *testing.T) {
	r := rand.New(rand.NewSource(72))
	redundant, known, forgotten, plain := 0, 0, 0, 0
	for _, e := range append(mixedCasts(), mixedTerms()...) {
		if !impl.CastValid(e) {
			expectNoSimplification(t, textOf(e), e)
			continue
		}
		if countCasts(e) == 0 {
			plain++
		}
		if expectSimplified(t, e) > 0 {
			redundant++
		}
		if !expectRelabelled(t, e) {
			t.Errorf("%s has too many casts", textOf(e))
		}
		if split := dynamic(e); expectDynamic(t, e) && !impl.TermSame(split, e) {
			known++
		}
		if expectForgotten(t, e, mixedLabel(r)) {
			forgotten++
		}
	}
	if redundant < 200 || known < 200 || forgotten < 100 || plain < 500 {
		t.Errorf("%d terms have redundant casts, %d casts between known types, %d a type, and %d no casts", redundant, known, forgotten, plain)
	}
}

// The operands come from left to right, and before the node itself.
func TestRelabelling(t *testing.T) {
	for text, want := range map[string]string{
		"1":                                                 "1",
		"!x:(I>?).[x,(x T)]":                                "!x:(I>?).[x,(x T)]",
		"(1:I~?#1)":                                         "(1:I~?#1)",
		"(1:I~?#-1)":                                        "(1:I~?#1)",
		"(1:I~?#99)":                                        "(1:I~?#1)",
		"((1:I~?#1):?~I#2)":                                 "((1:I~?#1):?~I#2)",
		"((1:I~?#2):?~I#1)":                                 "((1:I~?#1):?~I#2)",
		"((1:I~?#-5):?~I#-5)":                               "((1:I~?#1):?~I#2)",
		"(((x:I~I#3):I~?#2):?~B#1)":                         "(((x:I~I#1):I~?#2):?~B#3)",
		"[(1:I~?#9),((T:B~?#-9):?~B#4)]":                    "[(1:I~?#1),((T:B~?#2):?~B#3)]",
		"((x:?~I#7)+(y:?~I#7))":                             "((x:?~I#1)+(y:?~I#2))",
		"((x:?~I#7)<(y:?~I#6))":                             "((x:?~I#1)<(y:?~I#2))",
		"{(x:?~B#3)?(y:?~I#2):(z:?~I#1)}":                   "{(x:?~B#1)?(y:?~I#2):(z:?~I#3)}",
		"({(x:?~B#3)?(y:?~I#2):(z:?~I#1)}:I~?#4)":           "({(x:?~B#1)?(y:?~I#2):(z:?~I#3)}:I~?#4)",
		"(((f:?~(?>?)#8) (x:I~?#4)):?~I#9)":                 "(((f:?~(?>?)#1) (x:I~?#2)):?~I#3)",
		"(!x:I.((x:I~?#1):?~?#1):(I>?)~?#1)":                "(!x:I.((x:I~?#1):?~?#2):(I>?)~?#3)",
		"($(x:?~(?*?)#50):?~I#40)":                          "($(x:?~(?*?)#1):?~I#2)",
		"(%(x:?~(?*?)#-50):?~I#-40)":                        "(%(x:?~(?*?)#1):?~I#2)",
		"[[(a:I~?#1),(b:I~?#1)],[(c:I~?#1),(d:I~?#1)]]":     "[[(a:I~?#1),(b:I~?#2)],[(c:I~?#3),(d:I~?#4)]]",
		"([([a,(b:I~?#1)]:(I*?)~?#1),(c:I~?#1)]:(?*?)~?#1)": "([([a,(b:I~?#1)]:(I*?)~?#2),(c:I~?#3)]:(?*?)~?#4)",
		"(!f:?.((f:?~(?>?)#1) (1:I~?#2)) (!x:?.((x:?~I#3)+1):(?>I)~?#4))": "(!f:?.((f:?~(?>?)#1) (1:I~?#2)) (!x:?.((x:?~I#3)+1):(?>I)~?#4))",
		// The labels of InsertCasts are in another order.
		"{((T:B~?#1):?~B#3)?1:((2:I~?#2):?~I#4)}":                                 "{((T:B~?#1):?~B#2)?1:((2:I~?#3):?~I#4)}",
		"(((1:I~?#1):?~I#6)+(((2:I~?#2):?~I#4)+((3:I~?#3):?~I#5)))":               "(((1:I~?#1):?~I#2)+(((2:I~?#3):?~I#4)+((3:I~?#5):?~I#6)))",
		"!x:?.!y:?.((((x:?~(?>?)#1) y):?~(?>?)#4) (((y:?~I#2)+(x:?~I#3)):I~?#5))": "!x:?.!y:?.((((x:?~(?>?)#1) y):?~(?>?)#2) (((y:?~I#3)+(x:?~I#4)):I~?#5))",
	} {
		e := parseCast(t, text)
		expectRelabelled(t, e)
		if got, ok := impl.RelabelCasts(e); !ok || impl.FormatCast(got) != want {
			t.Errorf("RelabelCasts(%s) = %s, %v, not %s", text, impl.FormatCast(got), ok, want)
		}
	}
}

// withCastCount returns terms with so many casts, from 1 to 200 nodes and with a
// depth of up to 40, as long as they are valid.
func withCastCount(casts int) []impl.Term {
	chain := func(casts int) impl.Term { return castChain(num(1), casts, intType) }
	third := casts / 3
	three := node(impl.TermIf, chain(third), chain(third), chain(casts-2*third))
	spread := num(1)
	if casts > 0 {
		spread = castOf(num(1), intType, anyType, -99)
	}
	for made := 1; made < casts; made *= 2 {
		rest := spread
		if 2*made > casts {
			rest = castChain(num(1), casts-made, intType)
		}
		spread = node(impl.TermPair, spread, rest)
	}
	return slices.DeleteFunc([]impl.Term{chain(casts), three, spread}, func(e impl.Term) bool { return !impl.CastValid(e) })
}

func TestNumberOfLabels(t *testing.T) {
	terms := map[bool]int{}
	for casts := range 113 {
		list := withCastCount(casts)
		for _, e := range list {
			if countCasts(e) != casts {
				t.Fatalf("%s has %d casts, not %d", textOf(e), countCasts(e), casts)
			}
			if got := expectRelabelled(t, e); got != (casts <= 99) {
				t.Errorf("RelabelCasts of a term with %d casts returns %v", casts, got)
			}
			terms[casts <= 99]++
			expectSimplified(t, e)
			expectDynamic(t, e)
		}
		if len(list) == 0 {
			t.Errorf("no term with %d casts", casts)
		}
	}
	if terms[true] < 150 || terms[false] < 13 {
		t.Errorf("numbers of terms: %v", terms)
	}
	// With as many nodes as there may be.
	for casts, want := range map[int]bool{98: true, 99: true, 100: false, 101: false} {
		three := withCastCount(casts)[0]
		e := node(impl.TermPair, three, wideTerm(199-nodes(three)))
		if got := expectRelabelled(t, e); got != want || nodes(e) != 200 {
			t.Errorf("RelabelCasts of a term with %d casts and %d nodes returns %v", casts, nodes(e), got)
		}
	}
}

// A relabelled term blames the same cast.
func TestRelabelledTermsBlameTheSameCasts(t *testing.T) {
	moved, same, negative := 0, 0, 0
	for _, e := range runnableTerms() {
		inserted, _, _ := impl.InsertCasts(e)
		got, ok := impl.RelabelCasts(inserted)
		if !ok || castTypeText(t, got) != castTypeText(t, inserted) {
			t.Fatalf("%s is relabelled to %s", textOf(inserted), textOf(got))
		}
		before, after := resultsOf(inserted), resultsOf(got)
		labels := labelsInOrder(inserted)
		for i := range before {
			want := before[i]
			if label := want.label; label != 0 {
				want.label = 1 + slices.Index(labels, max(label, -label))
				if label < 0 {
					want.label = -want.label
					negative++
				}
				if want.label != label {
					moved++
				} else {
					same++
				}
			}
			if after[i] != want {
				t.Fatalf("%s has the result %v, but %s has %v", textOf(inserted), before[i], textOf(got), after[i])
			}
		}
	}
	if moved < 50 || same < 1000 || negative < 500 {
		t.Errorf("%d labels have moved, %d have not, %d are negative", moved, same, negative)
	}
}

// labelsInOrder returns the labels of a term in the order of RelabelCasts.
func labelsInOrder(e impl.Term) []int {
	labels := []int{}
	for _, kid := range e.Kids {
		labels = append(labels, labelsInOrder(kid)...)
	}
	if e.Kind == impl.TermCast {
		labels = append(labels, e.Label)
	}
	return labels
}

func TestDynamicCasts(t *testing.T) {
	for text, want := range map[string]string{
		"1":                          "1",
		"!x:(I>B).[x,(x 1)]":         "!x:(I>B).[x,(x 1)]",
		"(1:I~I#3)":                  "((1:I~?#3):?~I#3)",
		"(T:B~B#-99)":                "((T:B~?#-99):?~B#-99)",
		"(!x:I.x:(I>I)~(I>I)#1)":     "((!x:I.x:(I>I)~?#1):?~(I>I)#1)",
		"(x:(I>?)~(?>B)#7)":          "((x:(I>?)~?#7):?~(?>B)#7)",
		"(x:(?>?)~(?>?)#7)":          "((x:(?>?)~?#7):?~(?>?)#7)",
		"(x:(?*?)~((I>B)*(B>I))#-7)": "((x:(?*?)~?#-7):?~((I>B)*(B>I))#-7)",
		// One of the types is the unknown type, or both are.
		"(1:I~?#3)":                 "(1:I~?#3)",
		"(x:?~I#3)":                 "(x:?~I#3)",
		"(x:?~?#-3)":                "(x:?~?#-3)",
		"(x:(I>I)~?#3)":             "(x:(I>I)~?#3)",
		"(x:?~((I*I)>B)#3)":         "(x:?~((I*I)>B)#3)",
		"((x:(?>?)~?#3):?~(?*?)#4)": "((x:(?>?)~?#3):?~(?*?)#4)",
		// Operands, and several casts.
		"((x:I~I#1):I~I#2)":                              "((((x:I~?#1):?~I#1):I~?#2):?~I#2)",
		"((x:I~I#1):I~?#2)":                              "(((x:I~?#1):?~I#1):I~?#2)",
		"((x:?~I#1):I~I#2)":                              "(((x:?~I#1):I~?#2):?~I#2)",
		"((x:I~?#1):?~?#2)":                              "((x:I~?#1):?~?#2)",
		"((x:(I>I)~(?>I)#1) (y:B~B#2))":                  "(((x:(I>I)~?#1):?~(?>I)#1) ((y:B~?#2):?~B#2))",
		"[(1:I~I#-1),((T:B~?#2):?~B#3)]":                 "[((1:I~?#-1):?~I#-1),((T:B~?#2):?~B#3)]",
		"{(a:B~B#1)?(b:I~I#2):(c:I~I#3)}":                "{((a:B~?#1):?~B#1)?((b:I~?#2):?~I#2):((c:I~?#3):?~I#3)}",
		"$(x:(I*I)~(?*I)#4)":                             "$((x:(I*I)~?#4):?~(?*I)#4)",
		"(%x:(I>(I>I))~(I>?)#4)":                         "((%x:(I>(I>I))~?#4):?~(I>?)#4)",
		"(!f:(I>I).(f:(I>I)~(I>?)#1):((I>I)>(I>?))~?#2)": "(!f:(I>I).((f:(I>I)~?#1):?~(I>?)#1):((I>I)>(I>?))~?#2)",
		"(((x:(I>I)~(I>?)#1) 1)+(1:I~I#2))":              "((((x:(I>I)~?#1):?~(I>?)#1) 1)+((1:I~?#2):?~I#2))",
		"((x:(I>I)~(I>?)#1)<(1:I~I#2))":                  "(((x:(I>I)~?#1):?~(I>?)#1)<((1:I~?#2):?~I#2))",
	} {
		e := parseCast(t, text)
		expectDynamic(t, e)
		if got, ok := impl.DynamicCasts(e); !ok || impl.FormatCast(got) != want {
			t.Errorf("DynamicCasts(%s) = %s, %v, not %s", text, impl.FormatCast(got), ok, want)
		}
	}
}

// The result has a cast more for each cast between known types, and has to be valid, too.
func TestDynamicCastsThatAreNoLongerValid(t *testing.T) {
	known := func(e impl.Term, casts int) impl.Term {
		for range casts {
			e = castOf(e, intType, intType, 9)
		}
		return e
	}
	for _, c := range []struct {
		what string
		e    impl.Term
		ok   bool
	}{
		{"a depth of 39", known(num(1), 19), true},
		{"a depth of 40", known(node(impl.TermFst, num(1)), 19), true},
		{"a depth of 41", known(num(1), 20), false},
		{"a depth of 41 by the last cast", known(deepTerm(impl.TermFst, 0, 39), 1), false},
		{"a depth of 40 by the last cast", known(deepTerm(impl.TermFst, 0, 38), 1), true},
		{"a depth of 41 by the first cast", castOf(deepTerm(impl.TermCast, 0, 2), intType, intType, 1), true},
		{"a depth of 79", deepTerm(impl.TermCast, 0, 40), false},
		{"a depth of 40 without known types", castChain(num(1), 39, intType), true},
		{"200 nodes", known(wideTerm(198), 1), true},
		{"201 nodes", known(wideTerm(199), 1), false},
		{"201 nodes by two casts", known(wideTerm(197), 2), false},
		{"200 nodes by two casts", known(wideTerm(196), 2), true},
		{"200 nodes without known types", castOf(wideTerm(199), intType, anyType, 1), true},
		{"200 nodes with casts without known types", wideCast(200), true},
		{"200 nodes, one of which is a cast", node(impl.TermPair, wideTerm(197), known(num(1), 1)), false},
		{"199 nodes, one of which is a cast", node(impl.TermPair, wideTerm(196), known(num(1), 1)), true},
	} {
		if !impl.CastValid(c.e) {
			t.Fatalf("%s: the term is not valid", c.what)
		}
		if got := expectDynamic(t, c.e); got != c.ok {
			t.Errorf("%s: DynamicCasts returns %v", c.what, got)
		}
	}
}

// Casts between known types fail in the same way as their replacements.
func TestDynamicCastsHaveTheSameResults(t *testing.T) {
	for text, want := range map[string]result{
		"((!x:?.(x:?~I#1):(?>I)~(B>I)#2) T)":                                  {"", blamed, 1},
		"((!x:I.x:(I>I)~(?>I)#2) (T:B~?#3))":                                  {"", blamed, -2},
		"((!x:?.x:(?>?)~(I>B)#2) 5)":                                          {"", blamed, 2},
		"$([(1:I~?#4),2]:(?*I)~(B*?)#5)":                                      {"", blamed, 5},
		"%([(1:I~?#4),2]:(?*I)~(B*?)#5)":                                      {"2", valued, 0},
		"((1:I~I#1)+(2:I~I#2))":                                               {"3", valued, 0},
		"(!x:I.x:(I>I)~(?>?)#1)":                                              {"function", valued, 0},
		"([1,2]:(I*I)~(?*I)#1)":                                               {"pair", valued, 0},
		"(((!x:?.x:(?>?)~(I>?)#-1):(I>?)~(I>I)#-2) 7)":                        {"7", valued, 0},
		"(((!f:(I>I).f:((I>I)>(I>I))~((?>I)>(I>I))#6) !x:?.(x:?~I#7)) 1)":     {"1", valued, 0},
		"((((!f:(?>I).f:((?>I)>(?>I))~((I>I)>(?>I))#6) !x:I.x) (T:B~?#8))+1)": {"", blamed, 6},
	} {
		e := parseCast(t, text)
		if castTypeText(t, e) == "" {
			t.Fatalf("%s has no type", text)
		}
		mixed, _ := impl.DynamicCasts(e)
		if before, after := resultsOf(e), resultsOf(mixed); before != [2]result{want, want} || after != before {
			t.Errorf("%s: the results are %v and %v", text, before, after)
		}
	}
}

func TestForgetting(t *testing.T) {
	for _, c := range []struct {
		text  string
		label int
		want  string
	}{
		{"1", 1, "((1:I~?#1):?~I#1)"},
		{"T", -1, "((T:B~?#-1):?~B#-1)"},
		{"1", 99, "((1:I~?#99):?~I#99)"},
		{"1", -99, "((1:I~?#-99):?~I#-99)"},
		{"[1,T]", 8, "(([1,T]:(I*B)~?#8):?~(I*B)#8)"},
		{"!x:?.x", 5, "((!x:?.x:(?>?)~?#5):?~(?>?)#5)"},
		{"!x:I.(x<1)", 5, "((!x:I.(x<1):(I>B)~?#5):?~(I>B)#5)"},
		{"(!x:I.(x+1) 2)", 5, "(((!x:I.(x+1) 2):I~?#5):?~I#5)"},
		{"!x:((I>I)>I).1", 2, "((!x:((I>I)>I).1:(((I>I)>I)>I)~?#2):?~(((I>I)>I)>I)#2)"},
		{"(!x:I.x:(I>I)~(?>I)#3)", 4, "(((!x:I.x:(I>I)~(?>I)#3):(?>I)~?#4):?~(?>I)#4)"},
		{"((1:I~?#3):?~B#3)", 3, "((((1:I~?#3):?~B#3):B~?#3):?~B#3)"},
		{"((1:I~?#1):?~I#1)", 2, "((((1:I~?#1):?~I#1):I~?#2):?~I#2)"},
		// A term of the unknown type is cast from it to itself.
		{"(1:I~?#1)", 2, "(((1:I~?#1):?~?#2):?~?#2)"},
		{"(!x:?.x (1:I~?#1))", -2, "(((!x:?.x (1:I~?#1)):?~?#-2):?~?#-2)"},
		{"((1:I~?#1):?~?#7)", 7, "((((1:I~?#1):?~?#7):?~?#7):?~?#7)"},
		// Terms without a type.
		{"(1 2)", 1, ""},
		{"x", 1, ""},
		{"(x:I~?#1)", 1, ""},
		{"(T+1)", 1, ""},
		{"(1:?~I#1)", 1, ""},
		{"(T:I~?#1)", 1, ""},
		{"((1:I~?#1)+1)", 1, ""},
		{"(!x:?.x 1)", 1, ""},
		{"{T?(1:I~?#1):2}", 1, ""},
		{"!x:(((I>I)>I)>I).1", 1, ""},
		{"!x:((I>I)>I).!y:I.x", 1, ""},
		{"[1,[1,[1,[1,1]]]]", 1, ""},
		{"$[1,[1,[1,[1,1]]]]", 1, ""},
	} {
		e := parseCast(t, c.text)
		if fits := expectForgotten(t, e, c.label); fits != (c.want != "") {
			t.Errorf("ForgetCast(%s, %d) returns %v", c.text, c.label, fits)
		}
		if got, _ := impl.ForgetCast(e, c.label); impl.FormatCast(got) != c.want {
			t.Errorf("ForgetCast(%s, %d) = %s", c.text, c.label, impl.FormatCast(got))
		}
	}
}

func TestLabelsOfForgetting(t *testing.T) {
	for _, text := range []string{"1", "!x:I.x", "(1:I~?#1)", "[1,(T:B~?#-5)]", "(1 2)", "x"} {
		e := parseCast(t, text)
		typed := castTypeText(t, e) != ""
		for label := -205; label <= 205; label++ {
			want := typed && label != 0 && label >= -99 && label <= 99
			if got := expectForgotten(t, e, label); got != want {
				t.Errorf("ForgetCast(%s, %d) returns %v", text, label, got)
			}
		}
		for _, label := range []int{math.MinInt, math.MaxInt, math.MinInt + 1, 1 << 32, 1<<32 + 1, -1 << 32, 256 + 1, 1<<16 + 1} {
			expectNoForgetting(t, text, e, label)
		}
	}
}

func TestLimitsOfForgetting(t *testing.T) {
	for _, c := range []struct {
		what string
		e    impl.Term
		ok   bool
	}{
		{"197 nodes", sumWithNodes(197), true},
		{"198 nodes", sumWithNodes(198), true},
		{"199 nodes", sumWithNodes(199), false},
		{"200 nodes", sumWithNodes(200), false},
		{"a depth of 37", castChain(num(1), 36, intType), true},
		{"a depth of 38", castChain(num(1), 37, intType), true},
		{"a depth of 39", castChain(num(1), 38, intType), false},
		{"a depth of 40", castChain(num(1), 39, intType), false},
		{"a depth of 38 and the unknown type", castChain(castOf(num(1), intType, anyType, 1), 36, anyType), true},
		{"a depth of 39 and the unknown type", castChain(castOf(num(1), intType, anyType, 1), 37, anyType), false},
		{"a type with a depth of 4", lam("x", leftChain(3), num(1)), true},
		{"a type with a depth of 5", lam("x", leftChain(4), num(1)), false},
		{"a type with a depth of 4 by a cast", castChain(num(1), 1, intType), true},
	} {
		if !impl.CastValid(c.e) {
			t.Fatalf("%s: the term is not valid", c.what)
		}
		if got := expectForgotten(t, c.e, 9); got != c.ok {
			t.Errorf("%s: ForgetCast returns %v", c.what, got)
		}
	}
	deep := castOf(castOf(num(1), intType, anyType, 1), anyType, rightChain(4), 2)
	if !expectForgotten(t, deep, 3) {
		t.Errorf("ForgetCast(%s) returns false", textOf(deep))
	}
}

// sumWithNodes returns a term of the type I with so many nodes.
func sumWithNodes(count int) impl.Term {
	switch count {
	case 1:
		return num(1)
	case 2:
		return castOf(num(1), intType, intType, 1)
	}
	left := (count - 1) / 2
	return node(impl.TermAdd, sumWithNodes(left), sumWithNodes(count-1-left))
}

// More terms with casts that are not valid are in the tests of chapter 4.
func TestSimplificationOfInvalidTerms(t *testing.T) {
	good := castOf(num(1), intType, anyType, 1)
	for what, bad := range map[string]impl.Term{
		"the zero value":                  {},
		"an ascription":                   as(num(1), intType),
		"an ascription in a cast":         castOf(as(num(1), intType), intType, intType, 1),
		"a cast in an ascription":         as(good, anyType),
		"a cast beside an ascription":     node(impl.TermPair, good, as(num(1), anyType)),
		"types that are not consistent":   castOf(good, intType, boolType, 1),
		"a label of 0":                    castOf(num(1), intType, intType, 0),
		"a label of 100":                  castOf(num(1), intType, intType, 100),
		"a label of -100":                 castOf(good, anyType, intType, -100),
		"a label of the least number":     castOf(good, anyType, intType, math.MinInt),
		"a cast without types":            castOf(num(1), impl.Type{}, impl.Type{}, 1),
		"a cast of an invalid type":       castOf(num(1), leftChain(5), leftChain(5), 1),
		"a cast from an invalid type":     castOf(good, anyType, rightChain(5), 1),
		"a cast of a type of itself":      castOf(num(1), selfType(impl.TypeFun, 2), selfType(impl.TypeFun, 2), 1),
		"a cast of nothing":               {Kind: impl.TermCast, From: intType, Type: intType, Label: 1},
		"a cast of two operands":          {Kind: impl.TermCast, From: intType, Type: intType, Label: 1, Kids: []impl.Term{good, good}},
		"a cast with a number":            {Kind: impl.TermCast, Num: 1, From: intType, Type: intType, Label: 1, Kids: []impl.Term{num(1)}},
		"a redundant cast of nothing":     castOf(impl.Term{}, intType, intType, 1),
		"a cast of an invalid number":     castOf(num(1000), intType, intType, 1),
		"a cast of an unknown kind":       castOf(impl.Term{Kind: 15}, intType, intType, 1),
		"201 nodes, one of them too many": castOf(wideTerm(200), intType, intType, 1),
		"201 nodes":                       wideCast(201),
		"a depth of 41":                   deepTerm(impl.TermCast, 0, 41),
		"a depth of 41 without casts":     deepTerm(impl.TermLam, 0, 41),
		"a cast of itself":                selfTerm(impl.TermCast, 1),
		"a pair of itself":                selfTerm(impl.TermPair, 2),
		"a pair of a cast and of itself":  node(impl.TermPair, good, selfTerm(impl.TermPair, 2)),
	} {
		if impl.CastValid(bad) {
			t.Fatalf("%s: the term is valid", what)
		}
		expectNoSimplification(t, what, bad)
	}
}

func TestSimplificationResultsAreNewMemory(t *testing.T) {
	shape := fun(fun(intType, anyType), pair(anyType, intType))
	list := append(mixedCasts(), castOf(castOf(name("x"), shape, anyType, -4), anyType, shape, 4), castOf(lam("x", shape, name("x")), fun(shape, shape), anyType, 4),
		castOf(lam("x", intType, name("x")), fun(intType, intType), fun(intType, anyType), 4), lam("x", pair(intType, boolType), num(1)))
	for i, plain := range list {
		if i%3 != 0 && i < 1000 {
			continue
		}
		e := roomyTerm(plain)
		results := []impl.Term{e}
		texts := []string{textOf(e)}
		for range 2 {
			simple, _ := impl.SimplifyCasts(e)
			labelled, _ := impl.RelabelCasts(e)
			mixed, _ := impl.DynamicCasts(e)
			back, _ := impl.ForgetCast(e, 5)
			for _, x := range []impl.Term{simple, labelled, mixed, back} {
				results, texts = append(results, x), append(texts, textOf(x))
			}
			impl.RedundantCasts(e)
		}
		if reused(results...) {
			t.Fatalf("results for %s share memory", textOf(plain))
		}
		for i := range results[1:] {
			overwriteTerm(results[i+1])
			for j := range results {
				if (j == 0 || j > i+1) && textOf(results[j]) != texts[j] {
					t.Fatalf("results for %s share memory", texts[0])
				}
			}
		}
		if !impl.TermSame(e, plain) || marked(e) {
			t.Fatalf("%s has been changed", textOf(plain))
		}
	}
}
