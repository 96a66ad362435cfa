package tests

import (
	"math/rand"
	"slices"
	"strconv"
	"testing"

	"loop.example/gradual/impl"
)

// Promise 5: A term with a type is never stuck, and steps preserve types.

// stepResult holds the results of StepCast or EvalCast.
type stepResult struct {
	term        impl.Term
	code, label int
}

func stepOf(e impl.Term) stepResult {
	next, code, label := impl.StepCast(e)
	return stepResult{next, code, label}
}

func evaluationOf(e impl.Term, fuel int) stepResult {
	end, code, label := impl.EvalCast(e, fuel)
	return stepResult{end, code, label}
}

func (s stepResult) same(other stepResult) bool {
	return s.code == other.code && s.label == other.label && impl.TermSame(s.term, other.term)
}

func (s stepResult) text() string {
	if !isZeroTerm(s.term) {
		return textOf(s.term)
	}
	return "code " + strconv.Itoa(s.code) + " label " + strconv.Itoa(s.label)
}

var stuckResult = stepResult{code: impl.StepStuck}

// expectedValue reports whether a term with casts is a value by the document.
func expectedValue(e impl.Term) bool {
	switch e.Kind {
	case impl.TermNum, impl.TermTrue, impl.TermFalse, impl.TermLam:
		return true
	case impl.TermPair:
		return expectedValue(e.Kids[0]) && expectedValue(e.Kids[1])
	case impl.TermCast:
		ground, _ := impl.GroundOf(e.From)
		proxy := e.From.Kind == e.Type.Kind && e.Type.Kind >= impl.TypeFun
		injection := e.Type.Kind == impl.TypeAny && impl.TypeSame(ground, e.From)
		return (proxy || injection) && expectedValue(e.Kids[0])
	}
	return false
}

// expectedStep performs a step of a valid term with casts by the rules of the document.
func expectedStep(e impl.Term) stepResult {
	if expectedValue(e) {
		return stepResult{term: e, code: impl.StepValue}
	}
	next := expectedInside(e)
	if next.code == impl.StepTook && (nodes(next.term) > 200 || depthOf(next.term) > 40) {
		return stepResult{code: impl.StepLarge}
	}
	return next
}

func expectedInside(e impl.Term) stepResult {
	for i, kid := range e.Kids {
		if expectedValue(kid) || e.Kind == impl.TermIf && i > 0 {
			continue
		}
		next := expectedInside(kid)
		if next.code == impl.StepTook {
			kids := slices.Clone(e.Kids)
			kids[i], e.Kids = next.term, kids
			next.term = e
		}
		return next
	}
	return expectedAtNode(e)
}

// expectedAtNode performs the step of a node all of whose operands that count are values.
func expectedAtNode(e impl.Term) stepResult {
	if operands(e.Kind) == 0 {
		return stuckResult
	}
	v, first := e.Kids[0], e.Kids[0].Kind
	result := impl.Term{}
	switch {
	case e.Kind == impl.TermCast:
		return expectedCast(e, v)
	case e.Kind == impl.TermApp && first == impl.TermLam:
		result = replaced(v.Kids[0], v.Name, e.Kids[1])
	case e.Kind == impl.TermApp && first == impl.TermCast && v.From.Kind == impl.TypeFun && v.Type.Kind == impl.TypeFun:
		argument := castOf(e.Kids[1], v.Type.Kids[0], v.From.Kids[0], -v.Label)
		result = castOf(node(impl.TermApp, v.Kids[0], argument), v.From.Kids[1], v.Type.Kids[1], v.Label)
	case e.Kind == impl.TermAdd && first == impl.TermNum && e.Kids[1].Kind == impl.TermNum:
		result = num((v.Num + e.Kids[1].Num) % 1000)
	case e.Kind == impl.TermLess && first == impl.TermNum && e.Kids[1].Kind == impl.TermNum:
		result = map[bool]impl.Term{true: trueTerm, false: falseTerm}[v.Num < e.Kids[1].Num]
	case e.Kind == impl.TermIf && first == impl.TermTrue:
		result = e.Kids[1]
	case e.Kind == impl.TermIf && first == impl.TermFalse:
		result = e.Kids[2]
	case (e.Kind == impl.TermFst || e.Kind == impl.TermSnd) && first == impl.TermPair:
		result = v.Kids[e.Kind-impl.TermFst]
	case (e.Kind == impl.TermFst || e.Kind == impl.TermSnd) && first == impl.TermCast && v.From.Kind == impl.TypePair && v.Type.Kind == impl.TypePair:
		i := e.Kind - impl.TermFst
		result = castOf(node(e.Kind, v.Kids[0]), v.From.Kids[i], v.Type.Kids[i], v.Label)
	default:
		return stuckResult
	}
	return stepResult{term: result, code: impl.StepTook}
}

// expectedCast performs the step of a cast of the value v that is not a value.
func expectedCast(e, v impl.Term) stepResult {
	from, to := impl.FormatType(e.From), impl.FormatType(e.Type)
	grounds := map[string]bool{"I": true, "B": true, "(?>?)": true, "(?*?)": true}
	if e.From.Kind == e.Type.Kind {
		return stepResult{term: v, code: impl.StepTook}
	}
	if from == "?" && grounds[to] {
		if v.Kind != impl.TermCast || v.Type.Kind != impl.TypeAny {
			return stuckResult
		}
		if impl.FormatType(v.From) != to {
			return stepResult{code: impl.StepBlame, label: e.Label}
		}
		return stepResult{term: v.Kids[0], code: impl.StepTook}
	}
	known := e.From
	if from == "?" {
		known = e.Type
	}
	ground, _ := impl.GroundOf(known)
	return stepResult{term: castOf(castOf(v, e.From, ground, e.Label), ground, e.Type, e.Label), code: impl.StepTook}
}

// expectNoEvaluation checks the result of every function of the chapter for a term with casts that is not valid.
func expectNoEvaluation(t *testing.T, what string, bad impl.Term) {
	t.Helper()
	if impl.IsValue(bad) || impl.ValueText(bad) != "" {
		t.Errorf("%s: treated as a value", what)
	}
	if got := stepOf(bad); !got.same(stuckResult) {
		t.Errorf("%s: StepCast = %s", what, got.text())
	}
	for _, fuel := range []int{-1, 0, 1, 300, 301} {
		if got, steps := evaluationOf(bad, fuel), impl.CountSteps(bad, fuel); !got.same(stuckResult) || steps != 0 {
			t.Errorf("%s: EvalCast = %s after %d steps", what, got.text(), steps)
		}
	}
	expectNoSpace(t, what, bad)
	expectNoBare(t, what, bad)
}

// expectNoRun checks RunTerm of a term that is not valid or has no type.
func expectNoRun(t *testing.T, what string, bad impl.Term) {
	t.Helper()
	for _, fuel := range []int{-1, 0, 1, 300, 301} {
		if text, code, label := impl.RunTerm(bad, fuel); text != "" || code != impl.StepStuck || label != 0 {
			t.Errorf("%s: RunTerm = %q, %d, %d", what, text, code, label)
		}
	}
	expectNoSpaceRun(t, what, bad)
}

// expectEvaluation compares the steps and the evaluation of a valid term with
// casts with the rules of the document, with all amounts of fuel that matter.
// It returns the terms before each step and at the end, and the code at the end.
func expectEvaluation(t *testing.T, e impl.Term) ([]impl.Term, int) {
	t.Helper()
	reached := []impl.Term{e}
	next := expectedStep(e)
	for next.code == impl.StepTook && len(reached) <= 300 {
		expectStep(t, reached[len(reached)-1], next)
		reached = append(reached, next.term)
		next = expectedStep(next.term)
	}
	expectStep(t, reached[len(reached)-1], next)
	steps := len(reached) - 1
	for _, fuel := range []int{0, 1, steps / 2, steps - 1, steps, steps + 1, 299, 300} {
		want, count := next, steps
		if fuel < steps || next.code == impl.StepTook {
			want, count = stepResult{code: impl.StepMuch}, fuel
		}
		if fuel < 0 || fuel > 300 {
			want, count = stuckResult, 0
		}
		if got := evaluationOf(e, fuel); !got.same(want) {
			t.Fatalf("EvalCast(%s, %d) = %s, not %s", textOf(e), fuel, got.text(), want.text())
		}
		if got := impl.CountSteps(e, fuel); got != count {
			t.Fatalf("CountSteps(%s, %d) = %d, not %d", textOf(e), fuel, got, count)
		}
	}
	return reached, next.code
}

func expectStep(t *testing.T, e impl.Term, want stepResult) {
	t.Helper()
	if got := stepOf(e); !got.same(want) {
		t.Fatalf("StepCast(%s) = %s, not %s", textOf(e), got.text(), want.text())
	}
	if impl.IsValue(e) != (want.code == impl.StepValue) || (impl.ValueText(e) != "") != (want.code == impl.StepValue) {
		t.Fatalf("%s: IsValue = %v, ValueText = %q", textOf(e), impl.IsValue(e), impl.ValueText(e))
	}
}

// expectSteps checks that each of the texts follows from the one before it by a step.
func expectSteps(t *testing.T, texts ...string) {
	t.Helper()
	for i, text := range texts[1:] {
		got := stepOf(parseCast(t, texts[i]))
		if got.code != impl.StepTook || got.label != 0 || impl.FormatCast(got.term) != text {
			t.Errorf("StepCast(%s) = %s, not %s", texts[i], got.text(), text)
		}
	}
}

// expectEnd checks the code and the label of StepCast of a term for which no step is possible.
func expectEnd(t *testing.T, text string, code, label int) {
	t.Helper()
	e := parseCast(t, text)
	want := stepResult{code: code, label: label}
	if code == impl.StepValue {
		want.term = e
	}
	if got := stepOf(e); !got.same(want) {
		t.Errorf("StepCast(%s) = %s, %d, %d", text, got.text(), got.code, got.label)
	}
	for _, fuel := range []int{0, 1, 300} {
		if got := evaluationOf(e, fuel); !got.same(want) || impl.CountSteps(e, fuel) != 0 {
			t.Errorf("EvalCast(%s, %d) = %s, %d, %d", text, fuel, got.text(), got.code, got.label)
		}
	}
}

// expectRun checks RunTerm of a term with a type and MaxFuel.
func expectRun(t *testing.T, text, want string, code, label int) {
	t.Helper()
	got, gotCode, gotLabel := impl.RunTerm(parseTerm(t, text), 300)
	if got != want || gotCode != code || gotLabel != label {
		t.Errorf("RunTerm(%s) = %q, %d, %d", text, got, gotCode, gotLabel)
	}
}

func TestEvalExample(t *testing.T) {
	expectRun(t, "(!x:?.(x+1) T)", "", impl.StepBlame, 1)
	expectSteps(t, "(!x:?.((x:?~I#1)+1) (T:B~?#2))", "(((T:B~?#2):?~I#1)+1)")
	expectEnd(t, "(((T:B~?#2):?~I#1)+1)", impl.StepBlame, 1)
	e := parseCast(t, "(!x:?.((x:?~I#1)+1) (T:B~?#2))")
	for fuel, want := range map[int]stepResult{0: {code: impl.StepMuch}, 1: {code: impl.StepBlame, label: 1}, 300: {code: impl.StepBlame, label: 1}} {
		if got := evaluationOf(e, fuel); !got.same(want) || impl.CountSteps(e, fuel) != min(fuel, 1) {
			t.Errorf("EvalCast with the fuel %d: %s after %d steps", fuel, got.text(), impl.CountSteps(e, fuel))
		}
	}
}

// The steps that chapter 17 of the document shows.
func TestEvalTrace(t *testing.T) {
	e, _, _ := impl.InsertCasts(parseTerm(t, "(!f:?.(f 1) !x:?.(x+1))"))
	texts := []string{
		"(!f:?.((f:?~(?>?)#1) (1:I~?#2)) (!x:?.((x:?~I#3)+1):(?>I)~?#4))",
		"(!f:?.((f:?~(?>?)#1) (1:I~?#2)) ((!x:?.((x:?~I#3)+1):(?>I)~(?>?)#4):(?>?)~?#4))",
		"((((!x:?.((x:?~I#3)+1):(?>I)~(?>?)#4):(?>?)~?#4):?~(?>?)#1) (1:I~?#2))",
		"((!x:?.((x:?~I#3)+1):(?>I)~(?>?)#4) (1:I~?#2))",
		"((!x:?.((x:?~I#3)+1) ((1:I~?#2):?~?#-4)):I~?#4)",
		"((!x:?.((x:?~I#3)+1) (1:I~?#2)):I~?#4)",
		"((((1:I~?#2):?~I#3)+1):I~?#4)",
		"((1+1):I~?#4)",
		"(2:I~?#4)",
	}
	if impl.FormatCast(e) != texts[0] {
		t.Errorf("InsertCasts = %s", impl.FormatCast(e))
	}
	expectSteps(t, texts...)
	expectEnd(t, texts[8], impl.StepValue, 0)
	expectRun(t, "(!f:?.(f 1) !x:?.(x+1))", "2", impl.StepValue, 0)
}

func TestEvalConstants(t *testing.T) {
	codes := []int{impl.StepValue, impl.StepTook, impl.StepBlame, impl.StepStuck, impl.StepLarge, impl.StepMuch, impl.MaxFuel}
	if !slices.Equal(codes, []int{0, 1, 2, 3, 4, 5, 300}) {
		t.Errorf("constants: %v", codes)
	}
}

func TestValues(t *testing.T) {
	for text, want := range map[string]string{
		"0":                      "0",
		"7":                      "7",
		"999":                    "999",
		"T":                      "T",
		"F":                      "F",
		"!x:I.x":                 "function",
		"!x:?.y":                 "function",
		"[1,T]":                  "pair",
		"[[1,T],[!x:I.x,[F,2]]]": "pair",
		// A body is no operand that is evaluated.
		"!x:I.(1+1)":             "function",
		"[!x:I.(1 2),F]":         "pair",
		"!x:I.((1:I~?#1):?~B#2)": "function",
		// Proxies, also of values that are not what the types say.
		"(!x:I.x:(I>I)~(?>?)#1)":                     "function",
		"(!x:I.x:(I>I)~(I>I)#1)":                     "function",
		"(!x:?.x:(?>?)~(I>B)#-9)":                    "function",
		"([1,2]:(I*I)~(?*?)#1)":                      "pair",
		"([1,2]:(I*I)~(I*I)#1)":                      "pair",
		"([1,2]:(?*?)~(?*?)#1)":                      "pair",
		"((!x:I.x:(I>I)~(?>I)#1):(?>I)~(?>?)#2)":     "function",
		"(([1,2]:(I*I)~(?*I)#1):(?*I)~(B*I)#2)":      "pair",
		"(1:(I*I)~(?*?)#1)":                          "pair",
		"(!x:I.x:(I*I)~(?*?)#1)":                     "pair",
		"([1,2]:(I>I)~(?>?)#1)":                      "function",
		"([1,(!x:I.x:(I>I)~(?>?)#1)]:(I*I)~(I*?)#1)": "pair",
		// Injections.
		"(1:I~?#1)":                             "1",
		"(F:B~?#-1)":                            "F",
		"(T:I~?#1)":                             "T",
		"(!x:?.x:(?>?)~?#1)":                    "function",
		"([1,2]:(?*?)~?#1)":                     "pair",
		"((!x:I.x:(I>I)~(?>?)#1):(?>?)~?#1)":    "function",
		"(([1,2]:(I*I)~(?*?)#1):(?*?)~?#1)":     "pair",
		"((12:I~?#1):I~?#2)":                    "12",
		"(((F:B~?#1):(?*?)~?#2):(?>?)~?#3)":     "F",
		"[(1:I~?#1),(!x:?.x:(?>?)~?#2)]":        "pair",
		"((1:I~?#1):(I>I)~(?>?)#2)":             "function",
		"(((1:I~?#1):(I>I)~(?>?)#2):(?>?)~?#3)": "function",
	} {
		e := parseCast(t, text)
		if !impl.IsValue(e) || impl.ValueText(e) != want {
			t.Errorf("%s: IsValue = %v, ValueText = %q", text, impl.IsValue(e), impl.ValueText(e))
		}
		expectEnd(t, text, impl.StepValue, 0)
	}
}

func TestTermsThatAreNoValues(t *testing.T) {
	for _, text := range []string{
		"x", "(!x:I.x 1)", "(x y)", "(1+2)", "(1<2)", "{T?1:2}", "$[1,2]", "%[1,2]", "[x,1]", "[1,x]", "[(1+2),3]", "[1,[2,(1+2)]]",
		"(1:I~I#1)", "(T:B~B#1)", "((1:I~?#1):?~?#2)", "(1:?~?#1)", "((1:I~?#1):?~I#2)", "((1:I~?#1):?~B#2)", "(!x:I.x:?~(?>?)#1)",
		"(!x:I.x:(I>I)~?#1)", "(!x:I.x:(?>I)~?#1)", "(!x:I.x:(I>?)~?#1)", "([1,2]:(I*I)~?#1)", "([1,2]:(?*I)~?#1)", "([1,2]:(I*?)~?#1)",
		"((!x:?.x:(?>?)~?#1):?~(I>I)#2)", "((!x:?.x:(?>?)~?#1):?~(?>?)#2)", "(([1,2]:(?*?)~?#1):?~(?*?)#2)",
		"(x:I~?#1)", "((1+2):I~?#1)", "(x:(I>I)~(?>?)#1)", "([(1+2),3]:(I*I)~(?*?)#1)", "((x:(I>I)~(?>?)#1):(?>?)~?#2)",
		"([1,x]:(?*?)~?#1)", "[1,(2:I~I#1)]", "$!x:I.x",
	} {
		e := parseCast(t, text)
		if impl.IsValue(e) || impl.ValueText(e) != "" {
			t.Errorf("%s: IsValue = %v, ValueText = %q", text, impl.IsValue(e), impl.ValueText(e))
		}
		if _, code, _ := impl.StepCast(e); code == impl.StepValue {
			t.Errorf("StepCast(%s) finds a value", text)
		}
	}
}

func TestStepsOfApplications(t *testing.T) {
	for _, c := range [][]string{
		{"(!x:I.(x+1) 2)", "(2+1)", "3"},
		{"(!x:I.7 2)", "7"},
		{"(!x:?.!y:I.[x,y] T)", "!y:I.[T,y]"},
		{"(!x:I.[x,!x:B.x] 2)", "[2,!x:B.x]"},
		{"(!x:I.!y:I.(x+(y+x)) 2)", "!y:I.(2+(y+2))"},
		{"(!x:?.{(x:?~B#3)?x:(x:?~?#-4)} (T:B~?#5))", "{((T:B~?#5):?~B#3)?(T:B~?#5):((T:B~?#5):?~?#-4)}", "{T?(T:B~?#5):((T:B~?#5):?~?#-4)}", "(T:B~?#5)"},
		{"(!x:(I*B).%x [1,T])", "%[1,T]", "T"},
		{"((!x:I.!x:B.x 1) T)", "(!x:B.x T)", "T"},
		{"((!x:?.x !y:I.y) 1)", "(!y:I.y 1)", "1"},
		{"(!f:(I>I).(f 1) (!x:?.x:(?>?)~(I>I)#2))", "((!x:?.x:(?>?)~(I>I)#2) 1)", "((!x:?.x (1:I~?#-2)):?~I#2)", "((1:I~?#-2):?~I#2)", "1"},
		// A body that is no value is not evaluated before, and may be of any type.
		{"(!x:I.(1+T) 2)", "(1+T)"},
		{"(!x:B.(x+1) 2)", "(2+1)"},
		// A value that is not closed comes in as it is.
		{"(!x:I.(x z) !z:I.y)", "(!z:I.y z)"},
		{"(!x:I.!y:I.x !z:I.y)", "!y:I.!z:I.y"},
	} {
		expectSteps(t, c...)
	}
}

func TestStepsOfProxiesOfFunctions(t *testing.T) {
	for _, c := range [][]string{
		{"((!x:I.x:(I>I)~(?>?)#5) (7:I~?#6))", "((!x:I.x ((7:I~?#6):?~I#-5)):I~?#5)", "((!x:I.x 7):I~?#5)", "(7:I~?#5)"},
		{"((!x:?.x:(?>?)~(I>I)#-5) 7)", "((!x:?.x (7:I~?#5)):?~I#-5)", "((7:I~?#5):?~I#-5)", "7"},
		{"((!x:(I>?).T:((I>?)>B)~(?>B)#5) 7)", "((!x:(I>?).T (7:?~(I>?)#-5)):B~B#5)"},
		// Also where a type does not change.
		{"((!x:I.x:(I>I)~(I>I)#5) 7)", "((!x:I.x (7:I~I#-5)):I~I#5)", "((!x:I.x 7):I~I#5)", "(7:I~I#5)", "7"},
		{"((!x:I.x:(I>I)~(I>?)#5) 7)", "((!x:I.x (7:I~I#-5)):I~?#5)"},
		// A proxy of a proxy.
		{"(((!x:I.x:(I>I)~(?>I)#1):(?>I)~(?>?)#2) (7:I~?#3))", "(((!x:I.x:(I>I)~(?>I)#1) ((7:I~?#3):?~?#-2)):I~?#2)",
			"(((!x:I.x:(I>I)~(?>I)#1) (7:I~?#3)):I~?#2)", "(((!x:I.x ((7:I~?#3):?~I#-1)):I~I#1):I~?#2)", "(((!x:I.x 7):I~I#1):I~?#2)",
			"((7:I~I#1):I~?#2)", "(7:I~?#2)"},
		// A function that is given to a proxy, and returned by it, becomes a proxy itself.
		{"((!f:(I>B).f:((I>B)>(I>B))~((?>B)>(I>?))#4) !x:?.T)", "((!f:(I>B).f (!x:?.T:(?>B)~(I>B)#-4)):(I>B)~(I>?)#4)",
			"((!x:?.T:(?>B)~(I>B)#-4):(I>B)~(I>?)#4)"},
		// A proxy of something else is applied, too.
		{"((1:(I>I)~(?>?)#5) T)", "((1 (T:?~I#-5)):I~?#5)"},
	} {
		expectSteps(t, c...)
	}
}

func TestStepsOfNumbersAndTruthValues(t *testing.T) {
	for _, c := range [][]string{
		{"(1+2)", "3"}, {"(0+0)", "0"}, {"(998+1)", "999"}, {"(999+1)", "0"}, {"(1+999)", "0"}, {"(999+2)", "1"}, {"(500+500)", "0"},
		{"(999+999)", "998"}, {"(600+399)", "999"}, {"((999+1)+(999+2))", "(0+(999+2))", "(0+1)", "1"},
		{"(1<2)", "T"}, {"(2<1)", "F"}, {"(1<1)", "F"}, {"(0<999)", "T"}, {"(999<0)", "F"}, {"(999<999)", "F"}, {"(9<10)", "T"},
		{"{T?1:2}", "1"}, {"{F?1:2}", "2"}, {"{T?T:(1 2)}", "T"}, {"{F?x:!y:I.y}", "!y:I.y"},
		{"{T?(1+2):(3+4)}", "(1+2)", "3"}, {"{F?(1+2):(3+4)}", "(3+4)", "7"},
	} {
		expectSteps(t, c...)
	}
}

func TestStepsOfSelections(t *testing.T) {
	for _, c := range [][]string{
		{"$[1,T]", "1"},
		{"%[1,T]", "T"},
		{"$%[1,[2,3]]", "$[2,3]", "2"},
		{"%[!x:I.x,!y:B.y]", "!y:B.y"},
		{"$([1,T]:(I*B)~(?*B)#3)", "($[1,T]:I~?#3)", "(1:I~?#3)"},
		{"%([1,T]:(I*B)~(?*B)#3)", "(%[1,T]:B~B#3)", "(T:B~B#3)", "T"},
		{"%([1,T]:(I*B)~(I*?)#-3)", "(%[1,T]:B~?#-3)", "(T:B~?#-3)"},
		{"$([(1:I~?#1),T]:(?*B)~(I*?)#2)", "($[(1:I~?#1),T]:?~I#2)", "((1:I~?#1):?~I#2)", "1"},
		{"$(([1,T]:(I*B)~(?*B)#1):(?*B)~(?*?)#2)", "($([1,T]:(I*B)~(?*B)#1):?~?#2)", "(($[1,T]:I~?#1):?~?#2)", "((1:I~?#1):?~?#2)", "(1:I~?#1)"},
		{"%(1:(I*(I>B))~(?*(?>B))#8)", "(%1:(I>B)~(?>B)#8)"},
	} {
		expectSteps(t, c...)
	}
}

func TestStepsOfCasts(t *testing.T) {
	for _, c := range [][]string{
		// Of the same kind.
		{"(1:I~I#1)", "1"}, {"(T:B~B#-1)", "T"}, {"(1:B~B#1)", "1"}, {"(1:?~?#1)", "1"}, {"((1:I~?#1):?~?#2)", "(1:I~?#1)"},
		{"(!x:I.x:?~?#9)", "!x:I.x"},
		// Between a type that is no ground type and the unknown type, and back.
		{"(!x:I.x:(I>I)~?#4)", "((!x:I.x:(I>I)~(?>?)#4):(?>?)~?#4)"},
		{"(!x:?.x:(?>I)~?#4)", "((!x:?.x:(?>I)~(?>?)#4):(?>?)~?#4)"},
		{"([1,T]:(I*?)~?#-4)", "(([1,T]:(I*?)~(?*?)#-4):(?*?)~?#-4)"},
		{"((!x:?.x:(?>?)~?#1):?~(I>B)#2)", "(((!x:?.x:(?>?)~?#1):?~(?>?)#2):(?>?)~(I>B)#2)", "(!x:?.x:(?>?)~(I>B)#2)"},
		{"(([1,2]:(?*?)~?#1):?~(?*B)#-2)", "((([1,2]:(?*?)~?#1):?~(?*?)#-2):(?*?)~(?*B)#-2)", "([1,2]:(?*?)~(?*B)#-2)"},
		{"((!x:I.x:(I>I)~?#1):?~(B>B)#2)", "(((!x:I.x:(I>I)~(?>?)#1):(?>?)~?#1):?~(B>B)#2)",
			"((((!x:I.x:(I>I)~(?>?)#1):(?>?)~?#1):?~(?>?)#2):(?>?)~(B>B)#2)", "((!x:I.x:(I>I)~(?>?)#1):(?>?)~(B>B)#2)"},
		{"(1:?~(I>(B*?))#3)", "((1:?~(?>?)#3):(?>?)~(I>(B*?))#3)"},
		{"(1:(I*I)~?#3)", "((1:(I*I)~(?*?)#3):(?*?)~?#3)"},
		// From the unknown type to a ground type.
		{"((1:I~?#1):?~I#2)", "1"}, {"((T:B~?#1):?~B#-2)", "T"}, {"((!x:?.x:(?>?)~?#1):?~(?>?)#2)", "!x:?.x"},
		{"(([1,2]:(?*?)~?#1):?~(?*?)#2)", "[1,2]"}, {"((T:I~?#1):?~I#2)", "T"},
		{"(((!x:I.x:(I>I)~(?>?)#1):(?>?)~?#2):?~(?>?)#3)", "(!x:I.x:(I>I)~(?>?)#1)"},
	} {
		expectSteps(t, c...)
	}
}

// An injection that is cast to another ground type fails with the label of the outer cast.
func TestCastsThatFail(t *testing.T) {
	injections := map[string]string{
		"I": "(1:I~?#1)", "B": "(T:B~?#1)", "(?>?)": "(!x:?.x:(?>?)~?#1)", "(?*?)": "([1,2]:(?*?)~?#1)",
	}
	for from, injection := range injections {
		for to := range injections {
			for _, label := range []int{2, -2, 99, -99, 1} {
				text := "(" + injection + ":?~" + to + "#" + strconv.Itoa(label) + ")"
				if from != to {
					expectEnd(t, text, impl.StepBlame, label)
					expectEnd(t, "["+text+",(1+2)]", impl.StepBlame, label)
					continue
				}
				if got := stepOf(parseCast(t, text)); got.code != impl.StepTook {
					t.Errorf("StepCast(%s) = %s", text, got.text())
				}
			}
		}
	}
	// The types within a ground type do not matter at once.
	expectSteps(t, "((1:I~?#1):?~(I>I)#2)", "(((1:I~?#1):?~(?>?)#2):(?>?)~(I>I)#2)")
	expectEnd(t, "(((1:I~?#1):?~(?>?)#2):(?>?)~(I>I)#2)", impl.StepBlame, 2)
	// What the injected value is does not matter.
	expectEnd(t, "((1:B~?#1):?~I#2)", impl.StepBlame, 2)
	expectEnd(t, "(((1:I~?#1):B~?#-3):?~I#2)", impl.StepBlame, 2)
}

func TestTermsThatAreStuck(t *testing.T) {
	for _, text := range []string{
		"x", "(1 2)", "(T 1)", "([1,2] 1)", "((1:I~?#1) 2)", "((!x:?.x:(?>?)~?#1) 2)", "(([1,2]:(I*I)~(?*?)#1) 2)",
		"(T+1)", "(1+T)", "(1+!x:I.x)", "([1,2]+1)", "((1:I~?#1)+1)", "(1+(1:I~?#1))", "(T<1)", "(1<T)", "(1<[1,2])",
		"{1?2:3}", "{!x:I.x?2:3}", "{(T:B~?#1)?2:3}", "{[T,T]?T:T}",
		"$1", "%T", "$!x:I.x", "%(1:I~?#1)", "$([1,2]:(?*?)~?#1)", "%(!x:I.x:(I>I)~(?>?)#1)", "$([1,2]:(I>I)~(?>?)#1)",
		"(1:?~I#1)", "(T:?~B#1)", "(!x:?.x:?~(?>?)#1)", "([1,2]:?~(?*?)#1)", "((!x:I.x:(I>I)~(?>?)#1):?~(?>?)#2)", "(([1,2]:(I*I)~(?*?)#1):?~(?*?)#2)",
		"((!x:I.x:(I>I)~(?>?)#1):?~I#2)", "(!x:?.x:?~I#1)",
		// What is stuck first counts, also for a term that could fail or go on elsewhere.
		"(x 1)", "(!x:I.1 x)", "[x,(1+2)]", "[1,x]", "((1 2)+((1:I~?#1):?~B#2))", "(x:I~?#1)", "((1 2):I~I#1)", "{x?(1+2):(1+2)}", "$[x,1]", "%[1,[x,1]]",
		"{(1+T)?((1:I~?#1):?~B#2):1}", "((1:?~I#1)+(1+2))", "((x:(I>I)~(?>?)#1) 1)",
	} {
		expectEnd(t, text, impl.StepStuck, 0)
	}
}

func TestOrderOfSteps(t *testing.T) {
	fail := func(label string) string { return "((1:I~?#1):?~B#" + label + ")" }
	for _, c := range [][]string{
		{"((1+2)+(3+4))", "(3+(3+4))", "(3+7)", "10"},
		{"((1+2)<(3+4))", "(3<(3+4))", "(3<7)", "T"},
		{"[(1+2),(3+4)]", "[3,(3+4)]", "[3,7]"},
		{"[[(1+2),(2+3)],(3+4)]", "[[3,(2+3)],(3+4)]", "[[3,5],(3+4)]", "[[3,5],7]"},
		{"((!x:?.x !y:I.(y+1)) (1+2))", "(!y:I.(y+1) (1+2))", "(!y:I.(y+1) 3)", "(3+1)", "4"},
		{"(!x:I.(1+2) (3+4))", "(!x:I.(1+2) 7)", "(1+2)"},
		{"{(1<2)?(1+2):(3+4)}", "{T?(1+2):(3+4)}", "(1+2)"},
		{"{{F?T:F}?(1+2):(3+4)}", "{F?(1+2):(3+4)}", "(3+4)"},
		{"$[(1+2),(3+4)]", "$[3,(3+4)]", "$[3,7]", "3"},
		{"((1+2):I~?#1)", "(3:I~?#1)"},
		{"([(1+2),3]:(I*I)~?#1)", "([3,3]:(I*I)~?#1)", "(([3,3]:(I*I)~(?*?)#1):(?*?)~?#1)"},
		{"((((1+2):I~?#1):?~I#2)+(3+4))", "(((3:I~?#1):?~I#2)+(3+4))", "(3+(3+4))"},
		// Values that are passed over: a number, an injection, a proxy and a pair.
		{"[1,(2+3)]", "[1,5]"},
		{"[(1:I~?#1),(2+3)]", "[(1:I~?#1),5]"},
		{"[(!x:I.x:(I>I)~(?>?)#1),(2+3)]", "[(!x:I.x:(I>I)~(?>?)#1),5]"},
		{"[[1,!x:I.(1+2)],(2+3)]", "[[1,!x:I.(1+2)],5]"},
		// The other operands of a TermIf may be anything.
		{"{T?(1 2):x}", "(1 2)"},
		{"{F?(1 2):3}", "3"},
		{"{(1<0)?" + fail("2") + ":3}", "{F?" + fail("2") + ":3}", "3"},
		{"[(1+2)," + fail("2") + "]", "[3," + fail("2") + "]"},
		{"[(1+2),(1 2)]", "[3,(1 2)]"},
	} {
		expectSteps(t, c...)
	}
	expectEnd(t, "["+fail("2")+","+fail("3")+"]", impl.StepBlame, 2)
	expectEnd(t, "["+fail("-3")+","+fail("2")+"]", impl.StepBlame, -3)
	expectEnd(t, "[7,"+fail("3")+"]", impl.StepBlame, 3)
	expectEnd(t, "("+fail("2")+" (1 2))", impl.StepBlame, 2)
	expectEnd(t, "((1 2) "+fail("2")+")", impl.StepStuck, 0)
	expectEnd(t, "{"+fail("2")+"?"+fail("3")+":"+fail("4")+"}", impl.StepBlame, 2)
	expectEnd(t, "("+fail("5")+":B~?#6)", impl.StepBlame, 5)
}

func TestRunTerm(t *testing.T) {
	for _, c := range []struct {
		text, want  string
		code, label int
	}{
		{"7", "7", impl.StepValue, 0},
		{"T", "T", impl.StepValue, 0},
		{"(1<0)", "F", impl.StepValue, 0},
		{"!x:?.(x x)", "function", impl.StepValue, 0},
		{"[(1+2),(T:?)]", "pair", impl.StepValue, 0},
		{"(999+1)", "0", impl.StepValue, 0},
		{"(!x:?.(x+1) 998)", "999", impl.StepValue, 0},
		{"(!x:?.(x+1) 999)", "0", impl.StepValue, 0},
		{"((7:?):?)", "7", impl.StepValue, 0},
		{"({(1<2)?!x:I.[x,T]:!x:I.[x,F]} 3)", "pair", impl.StepValue, 0},
		// Casts of pairs, to the unknown type and back.
		{"%(([1,T]:?):(I*B))", "T", impl.StepValue, 0},
		{"(([1,T]:?):(I*B))", "pair", impl.StepValue, 0},
		{"$(([1,T]:?):(B*B))", "", impl.StepBlame, 2},
		{"%(([1,T]:?):(B*B))", "T", impl.StepValue, 0},
		{"(([1,T]:?):I)", "", impl.StepBlame, 2},
		{"(([1,T]:?):(I>B))", "", impl.StepBlame, 2},
		// A cast of a function, whose failure appears when it is applied.
		{"((!x:I.x:?):(B>I))", "function", impl.StepValue, 0},
		{"(((!x:I.x:?):(B>I)) T)", "", impl.StepBlame, -1},
		{"((!x:?.x:(I>B)) 1)", "", impl.StepBlame, 1},
		{"((!x:?.x:(I>I)) 1)", "1", impl.StepValue, 0},
		{"(!f:(I>B).(f 1) !x:?.x)", "", impl.StepBlame, 1},
		{"(!f:(I>B).f !x:?.x)", "function", impl.StepValue, 0},
		{"(!f:(?>I).(f T) !x:I.(x+1))", "", impl.StepBlame, -2},
		{"(!f:(?>I).(f 2) !x:I.(x+1))", "3", impl.StepValue, 0},
		// A proxy of a proxy.
		{"((((!x:I.x:?):(B>?)):(?>B)) 1)", "", impl.StepBlame, -3},
		{"((((!x:I.x:?):(B>?)):(?>B)) T)", "", impl.StepBlame, -1},
		{"((((!x:I.x:?):(?>?)):(?>I)) 5)", "5", impl.StepValue, 0},
		{"((((!x:I.x:?):(?>?)):(?>B)) 5)", "", impl.StepBlame, 3},
		{"(((!x:?.x:(I>?)):(?>B)) 5)", "", impl.StepBlame, 2},
		{"(((!x:?.x:(I>?)):(?>B)) T)", "", impl.StepBlame, -2},
		// Terms that never end, and that grow without end.
		{"(!x:?.(x x) !x:?.(x x))", "", impl.StepMuch, 0},
		{"(!x:?.[(x x),1] !x:?.[(x x),1])", "", impl.StepLarge, 0},
	} {
		expectRun(t, c.text, c.want, c.code, c.label)
	}
}

// A term without a type is not evaluated, even where the part without one is not reached.
func TestRunTermWithoutType(t *testing.T) {
	for _, text := range []string{
		"(1 2)", "x", "(!x:I.(x+1) T)", "(1+T)", "{1?2:3}", "$1", "{T?1:F}", "{T?1:(2 3)}", "{(T:?)?1:(2 3)}", "(1:B)", "!x:I.y", "(!x:?.1 x)", "!x:I.(x x)", "[1,(T+1)]",
		"!x:((I>I)>I).!y:I.x",
	} {
		expectNoRun(t, text, parseTerm(t, text))
	}
	for what, bad := range map[string]impl.Term{
		"the zero value":    {},
		"a term with casts": castOf(num(1), intType, anyType, 1),
		"too many nodes":    wideTerm(31),
		"too deep":          deepTerm(impl.TermPair, 0, 13),
	} {
		expectNoRun(t, what, bad)
	}
}

func TestEvaluationOfInvalidTerms(t *testing.T) {
	for what, bad := range map[string]impl.Term{
		"the zero value":               {},
		"a TermAs":                     as(num(1), anyType),
		"a TermAs of a value":          as(num(1), intType),
		"a TermAs in a cast":           castOf(as(num(1), anyType), anyType, intType, 1),
		"a TermAs in a function":       lam("x", anyType, as(name("x"), intType)),
		"a TermAs that is not reached": node(impl.TermIf, trueTerm, num(1), as(num(1), anyType)),
		"a cast of inconsistent types": castOf(num(1), intType, boolType, 1),
		"a cast without a label":       castOf(num(1), intType, anyType, 0),
		"a cast with a large label":    castOf(num(1), intType, anyType, 100),
		"a function without a type":    lam("x", impl.Type{}, name("x")),
		"a number that is too large":   num(1000),
		"a negative number":            num(-1),
		"a sum of too many operands":   node(impl.TermAdd, num(1), num(2), num(3)),
		"too many nodes":               wideCast(201),
		"too deep":                     deepTerm(impl.TermCast, 0, 41),
		"a term that contains itself":  selfTerm(impl.TermPair, 2),
		"a name as a truth value":      {Kind: impl.TermTrue, Name: "x"},
	} {
		expectNoEvaluation(t, what, bad)
	}
	// Where the limits are reached, but not passed.
	for _, e := range []impl.Term{wideCast(200), deepTerm(impl.TermCast, 0, 40), deepTerm(impl.TermPair, 1, 40), deepTerm(impl.TermLam, 0, 40)} {
		expectEvaluation(t, e)
	}
}

// sumOf returns a term that needs this many steps to become a number, and is not deep.
func sumOf(steps int) impl.Term {
	if steps == 0 {
		return num(1)
	}
	left := (steps - 1) / 2
	return node(impl.TermAdd, sumOf(left), sumOf(steps-1-left))
}

// countdown returns a term without a type that needs 5*n+5 steps to become 0.
func countdown(t *testing.T, n int) impl.Term {
	self := "!s:?.!n:?.{(n<1)?0:((s s) (n+999))}"
	return parseCast(t, "((!s:?.(s s) "+self+") "+strconv.Itoa(n)+")")
}

func TestFuel(t *testing.T) {
	for steps, e := range map[int]impl.Term{
		0:   num(7),
		1:   node(impl.TermAdd, num(1), num(2)),
		7:   sumOf(7),
		99:  sumOf(99),
		260: node(impl.TermPair, countdown(t, 51), num(1)),
		261: node(impl.TermPair, countdown(t, 51), sumOf(1)),
		299: node(impl.TermPair, countdown(t, 51), sumOf(39)),
		300: node(impl.TermPair, countdown(t, 51), sumOf(40)),
	} {
		reached, code := expectEvaluation(t, e)
		if len(reached) != steps+1 || code != impl.StepValue {
			t.Fatalf("%s has %d steps, not %d, and the code %d", textOf(e), len(reached)-1, steps, code)
		}
		for _, fuel := range []int{steps, steps + 1, 300} {
			if got := evaluationOf(e, fuel); fuel <= 300 && (got.code != impl.StepValue || impl.CountSteps(e, fuel) != steps) {
				t.Errorf("%d steps with the fuel %d: %s", steps, fuel, got.text())
			}
		}
		for _, fuel := range []int{0, 1, steps - 1} {
			if got := evaluationOf(e, fuel); 0 <= fuel && fuel < steps && (!got.same(stepResult{code: impl.StepMuch}) || impl.CountSteps(e, fuel) != fuel) {
				t.Errorf("%d steps with the fuel %d: %s", steps, fuel, got.text())
			}
		}
	}
	// One step too many for any fuel, and no end.
	over := node(impl.TermPair, countdown(t, 51), sumOf(41))
	for _, e := range []impl.Term{over, parseCast(t, "(!x:?.(x x) !x:?.(x x))")} {
		if got := evaluationOf(e, 300); !got.same(stepResult{code: impl.StepMuch}) || impl.CountSteps(e, 300) != 300 {
			t.Errorf("EvalCast(%s, 300) = %s", textOf(e), got.text())
		}
	}
}

func TestFuelOutOfRange(t *testing.T) {
	plain := parseTerm(t, "(1+2)")
	for _, fuel := range []int{-1, -300, 301, 302, 1000, -1 << 63, 1<<63 - 1, 1 << 32, -1 << 32} {
		for _, e := range []impl.Term{plain, num(7), trueTerm, name("x"), parseCast(t, "((1:I~?#1):?~B#2)")} {
			if got := evaluationOf(e, fuel); !got.same(stuckResult) || impl.CountSteps(e, fuel) != 0 {
				t.Errorf("EvalCast(%s, %d) = %s after %d steps", textOf(e), fuel, got.text(), impl.CountSteps(e, fuel))
			}
		}
		for _, e := range []impl.Term{plain, num(7)} {
			expect := func(text string, code, label int) {
				if text != "" || code != impl.StepStuck || label != 0 {
					t.Errorf("RunTerm(%s, %d) = %q, %d, %d", textOf(e), fuel, text, code, label)
				}
			}
			expect(impl.RunTerm(e, fuel))
		}
	}
}

func TestFuelOfRunTerm(t *testing.T) {
	for _, c := range []struct {
		text  string
		fuel  int
		want  string
		code  int
		label int
	}{
		{"7", 0, "7", impl.StepValue, 0},
		{"(1+2)", 0, "", impl.StepMuch, 0},
		{"(1+2)", 1, "3", impl.StepValue, 0},
		{"((1:?):B)", 0, "", impl.StepBlame, 2},
		{"((1:?):I)", 0, "", impl.StepMuch, 0},
		{"((1:?):I)", 1, "1", impl.StepValue, 0},
		{"(!x:?.(x+1) 5)", 2, "", impl.StepMuch, 0},
		{"(!x:?.(x+1) 5)", 3, "6", impl.StepValue, 0},
		{"(!x:?.(x+1) T)", 0, "", impl.StepMuch, 0},
		{"(!x:?.(x+1) T)", 1, "", impl.StepBlame, 1},
		{"(!x:?.(x+1) T)", 300, "", impl.StepBlame, 1},
	} {
		text, code, label := impl.RunTerm(parseTerm(t, c.text), c.fuel)
		if text != c.want || code != c.code || label != c.label {
			t.Errorf("RunTerm(%s, %d) = %q, %d, %d", c.text, c.fuel, text, code, label)
		}
	}
}

func TestStepsThatAreTooLarge(t *testing.T) {
	large := stepResult{code: impl.StepLarge}
	expectLimit := func(what string, fits, over impl.Term) {
		if got := stepOf(fits); !impl.CastValid(fits) || got.code != impl.StepTook || nodes(got.term) != 200 && depthOf(got.term) != 40 {
			t.Errorf("%s: %s of %d nodes with a depth of %d", what, got.text(), nodes(got.term), depthOf(got.term))
		}
		if got := stepOf(over); !impl.CastValid(over) || !got.same(large) {
			t.Errorf("%s: %s", what, got.text())
		}
		for _, fuel := range []int{0, 1, 300} {
			if got := evaluationOf(over, fuel); !got.same(large) || impl.CountSteps(over, fuel) != 0 {
				t.Errorf("%s: EvalCast = %s", what, got.text())
			}
		}
		expectEvaluation(t, fits)
		expectEvaluation(t, over)
	}
	twice := func(value impl.Term) impl.Term {
		return node(impl.TermApp, lam("x", anyType, node(impl.TermPair, node(impl.TermPair, name("x"), num(1)), name("x"))), value)
	}
	values := func(count int) impl.Term { return lam("y", anyType, wideCast(count-1)) }
	expectLimit("a substitution", node(impl.TermFst, twice(values(98))), node(impl.TermFst, twice(values(99))))
	shape := fun(intType, intType)
	expectLimit("a cast of a function", castOf(values(198), shape, anyType, 1), castOf(values(199), shape, anyType, 1))
	project := func(count int) impl.Term { return castOf(values(count), anyType, shape, 1) }
	expectLimit("a cast to a function", project(198), project(199))
	apply := func(count int) impl.Term {
		return node(impl.TermApp, castOf(values(count), shape, fun(anyType, anyType), 1), num(1))
	}
	expectLimit("a proxy", apply(196), apply(197))
	nested := func(depth int) impl.Term {
		return castOf(lam("x", intType, deepTerm(impl.TermLam, 0, depth-2)), shape, anyType, 1)
	}
	expectLimit("the depth of a cast", nested(39), nested(40))
	deep := func(depth int) impl.Term {
		body := name("x")
		for range 19 {
			body = node(impl.TermFst, body)
		}
		return node(impl.TermApp, lam("x", anyType, body), deepTerm(impl.TermLam, 0, depth))
	}
	expectLimit("the depth of a substitution", deep(21), deep(22))
}

// A step that is too large ends an evaluation, even where no fuel is left.
func TestEvaluationsThatBecomeTooLarge(t *testing.T) {
	for text, code := range map[string]int{
		"(!x:?.[(x x),1] !x:?.[(x x),1])":              impl.StepLarge,
		"(!x:?.((x x):?~?#1) !x:?.((x x):?~?#1))":      impl.StepLarge,
		"(!x:?.{T?(x x):1} !x:?.{T?(x x):1})":          impl.StepMuch,
		"(!x:?.(x [x,x]) !x:?.(x [x,x]))":              impl.StepStuck,
		"(!x:?.(x !y:?.[x,[x,x]]) !x:?.[[x,x],[x,x]])": impl.StepValue,
	} {
		reached, got := expectEvaluation(t, parseCast(t, text))
		steps := len(reached) - 1
		if got == impl.StepTook {
			got = impl.StepMuch
		}
		if got != code || code == impl.StepLarge && (steps < 10 || steps > 250) {
			t.Errorf("%s: the code is %d after %d steps", text, got, steps)
		}
	}
	text, code, label := impl.RunTerm(parseTerm(t, "(!f:?.((f f) 60) !s:?.!n:?.{(n<1)?T:((s s) (n+999))})"), 300)
	if text != "" || code != impl.StepLarge || label != 0 {
		t.Errorf("a loop with a cast of its result: %q, %d, %d", text, code, label)
	}
}

// termOf returns a term whose type is the wanted one or, in places, consistent
// with it, where random numbers choose. It is likely to have a type, to reach
// many steps, and to pass functions and pairs through casts.
func termOf(r *rand.Rand, ctx []impl.Bind, want impl.Type, depth int) impl.Term {
	known := []string{}
	for i, b := range ctx {
		hidden := slices.ContainsFunc(ctx[i+1:], func(later impl.Bind) bool { return later.Name == b.Name })
		if !hidden && impl.Consistent(b.Type, want) {
			known = append(known, b.Name)
		}
	}
	if len(known) > 0 && r.Intn(3) == 0 {
		return name(known[r.Intn(len(known))])
	}
	sub := func(x impl.Type) impl.Term { return termOf(r, ctx, x, depth-1) }
	if depth > 1 {
		switch r.Intn(11) {
		case 0:
			x := smallType(r)
			return node(impl.TermApp, sub(fun(blurred(r, x), want)), sub(x))
		case 1:
			return node(impl.TermFst, sub(pair(want, smallType(r))))
		case 2:
			return node(impl.TermSnd, sub(pair(smallType(r), want)))
		case 3:
			return node(impl.TermIf, sub(boolType), sub(want), sub(want))
		case 4, 5:
			return as(sub(blurred(r, want)), want)
		case 6:
			return node(impl.TermApp, lam("f", blurred(r, fun(intType, want)), node(impl.TermApp, name("f"), num(1))), sub(fun(intType, want)))
		case 7:
			return node(impl.TermApp, as(sub(fun(smallType(r), want)), fun(anyType, want)), sub(smallType(r)))
		case 8:
			twice := node(impl.TermApp, name("f"), node(impl.TermApp, name("f"), name("x")))
			of := fun(blurred(r, want), want)
			return node(impl.TermApp, node(impl.TermApp, lam("f", blurred(r, of), lam("x", blurred(r, want), twice)), sub(of)), sub(want))
		}
	}
	return canonical(r, ctx, want, depth)
}

// canonical returns a term that is made as values of the wanted type are.
func canonical(r *rand.Rand, ctx []impl.Bind, want impl.Type, depth int) impl.Term {
	sub := func(x impl.Type) impl.Term { return termOf(r, ctx, x, max(depth-1, 1)) }
	switch want.Kind {
	case impl.TypeInt:
		if depth > 1 && r.Intn(2) == 0 {
			return node(impl.TermAdd, sub(blurred(r, intType)), sub(intType))
		}
		return num(r.Intn(1000))
	case impl.TypeBool:
		if depth > 1 && r.Intn(2) == 0 {
			return node(impl.TermLess, sub(intType), sub(blurred(r, intType)))
		}
		return node(impl.TermTrue + r.Intn(2))
	case impl.TypeFun:
		variable := string(rune('x' + r.Intn(3)))
		inner := append(slices.Clone(ctx), impl.Bind{Name: variable, Type: want.Kids[0]})
		return lam(variable, want.Kids[0], termOf(r, inner, want.Kids[1], max(depth-1, 1)))
	case impl.TypePair:
		return node(impl.TermPair, sub(want.Kids[0]), sub(want.Kids[1]))
	}
	if r.Intn(2) == 0 {
		return as(sub(smallType(r)), anyType)
	}
	return sub(smallType(r))
}

func smallType(r *rand.Rand) impl.Type { return mixedType(r, 1+r.Intn(2)) }

// runnableTerms returns closed terms with a type, most of which need steps.
func runnableTerms() []impl.Term {
	r := rand.New(rand.NewSource(10))
	list := []impl.Term{}
	for len(list) < 4000 {
		e := termOf(r, nil, mixedType(r, 1+r.Intn(3)), 2+r.Intn(7))
		if _, ok := impl.TypeOf(e); ok && len(everyNode(e)) > 4 {
			list = append(list, e)
		}
	}
	return list
}

// expectSafeEvaluation checks that a term with a type is never stuck, and that
// steps preserve its type. It returns the code of the evaluation and the number of its steps.
func expectSafeEvaluation(t *testing.T, e impl.Term) (int, int) {
	t.Helper()
	inserted, x, ok := impl.InsertCasts(e)
	if !ok {
		t.Fatalf("%s has no type", textOf(e))
	}
	reached, code := expectEvaluation(t, inserted)
	for _, next := range reached {
		if y, ok := impl.CastTypeOf(next); !ok || !impl.TypeSame(x, y) {
			t.Fatalf("%s has the type %s, but reaches %s", textOf(e), impl.FormatType(x), textOf(next))
		}
	}
	if code == impl.StepTook {
		code = impl.StepMuch
	}
	text, runCode, label := impl.RunTerm(e, 300)
	end := evaluationOf(inserted, 300)
	if code == impl.StepStuck || runCode != code || end.code != code || label != end.label || text != impl.ValueText(end.term) {
		t.Fatalf("RunTerm(%s) = %q, %d, %d, but EvalCast = %s", textOf(e), text, runCode, label, end.text())
	}
	if (text != "") != (code == impl.StepValue) || (label != 0) != (code == impl.StepBlame) {
		t.Fatalf("RunTerm(%s) = %q, %d, %d", textOf(e), text, runCode, label)
	}
	if code == impl.StepBlame && !slices.Contains(impl.CastLabels(inserted), max(label, -label)) {
		t.Fatalf("RunTerm(%s) blames %d", textOf(e), label)
	}
	return code, len(reached) - 1
}

func TestTermsWithTypesAreNeverStuck(t *testing.T) {
	count := map[int]int{}
	long, negative := 0, 0
	terms := runnableTerms()
	for i, e := range closedCases(t) {
		if _, ok := impl.TypeOf(e); ok && i%4 == 0 {
			terms = append(terms, e)
		}
	}
	for _, e := range terms {
		code, steps := expectSafeEvaluation(t, e)
		count[code]++
		if steps >= 15 {
			long++
		}
		if _, _, label := impl.RunTerm(e, 300); label < 0 {
			negative++
		}
	}
	if count[impl.StepValue] < 1000 || count[impl.StepBlame] < 500 || long < 200 || negative < 30 {
		t.Errorf("codes %v, %d terms with many steps, %d negative labels", count, long, negative)
	}
}

// Terms that apply functions to themselves, or pass functions and pairs through casts of several types.
func TestLongRunsAreNeverStuck(t *testing.T) {
	for text, want := range map[string]int{
		"(!f:?.((f f) 9) !s:?.!n:?.{(n<1)?0:((s s) (n+999))})":     impl.StepValue,
		"(!f:?.((f f) 9) !s:?.!n:I.{(n<1)?(T:?):((s s) (n+999))})": impl.StepValue,
		"(!f:?.((f f) 9) !s:?.!n:?.{(n<1)?[n,n]:((s s) (n+999))})": impl.StepValue,
		"(!f:?.((f f) 5) !s:?.!n:?.{(n<1)?(n T):((s s) (n+999))})": impl.StepBlame,
		"(!f:?.((f f) 60) !s:?.!n:?.{(n<1)?T:((s s) (n+999))})":    impl.StepLarge,
		"(!x:?.(x x) !x:?.(x x))":                                  impl.StepMuch,
		"((!t:?.((t t) !n:I.(n+1)) !f:?.!x:?.(f (f x))) 7)":        impl.StepValue,
		"(((!t:?.(t t) !f:?.!x:?.(f (f x))) !n:B.n) 7)":            impl.StepBlame,
		"(!f:(?>?).(f (f 1)) (!x:(I>I).x:?))":                      impl.StepBlame,
		"(!x:?.[(x x),1] !x:?.[(x x),1])":                          impl.StepLarge,
		"(!x:(?>?).(x x) (!x:?.(x x):(?>(I>I))))":                  impl.StepLarge,
		"(!p:?.($p %p) [!x:(I*B).(%x:?),[1,F]])":                   impl.StepValue,
		"(!p:(?*(I*I)).($p $%p) [!x:B.x,([1,2]:?)])":               impl.StepBlame,
	} {
		if code, steps := expectSafeEvaluation(t, parseTerm(t, text)); code != want || steps < 3 {
			t.Errorf("%s: the code is %d after %d steps", text, code, steps)
		}
	}
}

// Terms with casts that may have no type take the steps that the document states, too.
func TestStepsOfManyTermsWithCasts(t *testing.T) {
	r := rand.New(rand.NewSource(11))
	count := map[int]int{}
	list := mixedCasts()
	for _, e := range runnableTerms() {
		inserted, _, _ := impl.InsertCasts(e)
		if changed := changedTypes(r, inserted, 5); impl.CastValid(changed) {
			list = append(list, changed)
		}
	}
	for _, e := range list {
		_, code := expectEvaluation(t, e)
		count[code]++
	}
	if count[impl.StepValue] < 500 || count[impl.StepBlame] < 200 || count[impl.StepStuck] < 200 {
		t.Errorf("codes %v", count)
	}
}

// All applications of a cast to constants and to applied functions, for all types up to a depth of 2.
func TestStepsForAllTypes(t *testing.T) {
	of := func(x impl.Type) impl.Term { return castOf(castOf(num(1), intType, anyType, 1), anyType, x, 2) }
	for _, from := range allTypes(2) {
		for _, to := range allTypes(2) {
			if !impl.Consistent(from, to) {
				continue
			}
			for _, v := range []impl.Term{num(1), trueTerm, lam("x", anyType, name("x")), node(impl.TermPair, num(1), trueTerm), of(from)} {
				e := castOf(v, from, to, -3)
				for _, e := range []impl.Term{e, node(impl.TermApp, e, num(5)), node(impl.TermFst, e), node(impl.TermSnd, e), castOf(e, to, from, 4)} {
					expectEvaluation(t, e)
				}
			}
		}
	}
}

func TestEvaluationResultsAreNewMemory(t *testing.T) {
	terms := []impl.Term{parseCast(t, "([1,T]:(I*?)~?#-4)"), parseCast(t, "((!x:I.x:(I>(I>I))~(?>?)#5) (7:I~?#6))")}
	for i, e := range append(runnableTerms(), parseTerm(t, "(!x:(I*B).[x,[x,x]] [1,T])")) {
		inserted, _, _ := impl.InsertCasts(e)
		if i%4 == 0 || i == 4000 {
			terms = append(terms, inserted)
		}
	}
	for _, plain := range terms {
		for range 6 {
			e := roomyTerm(plain)
			first, second, end, again := stepOf(e), stepOf(e), evaluationOf(e, 300), evaluationOf(e, 300)
			if reused(e, first.term, second.term, end.term, again.term) {
				t.Fatalf("the results for %s share memory", textOf(plain))
			}
			impl.IsValue(e)
			impl.ValueText(e)
			impl.CountSteps(e, 300)
			overwriteTerm(first.term)
			overwriteTerm(end.term)
			if !impl.TermSame(e, plain) || marked(e) || !second.same(stepOf(plain)) || !again.same(evaluationOf(plain, 300)) {
				t.Fatalf("%s has been changed", textOf(plain))
			}
			if second.code != impl.StepTook {
				break
			}
			plain = second.term
		}
	}
}

func TestEvaluationArgumentsAreNotChanged(t *testing.T) {
	shape := fun(intType, anyType)
	for _, plain := range append(oneOfEach(), castOf(num(1), shape, anyType, -4), node(impl.TermApp, castOf(lam("x", intType, name("x")), shape, shape, 4), num(1)),
		node(impl.TermPair, node(impl.TermAdd, num(1), num(2)), num(3)), as(node(impl.TermAdd, as(num(1), anyType), num(2)), anyType)) {
		kids := append(slices.Clone(plain.Kids), impl.Term{Kind: 41}, impl.Term{Kind: 42})
		e := plain
		e.Kids = kids[:len(plain.Kids)]
		impl.IsValue(e)
		impl.StepCast(e)
		impl.EvalCast(e, 300)
		impl.ValueText(e)
		impl.RunTerm(e, 300)
		impl.CountSteps(e, 300)
		if !impl.TermSame(e, plain) || kids[len(kids)-2].Kind != 41 || kids[len(kids)-1].Kind != 42 {
			t.Errorf("%s has been changed", textOf(plain))
		}
	}
}
