package tests

import (
	"math"
	"math/rand"
	"slices"
	"strconv"
	"testing"

	"loop.example/gradual/impl"
)

// Promise 13: Unless a limit is reached, a term with a type that yields a value
// yields the same one without its types, and an embedding fails exactly if the
// bare term does.

// The results of this chapter are kept as those of chapter 5, with the error as label.

func bareStepOf(e impl.Term) stepResult {
	next, code, problem := impl.StepBare(e)
	return stepResult{next, code, problem}
}

func bareEvaluationOf(e impl.Term, fuel int) stepResult {
	end, code, problem := impl.EvalBare(e, fuel)
	return stepResult{end, code, problem}
}

func bareRunOf(e impl.Term, fuel int) result {
	text, code, problem := impl.RunBare(e, fuel)
	return result{text, code, problem}
}

// reachedNode returns the node of e, which is no value, that takes the step.
func reachedNode(e impl.Term) impl.Term {
	for i, kid := range e.Kids {
		if !expectedValue(kid) && (e.Kind != impl.TermIf || i == 0) {
			return reachedNode(kid)
		}
	}
	return e
}

// errorAt returns the error of a node to which no rule applies, by the table of the document.
func errorAt(e impl.Term) int {
	kinds := []int{0, 0}
	for i := range min(2, len(e.Kids)) {
		kinds[i] = e.Kids[i].Kind
	}
	switch {
	case e.Kind == impl.TermApp && kinds[0] != impl.TermLam:
		return impl.BareFunction
	case (e.Kind == impl.TermAdd || e.Kind == impl.TermLess) && (kinds[0] != impl.TermNum || kinds[1] != impl.TermNum):
		return impl.BareNumber
	case e.Kind == impl.TermIf && kinds[0] != impl.TermTrue && kinds[0] != impl.TermFalse:
		return impl.BareTruth
	case (e.Kind == impl.TermFst || e.Kind == impl.TermSnd) && kinds[0] != impl.TermPair:
		return impl.BarePart
	case e.Kind == impl.TermVar:
		return impl.BareFree
	}
	return impl.BareNone
}

// expectedBareStep performs a step of a bare term by the document.
func expectedBareStep(e impl.Term) stepResult {
	next := expectedStep(e)
	if next.code == stuck {
		return stepResult{code: blamed, label: errorAt(reachedNode(e))}
	}
	return next
}

func expectBareStep(t *testing.T, e impl.Term, want stepResult) {
	t.Helper()
	if got := bareStepOf(e); !got.same(want) || !impl.BareValid(e) {
		t.Fatalf("StepBare(%s) = %s, not %s", textOf(e), got.text(), want.text())
	}
	if (want.code == blamed) != (want.label >= impl.BareFunction && want.label <= impl.BareFree) {
		t.Fatalf("StepBare(%s) should be %s", textOf(e), want.text())
	}
}

// expectBareEvaluation compares the steps and the evaluation of a bare term with
// the document, with all amounts of fuel that matter. It returns the number of
// steps, up to 301, and what follows them.
func expectBareEvaluation(t *testing.T, e impl.Term) (int, stepResult) {
	t.Helper()
	steps, at := 0, e
	next := expectedBareStep(e)
	for next.code == impl.StepTook && steps <= 300 {
		expectBareStep(t, at, next)
		at = next.term
		steps++
		next = expectedBareStep(at)
	}
	expectBareStep(t, at, next)
	for _, fuel := range []int{-1, 0, 1, steps / 2, steps - 1, steps, steps + 1, 299, 300, 301} {
		want, count := next, steps
		if fuel < steps {
			want, count = stepResult{code: much}, fuel
		}
		if fuel < 0 || fuel > 300 {
			want, count = stuckResult, 0
		}
		if got := bareEvaluationOf(e, fuel); !got.same(want) {
			t.Fatalf("EvalBare(%s, %d) = %s, not %s", textOf(e), fuel, got.text(), want.text())
		}
		if got := impl.BareSteps(e, fuel); got != count {
			t.Fatalf("BareSteps(%s, %d) = %d, not %d", textOf(e), fuel, got, count)
		}
		if got := bareRunOf(e, fuel); got != (result{impl.ValueText(want.term), want.code, want.label}) {
			t.Fatalf("RunBare(%s, %d) = %v", textOf(e), fuel, got)
		}
	}
	return steps, next
}

// expectBareEnd checks the results of an evaluation that ends after this many steps.
func expectBareEnd(t *testing.T, text string, steps int, want result) {
	t.Helper()
	e := parseCast(t, text)
	if count, _ := expectBareEvaluation(t, e); count != steps {
		t.Errorf("%s takes %d steps by the document, not %d", text, count, steps)
	}
	for _, fuel := range []int{steps, steps + 1, 300} {
		end := bareEvaluationOf(e, fuel)
		if got := (result{impl.ValueText(end.term), end.code, end.label}); got != want || bareRunOf(e, fuel) != want {
			t.Errorf("EvalBare(%s, %d) = %v, RunBare = %v, not %v", text, fuel, got, bareRunOf(e, fuel), want)
		}
		if count := impl.BareSteps(e, fuel); count != steps {
			t.Errorf("BareSteps(%s, %d) = %d", text, fuel, count)
		}
	}
	for fuel := range steps {
		if got := bareEvaluationOf(e, fuel); !got.same(stepResult{code: much}) || impl.BareSteps(e, fuel) != fuel {
			t.Errorf("EvalBare(%s, %d) = %s after %d steps", text, fuel, got.text(), impl.BareSteps(e, fuel))
		}
	}
}

// expectNoBare checks the results for a term that is no bare term.
func expectNoBare(t *testing.T, what string, bad impl.Term) {
	t.Helper()
	if impl.BareValid(bad) {
		t.Errorf("%s: treated as a bare term", what)
	}
	if got := bareStepOf(bad); !got.same(stuckResult) {
		t.Errorf("%s: StepBare = %s", what, got.text())
	}
	for _, fuel := range []int{-1, 0, 1, 300, 301} {
		if got, steps := bareEvaluationOf(bad, fuel), impl.BareSteps(bad, fuel); !got.same(stuckResult) || steps != 0 {
			t.Errorf("%s: EvalBare = %s after %d steps", what, got.text(), steps)
		}
	}
}

// expectNoBareRun checks RunBare of what is neither a term nor a term with casts.
func expectNoBareRun(t *testing.T, what string, bad impl.Term) {
	t.Helper()
	for _, fuel := range []int{-1, 0, 1, 300, 301} {
		if got := bareRunOf(bad, fuel); got != (result{code: stuck}) {
			t.Errorf("%s: RunBare = %v", what, got)
		}
	}
}

func TestUntypedExample(t *testing.T) {
	e := parseTerm(t, "(1 2)")
	if got := bareRunOf(e, 300); got != (result{"", blamed, impl.BareFunction}) {
		t.Errorf("RunBare = %v", got)
	}
	embedding, _ := impl.EmbedTerm(e)
	inserted, _, _ := impl.InsertCasts(embedding)
	_, code, label := impl.RunTerm(embedding, 300)
	if list := impl.CastTypes(inserted, label); code != blamed || typeTexts(list) != "? (?>?)" {
		t.Errorf("RunTerm of %s fails with the code %d and the label %d", textOf(inserted), code, label)
	}
}

func TestUntypedConstants(t *testing.T) {
	got := []int{impl.BareNone, impl.BareFunction, impl.BareNumber, impl.BareTruth, impl.BarePart, impl.BareFree}
	if !slices.Equal(got, []int{0, 1, 2, 3, 4, 5}) {
		t.Errorf("the constants are %v", got)
	}
}

func TestBareValid(t *testing.T) {
	for _, text := range []string{
		"0", "999", "T", "F", "x", "!x:?.x", "!x:?.!y:?.[x,y]", "(x y)", "(1+T)", "([1,2]<3)", "{1?2:3}", "$1", "%!x:?.x", "(!x:?.(x x) !x:?.(x x))",
	} {
		if !impl.BareValid(parseCast(t, text)) {
			t.Errorf("%s is no bare term", text)
		}
	}
	// A cast or another type, anywhere, also where it is not reached.
	for _, text := range []string{
		"(1:I~?#1)", "(1:I~I#1)", "(x:?~?#1)", "!x:I.x", "!x:B.x", "!x:(?>?).x", "!x:(?*?).x", "!x:?.!y:I.y", "!x:?.(x:?~?#-9)", "!x:I.!y:?.y",
		"[1,(x:?~?#1)]", "[!x:I.x,1]", "{T?1:!x:(?>?).x}", "{T?1:(2:I~?#1)}", "((x:?~(?>?)#1) 2)", "(1+!x:I.x)", "$(x:?~?#1)", "(!x:?.1 !x:I.x)",
	} {
		e := parseCast(t, text)
		expectNoBare(t, text, e)
		// It is bare, though, without casts and types.
		if bare, ok := impl.BareTerm(e); !ok || !impl.BareValid(bare) {
			t.Errorf("BareTerm(%s) = %s, %v", text, textOf(bare), ok)
		}
	}
	// An ascription, of the unknown type, too.
	for _, text := range []string{"(1:?)", "(1:I)", "!x:?.(x:?)", "(!x:?.x (1:?))", "{T?1:(2:?)}", "[(x:?),2]", "(!x:?.x:?)"} {
		expectNoBare(t, text, parseTerm(t, text))
	}
}

func TestBareValidForManyTerms(t *testing.T) {
	count := map[bool]int{}
	for _, e := range slices.Concat(mixedTerms(), mixedCasts()) {
		want := impl.CastValid(e)
		for _, x := range everyNode(e) {
			if x.Kind == impl.TermCast || x.Kind == impl.TermLam && x.Type.Kind != impl.TypeAny {
				want = false
			}
		}
		if got := impl.BareValid(e); got != want {
			t.Fatalf("BareValid(%s) = %v", textOf(e), got)
		}
		if !want {
			expectNoBare(t, textOf(e), e)
		}
		count[want]++
		if bare := bared(e); !impl.BareValid(bare) {
			t.Fatalf("BareValid(%s) = false", textOf(bare))
		}
	}
	if count[true] < 300 || count[false] < 300 {
		t.Errorf("%d terms are bare, %d are not", count[true], count[false])
	}
}

// A value takes no step, whatever is below a function.
func TestBareValues(t *testing.T) {
	for text, want := range map[string]string{
		"0": "0", "7": "7", "999": "999", "T": "T", "F": "F",
		"!x:?.x": "function", "!x:?.y": "function", "!x:?.(1 2)": "function", "!x:?.(1+2)": "function", "!x:?.(y y)": "function",
		"[1,T]": "pair", "[[1,F],[!x:?.y,2]]": "pair", "[!x:?.(1+T),!y:?.$1]": "pair",
	} {
		expectBareEnd(t, text, 0, result{want, valued, impl.BareNone})
		if got := bareStepOf(parseCast(t, text)); got.code != valued || got.label != 0 || got.text() != text {
			t.Errorf("StepBare(%s) = %s", text, got.text())
		}
	}
}

// expectBareSteps checks that each of the texts follows from the one before it by a step.
func expectBareSteps(t *testing.T, texts ...string) {
	t.Helper()
	for i, text := range texts[1:] {
		got := bareStepOf(parseCast(t, texts[i]))
		if got.code != impl.StepTook || got.label != impl.BareNone || got.text() != text {
			t.Errorf("StepBare(%s) = %s, not %s", texts[i], got.text(), text)
		}
	}
}

func TestBareStepsInOrder(t *testing.T) {
	for _, c := range [][]string{
		{"(1+2)", "3"}, {"(999+1)", "0"}, {"(999+999)", "998"}, {"(500+499)", "999"}, {"(1<2)", "T"}, {"(2<1)", "F"}, {"(1<1)", "F"},
		{"{T?1:2}", "1"}, {"{F?1:2}", "2"}, {"{T?(1 2):x}", "(1 2)"}, {"{F?(1 2):x}", "x"}, {"$[1,T]", "1"}, {"%[1,T]", "T"}, {"%[1,!x:?.y]", "!x:?.y"},
		{"(!x:?.[x,(x+1)] 2)", "[2,(2+1)]", "[2,3]"},
		{"(!x:?.[x,!x:?.x] 2)", "[2,!x:?.x]"},
		{"(!x:?.!y:?.(x y) T)", "!y:?.(T y)"},
		{"(!x:?.(x x) !x:?.(x x))", "(!x:?.(x x) !x:?.(x x))"},
		// The first operand before the second one, and both before the node itself.
		{"((1+2)+(3+4))", "(3+(3+4))", "(3+7)", "10"},
		{"((1+2)<(3+4))", "(3<(3+4))", "(3<7)", "T"},
		{"[[(1+2),(2+3)],(3+4)]", "[[3,(2+3)],(3+4)]", "[[3,5],(3+4)]", "[[3,5],7]"},
		{"((!x:?.x !y:?.(y+1)) (1+2))", "(!y:?.(y+1) (1+2))", "(!y:?.(y+1) 3)", "(3+1)", "4"},
		{"{(1<2)?(1+2):(3+4)}", "{T?(1+2):(3+4)}", "(1+2)", "3"},
		{"$[(1+2),(3+4)]", "$[3,(3+4)]", "$[3,7]", "3"},
		{"(1 (2+3))", "(1 5)"}, {"(T+(2+3))", "(T+5)"}, {"(x (2+3))"}, {"([1,2]<(2+3))", "([1,2]<5)"},
		// A value that is not closed comes in as it is.
		{"(!x:?.(x z) !z:?.y)", "(!z:?.y z)"},
		{"(!x:?.!y:?.x !z:?.y)", "!y:?.!z:?.y"},
	} {
		expectBareSteps(t, c...)
		expectBareEvaluation(t, parseCast(t, c[0]))
	}
}

// Each error, in every operand in which it can occur, for operands of all sorts.
func TestErrorsForAllSortsOfOperands(t *testing.T) {
	sorts := map[int][]string{
		impl.TermNum:  {"0", "7", "999"},
		impl.TermTrue: {"T", "F"},
		impl.TermLam:  {"!x:?.x", "!x:?.1", "!x:?.T", "!x:?.[x,x]", "!x:?.y"},
		impl.TermPair: {"[1,T]", "[T,F]", "[[1,2],!x:?.x]"},
	}
	expect := func(text string, fits bool, problem int) {
		t.Helper()
		if !fits {
			expectBareEnd(t, text, 0, result{"", blamed, problem})
		} else if got := bareStepOf(parseCast(t, text)); got.code != impl.StepTook || got.label != impl.BareNone {
			t.Errorf("StepBare(%s) = %s", text, got.text())
		}
	}
	for first, list := range sorts {
		for _, v := range list {
			expect("{"+v+"?1:2}", first == impl.TermTrue, impl.BareTruth)
			expect("$"+v, first == impl.TermPair, impl.BarePart)
			expect("%"+v, first == impl.TermPair, impl.BarePart)
			for second, list := range sorts {
				for _, w := range list {
					numbers := first == impl.TermNum && second == impl.TermNum
					expect("("+v+"+"+w+")", numbers, impl.BareNumber)
					expect("("+v+"<"+w+")", numbers, impl.BareNumber)
					expect("("+v+" "+w+")", first == impl.TermLam, impl.BareFunction)
				}
			}
		}
	}
}

// failingTerms holds a term with each error, and how many steps come before.
var failingTerms = []struct {
	text    string
	steps   int
	problem int
}{
	{"(1 2)", 0, impl.BareFunction},
	{"([!x:?.x,1] 2)", 0, impl.BareFunction},
	{"((1+2) 3)", 1, impl.BareFunction},
	{"(!f:?.(f 1) T)", 1, impl.BareFunction},
	{"((!x:?.x 1) 2)", 1, impl.BareFunction},
	{"(T+1)", 0, impl.BareNumber},
	{"(1+T)", 0, impl.BareNumber},
	{"(!x:?.x<1)", 0, impl.BareNumber},
	{"(1<[1,2])", 0, impl.BareNumber},
	{"(!x:?.(x+1) T)", 1, impl.BareNumber},
	{"((1<2)+(3+4))", 2, impl.BareNumber},
	{"{1?2:3}", 0, impl.BareTruth},
	{"{!x:?.x?2:3}", 0, impl.BareTruth},
	{"{(1+2)?2:3}", 1, impl.BareTruth},
	{"{[T,T]?x:y}", 0, impl.BareTruth},
	{"$1", 0, impl.BarePart},
	{"%!x:?.[x,x]", 0, impl.BarePart},
	{"$(1<2)", 1, impl.BarePart},
	{"%%[1,2]", 1, impl.BarePart},
	{"x", 0, impl.BareFree},
	{"(!x:?.y 1)", 1, impl.BareFree},
	{"{(1<2)?z:1}", 2, impl.BareFree},
}

// An error ends the evaluation, wherever it occurs, if the place is reached.
func TestErrorsInsideOfOtherNodes(t *testing.T) {
	for _, c := range failingTerms {
		failure := result{"", blamed, c.problem}
		expectBareEnd(t, c.text, c.steps, failure)
		for _, around := range [][2]string{
			{"(", " 1)"}, {"(!x:?.x ", ")"}, {"(1 ", ")"}, {"(", "+1)"}, {"(1+", ")"}, {"(T+", ")"}, {"(", "<1)"}, {"(1<", ")"}, {"(!x:?.x<", ")"}, {"{", "?1:2}"},
			{"[", ",1]"}, {"[1,", "]"}, {"$", ""}, {"%", ""}, {"$[", ",1]"}, {"$[1,", "]"}, {"%[", ",1]"}, {"%[1,", "]"}, {"(!x:?.7 ", ")"},
			{"[!y:?.(1 2),[", ",(1 2)]]"}, {"{$[", ",T]?1:2}"}, {"(1+(2+(3+", ")))"}, {"(", " (1 2))"}, {"(", "+x)"}, {"{", "?x:(1+T)}"},
		} {
			expectBareEnd(t, around[0]+c.text+around[1], c.steps, failure)
		}
		for _, around := range [][2]string{{"{T?", ":1}"}, {"{F?1:", "}"}, {"(!x:?.", " 7)"}, {"$[{T?", ":2},1]"}} {
			if c.text == "x" && around[0] == "(!x:?." {
				continue
			}
			expectBareEnd(t, around[0]+c.text+around[1], c.steps+1, failure)
		}
		// Places that are not reached.
		for _, around := range [][3]string{
			{"!x:?.", "", "function"}, {"[1,!x:?.", "]", "pair"}, {"[!x:?.[", ",1],2]", "pair"},
		} {
			expectBareEnd(t, around[0]+c.text+around[1], 0, result{around[2], valued, impl.BareNone})
		}
		for _, around := range [][3]string{
			{"{T?1:", "}", "1"}, {"{F?", ":2}", "2"}, {"(!z:?.5 !x:?.", ")", "5"}, {"$[T,!x:?.", "]", "T"},
		} {
			expectBareEnd(t, around[0]+c.text+around[1], 1, result{around[2], valued, impl.BareNone})
		}
	}
}

// Of two errors, the one that is reached first counts.
func TestTheFirstErrorCounts(t *testing.T) {
	for text, problem := range map[string]int{
		"((1 2)+(1+T))":           impl.BareFunction,
		"((1+T) (1 2))":           impl.BareNumber,
		"[$1,{1?2:3}]":            impl.BarePart,
		"[{1?2:3},$1]":            impl.BareTruth,
		"(x (1 2))":               impl.BareFree,
		"((1 2) x)":               impl.BareFunction,
		"{x?(1 2):(1+T)}":         impl.BareFree,
		"(!x:?.(1 2) $1)":         impl.BarePart,
		"{(1+T)?(1 2):$1}":        impl.BareNumber,
		"[[1,[2,x]],(1 2)]":       impl.BareFree,
		"((!x:?.(x 1) 2) $3)":     impl.BareFunction,
		"({(1<2)?x:(1 2)}+(T+1))": impl.BareFree,
		// The first operand is of the wrong sort, but the error in the second one comes before.
		"(1 x)":                  impl.BareFree,
		"(1 (T+1))":              impl.BareNumber,
		"(T+(1 2))":              impl.BareFunction,
		"(T+$1)":                 impl.BarePart,
		"(T<{1?2:3})":            impl.BareTruth,
		"([1,2]<x)":              impl.BareFree,
		"((1+2) (!x:?.$x 1))":    impl.BarePart,
		"((1<2)+(!x:?.(x 1) 1))": impl.BareFunction,
		// A part that is not selected, and an argument that is not used, are reached.
		"$[1,x]":         impl.BareFree,
		"%[(1 2),1]":     impl.BareFunction,
		"(!x:?.1 (T+1))": impl.BareNumber,
		"(!x:?.1 y)":     impl.BareFree,
	} {
		e := parseCast(t, text)
		if got := bareRunOf(e, 300); got != (result{"", blamed, problem}) {
			t.Errorf("RunBare(%s) = %v", text, got)
		}
		expectBareEvaluation(t, e)
	}
}

func TestVariablesThatAreReached(t *testing.T) {
	for text, want := range map[string]result{
		"x":                        {"", blamed, impl.BareFree},
		"(x 1)":                    {"", blamed, impl.BareFree},
		"(!x:?.x x)":               {"", blamed, impl.BareFree},
		"(!x:?.y 1)":               {"", blamed, impl.BareFree},
		"((!x:?.!y:?.z 1) 2)":      {"", blamed, impl.BareFree},
		"((!x:?.!y:?.x 1) 2)":      {"1", valued, 0},
		"((!x:?.!x:?.x 1) 2)":      {"2", valued, 0},
		"!x:?.y":                   {"function", valued, 0},
		"(!x:?.!y:?.z 1)":          {"function", valued, 0},
		"(!x:?.1 !y:?.z)":          {"1", valued, 0},
		"(!f:?.[f,1] !y:?.z)":      {"pair", valued, 0},
		"(!f:?.(f 1) !y:?.z)":      {"", blamed, impl.BareFree},
		"{T?1:x}":                  {"1", valued, 0},
		"{F?x:1}":                  {"1", valued, 0},
		"{F?1:x}":                  {"", blamed, impl.BareFree},
		"{x?1:1}":                  {"", blamed, impl.BareFree},
		"%[!x:?.y,7]":              {"7", valued, 0},
		"%[y,7]":                   {"", blamed, impl.BareFree},
		"[x,1]":                    {"", blamed, impl.BareFree},
		"(!y:?.(!x:?.!y:?.x y) 3)": {"function", valued, 0},
		// The variable of a value that is put in becomes one of the function around it.
		"(((!x:?.!y:?.x !z:?.y) 5) 6)": {"5", valued, 0},
	} {
		if got := bareRunOf(parseCast(t, text), 300); got != want {
			t.Errorf("RunBare(%s) = %v", text, got)
		}
		expectBareEvaluation(t, parseCast(t, text))
	}
}

// bareCountdown returns a term that needs 5*n+5 steps to become 0, and this many more for a sum.
func bareCountdown(t *testing.T, n, more int) impl.Term {
	t.Helper()
	return node(impl.TermPair, countdown(t, n), sumOf(more))
}

func TestFuelOfBareTerms(t *testing.T) {
	for steps, e := range map[int]impl.Term{
		0:   num(7),
		1:   parseCast(t, "(1+2)"),
		7:   sumOf(7),
		99:  sumOf(99),
		260: bareCountdown(t, 51, 0),
		261: bareCountdown(t, 51, 1),
		299: bareCountdown(t, 51, 39),
		300: bareCountdown(t, 51, 40),
	} {
		count, end := expectBareEvaluation(t, e)
		if count != steps || end.code != valued {
			t.Fatalf("%s takes %d steps, not %d, and has the code %d", textOf(e), count, steps, end.code)
		}
		if got := bareEvaluationOf(e, steps); got.code != valued || impl.BareSteps(e, steps) != steps {
			t.Errorf("%d steps with just enough fuel: %s", steps, got.text())
		}
		if got := bareEvaluationOf(e, steps-1); steps > 0 && (!got.same(stepResult{code: much}) || impl.BareSteps(e, steps-1) != steps-1) {
			t.Errorf("%d steps with one too few: %s", steps, got.text())
		}
	}
	// A failure, and no end at all, with the greatest fuel and one step more.
	failing := node(impl.TermPair, countdown(t, 51), node(impl.TermFst, sumOf(40)))
	if count, end := expectBareEvaluation(t, failing); count != 300 || !end.same(stepResult{code: blamed, label: impl.BarePart}) {
		t.Errorf("%s: %s after %d steps", textOf(failing), end.text(), count)
	}
	for _, e := range []impl.Term{bareCountdown(t, 51, 41), parseCast(t, "(!x:?.(x x) !x:?.(x x))"), parseCast(t, "[1,(!x:?.{T?(x x):1} !x:?.{T?(x x):1})]")} {
		for fuel := range 301 {
			if got := bareEvaluationOf(e, fuel); !got.same(stepResult{code: much}) || impl.BareSteps(e, fuel) != fuel || bareRunOf(e, fuel) != (result{code: much}) {
				t.Fatalf("EvalBare(%s, %d) = %s", textOf(e), fuel, got.text())
			}
		}
	}
}

func TestFuelOfBareTermsOutOfRange(t *testing.T) {
	for _, fuel := range []int{-1, -2, -300, 301, 302, 1000, math.MinInt, math.MaxInt, 1 << 32, -1 << 32, 1<<32 + 100} {
		for _, text := range []string{"7", "!x:?.x", "(1+2)", "(1 2)", "x", "(!x:?.(x x) !x:?.(x x))"} {
			e := parseCast(t, text)
			if got := bareEvaluationOf(e, fuel); !got.same(stuckResult) || impl.BareSteps(e, fuel) != 0 {
				t.Errorf("EvalBare(%s, %d) = %s after %d steps", text, fuel, got.text(), impl.BareSteps(e, fuel))
			}
			if got := bareRunOf(e, fuel); got != (result{code: stuck}) {
				t.Errorf("RunBare(%s, %d) = %v", text, fuel, got)
			}
		}
	}
}

func TestBareStepsThatAreTooLarge(t *testing.T) {
	expectLimit := func(what string, fits, over impl.Term) {
		t.Helper()
		next := bareStepOf(fits)
		if next.code != impl.StepTook || nodes(next.term) != 200 && depthOf(next.term) != 40 {
			t.Errorf("%s: %s of %d nodes with a depth of %d", what, next.text(), nodes(next.term), depthOf(next.term))
		}
		expectBareEvaluation(t, fits)
		if steps, end := expectBareEvaluation(t, over); steps != 0 || !end.same(stepResult{code: large}) {
			t.Errorf("%s: %s after %d steps", what, end.text(), steps)
		}
		for _, fuel := range []int{0, 1, 300} {
			if got := bareEvaluationOf(over, fuel); !got.same(stepResult{code: large}) || impl.BareSteps(over, fuel) != 0 || bareRunOf(over, fuel) != (result{code: large}) {
				t.Errorf("%s: EvalBare with the fuel %d = %s", what, fuel, got.text())
			}
		}
	}
	function := func(count int) impl.Term { return lam("y", anyType, wideTerm(count-1)) }
	apply := func(body, v impl.Term) impl.Term { return node(impl.TermApp, lam("x", anyType, body), v) }
	twice := node(impl.TermPair, name("x"), name("x"))
	expectLimit("200 nodes and 201", apply(node(impl.TermFst, twice), function(99)), apply(twice, function(100)))
	expectLimit("200 nodes and 202", apply(node(impl.TermFst, twice), function(99)), apply(node(impl.TermFst, twice), function(100)))
	expectLimit("the nodes around the step", node(impl.TermSnd, apply(twice, function(99))), node(impl.TermSnd, node(impl.TermSnd, apply(twice, function(99)))))
	deep := func(around, depth int) impl.Term {
		body := name("x")
		for range 19 {
			body = node(impl.TermFst, body)
		}
		e := apply(body, bared(deepTerm(impl.TermLam, 0, depth)))
		for range around {
			e = node(impl.TermSnd, e)
		}
		return e
	}
	expectLimit("the depth", deep(0, 21), deep(0, 22))
	expectLimit("the depth around the step", deep(5, 16), deep(5, 17))
}

// A step that is too large ends an evaluation, even where no fuel is left.
func TestBareEvaluationsThatBecomeTooLarge(t *testing.T) {
	for text, code := range map[string]int{
		"(!x:?.[(x x),1] !x:?.[(x x),1])":              large,
		"(!x:?.(1+(x x)) !x:?.(1+(x x)))":              large,
		"(!x:?.[x,(x x)] !x:?.[x,(x x)])":              large,
		"(!x:?.((x x) [x,x]) !x:?.((x x) [x,x]))":      large,
		"(!x:?.(x [x,x]) !x:?.(x [x,x]))":              blamed,
		"(!x:?.(x !y:?.[x,[x,x]]) !x:?.[[x,x],[x,x]])": valued,
	} {
		e := parseCast(t, text)
		steps, end := expectBareEvaluation(t, e)
		if end.code != code || code == large && (steps < 10 || steps > 250) {
			t.Errorf("%s: %s after %d steps", text, end.text(), steps)
		}
		if got := bareEvaluationOf(e, steps-1); !got.same(stepResult{code: much}) || impl.BareSteps(e, steps-1) != steps-1 {
			t.Errorf("%s: %s with one step too few", text, got.text())
		}
	}
}

// All bare terms of a small size, and many others, take the steps that the document states.
func TestStepsOfManyBareTerms(t *testing.T) {
	codes, problems := map[int]int{}, map[int]int{}
	for _, e := range slices.Concat(smallTerms(), mixedTerms(), mixedCasts(), runnableTerms(), failingCases(t)) {
		_, end := expectBareEvaluation(t, bared(e))
		codes[end.code]++
		problems[end.label]++
	}
	if codes[valued] < 1000 || codes[blamed] < 1000 {
		t.Errorf("codes %v", codes)
	}
	for problem := impl.BareNone; problem <= impl.BareFree; problem++ {
		if problems[problem] < 50 {
			t.Errorf("%d evaluations end with the error %d", problems[problem], problem)
		}
	}
}

// RunBare takes terms of both chapters, with their types and casts.
func TestRunBareWithoutTypesAndCasts(t *testing.T) {
	for _, c := range []struct {
		text string
		want result
	}{
		{"7", result{"7", valued, 0}},
		{"(999+1)", result{"0", valued, 0}},
		{"[(1+2),(T:?)]", result{"pair", valued, 0}},
		{"!x:I.(1 2)", result{"function", valued, 0}},
		{"(!x:I.(x+1) 2)", result{"3", valued, 0}},
		{"(!x:?.(x+1) T)", result{"", blamed, impl.BareNumber}},
		// Types do not matter, also where there is none or a cast fails.
		{"(!x:B.x 1)", result{"1", valued, 0}},
		{"(!x:B.(x+1) 2)", result{"3", valued, 0}},
		{"(!x:(I*I).{x?1:2} (T:I))", result{"1", valued, 0}},
		{"((1:?):B)", result{"1", valued, 0}},
		{"((((1:B):(I>I)):?):(?*?))", result{"1", valued, 0}},
		{"(!x:I.(x:B):(I*I))", result{"function", valued, 0}},
		{"{(T:?)?(1:?):(2 3)}", result{"1", valued, 0}},
		{"((1:(?>?)) 2)", result{"", blamed, impl.BareFunction}},
		{"($1:I)", result{"", blamed, impl.BarePart}},
		{"{(1:B)?1:2}", result{"", blamed, impl.BareTruth}},
		{"((x:I)+1)", result{"", blamed, impl.BareFree}},
		{"!x:I.(x x)", result{"function", valued, 0}},
		{"(!x:(?>?).(x x) (!x:?.(x x):?))", result{"", much, 0}},
		{"(!x:I.[(x x),1] !x:B.[(x x),1])", result{"", large, 0}},
	} {
		e := parseTerm(t, c.text)
		if got := bareRunOf(e, 300); got != c.want {
			t.Errorf("RunBare(%s) = %v", c.text, got)
		}
	}
	for _, c := range []struct {
		text string
		want result
	}{
		{"(1:I~?#1)", result{"1", valued, 0}},
		{"((1:I~?#1):?~B#2)", result{"1", valued, 0}},
		{"(!x:I.x:(I>I)~(?>?)#1)", result{"function", valued, 0}},
		{"([1,T]:(I*B)~?#1)", result{"pair", valued, 0}},
		{"((!x:I.x:(I>I)~(?>?)#1) (T:B~?#2))", result{"T", valued, 0}},
		{"(!x:?.((x:?~I#1)+1) (T:B~?#2))", result{"", blamed, impl.BareNumber}},
		{"((1:I~?#1):?~(?>?)#2)", result{"1", valued, 0}},
		{"(((1:I~?#1):?~(?>?)#2) 3)", result{"", blamed, impl.BareFunction}},
		{"%(1:(I*I)~(?*?)#1)", result{"", blamed, impl.BarePart}},
		{"(x:?~?#1)", result{"", blamed, impl.BareFree}},
	} {
		e := parseCast(t, c.text)
		if got := bareRunOf(e, 300); got != c.want {
			t.Errorf("RunBare(%s) = %v", c.text, got)
		}
	}
	// A term with casts is larger than a term may be, without its casts, too.
	for _, e := range []impl.Term{wideTerm(200), wideCast(200), deepTerm(impl.TermFst, 0, 40), deepTerm(impl.TermCast, 0, 40), deepTerm(impl.TermLam, 0, 40)} {
		bare := bared(e)
		_, end := expectBareEvaluation(t, bare)
		if got := bareRunOf(e, 300); got != (result{impl.ValueText(end.term), end.code, end.label}) {
			t.Errorf("RunBare(%.50s) = %v", textOf(e), got)
		}
	}
}

// RunBare, of any term, is EvalBare without types and casts.
func TestRunBareOfManyTerms(t *testing.T) {
	for i, e := range slices.Concat(mixedTerms(), mixedCasts(), runnableTerms()) {
		for _, fuel := range []int{300, i % 20} {
			end := bareEvaluationOf(bared(e), fuel)
			want := result{impl.ValueText(end.term), end.code, end.label}
			if got := bareRunOf(e, fuel); got != want || (got.text != "") != (got.code == valued) {
				t.Fatalf("RunBare(%s, %d) = %v, not %v", textOf(e), fuel, got, want)
			}
		}
	}
}

func TestInvalidTermsWithoutTypes(t *testing.T) {
	for what, bad := range map[string]impl.Term{
		"the zero value":                   {},
		"kind 15":                          {Kind: 15},
		"a negative number":                num(-1),
		"a number that is too large":       num(1000),
		"a name of two letters":            name("xy"),
		"a function without a type":        lam("x", impl.Type{}, name("x")),
		"a function without a name":        lam("", anyType, num(1)),
		"a function of an invalid type":    lam("x", leftChain(5), name("x")),
		"operands of the unknown type":     lam("x", impl.Type{Kind: impl.TypeAny, Kids: []impl.Type{anyType}}, name("x")),
		"a number with a type":             {Kind: impl.TermNum, Type: anyType},
		"a sum of one operand":             node(impl.TermAdd, num(1)),
		"a sum of three operands":          node(impl.TermAdd, num(1), num(2), num(3)),
		"an invalid part that is not used": node(impl.TermIf, trueTerm, num(1), impl.Term{}),
		"an invalid body":                  lam("x", anyType, impl.Term{}),
		"201 nodes":                        wideTerm(201),
		"201 nodes with casts":             wideCast(201),
		"a depth of 41":                    deepTerm(impl.TermFst, 0, 41),
		"a pair of itself":                 selfTerm(impl.TermPair, 2),
		"a cast without types":             castOf(num(1), impl.Type{}, impl.Type{}, 1),
		"a cast of types that differ":      castOf(num(1), intType, boolType, 1),
		"a label of 0":                     castOf(num(1), intType, anyType, 0),
		"a label of 100":                   castOf(num(1), intType, anyType, 100),
		"a cast and an ascription":         node(impl.TermPair, castOf(num(1), intType, anyType, 1), as(num(1), anyType)),
		"31 nodes with an ascription":      as(wideTerm(30), anyType),
		"an ascription of no type":         as(num(1), impl.Type{}),
		"an ascription of too deep a type": as(num(1), rightChain(5)),
	} {
		if _, ok := impl.BareTerm(bad); ok {
			t.Fatalf("%s: BareTerm returns true", what)
		}
		expectNoBare(t, what, bad)
		expectNoBareRun(t, what, bad)
	}
}

// closedBare returns a bare term whose free variables are among the given ones,
// where random numbers choose, without regard to types.
func closedBare(r *rand.Rand, variables []string, depth int) impl.Term {
	if len(variables) > 0 && r.Intn(4) == 0 {
		return name(variables[r.Intn(len(variables))])
	}
	sub := func() impl.Term { return closedBare(r, variables, depth-1) }
	kind := impl.TermNum + r.Intn(11)
	if depth == 1 {
		kind = impl.TermNum + r.Intn(3)
	}
	switch kind {
	case impl.TermNum:
		return num(r.Intn(1000))
	case impl.TermLam:
		variable := string(rune('x' + r.Intn(3)))
		return lam(variable, anyType, closedBare(r, append(slices.Clone(variables), variable), depth-1))
	}
	e := node(kind)
	for range operands(kind) {
		e.Kids = append(e.Kids, sub())
	}
	return e
}

// failingCases returns closed terms, most of which have an error that is reached.
func failingCases(t *testing.T) []impl.Term {
	t.Helper()
	r := rand.New(rand.NewSource(130))
	list := []impl.Term{}
	for len(list) < 4000 {
		e := closedBare(r, nil, 2+r.Intn(6))
		if r.Intn(2) == 0 {
			e = node(impl.TermApp, lam("x", anyType, e), closedBare(r, nil, 3))
		}
		if impl.TermValid(e) && operands(e.Kind) > 0 {
			list = append(list, e)
		}
	}
	return list
}

// meaning is what a closed bare term comes to without steps: a value, which is a
// number, a truth value, a function or a pair, or an error.
type meaning struct {
	kind    int
	num     int
	body    impl.Term
	known   map[string]meaning
	parts   []meaning
	problem int
}

// meaningOf returns what e comes to, if the variables have the known values. It
// gives up, with the result false, when the budget is used up.
func meaningOf(e impl.Term, known map[string]meaning, budget *int) (meaning, bool) {
	*budget--
	if *budget < 0 {
		return meaning{}, false
	}
	switch e.Kind {
	case impl.TermVar:
		v, ok := known[e.Name]
		if !ok {
			v.problem = impl.BareFree
		}
		return v, true
	case impl.TermLam:
		return meaning{kind: e.Kind, body: e, known: known}, true
	}
	counted := e.Kids
	if e.Kind == impl.TermIf {
		counted = e.Kids[:1]
	}
	parts := []meaning{}
	for _, kid := range counted {
		v, ok := meaningOf(kid, known, budget)
		if !ok || v.problem != 0 {
			return v, ok
		}
		parts = append(parts, v)
	}
	switch {
	case e.Kind == impl.TermApp && parts[0].kind == impl.TermLam:
		inner := map[string]meaning{parts[0].body.Name: parts[1]}
		for variable, v := range parts[0].known {
			if variable != parts[0].body.Name {
				inner[variable] = v
			}
		}
		return meaningOf(parts[0].body.Kids[0], inner, budget)
	case e.Kind == impl.TermIf && (parts[0].kind == impl.TermTrue || parts[0].kind == impl.TermFalse):
		return meaningOf(e.Kids[1+parts[0].kind-impl.TermTrue], known, budget)
	}
	return meaningOfNode(e, parts), true
}

// meaningOfNode returns what a node comes to that neither applies a function nor chooses a branch.
func meaningOfNode(e impl.Term, parts []meaning) meaning {
	numbers := len(parts) == 2 && parts[0].kind == impl.TermNum && parts[1].kind == impl.TermNum
	switch e.Kind {
	case impl.TermApp:
		return meaning{problem: impl.BareFunction}
	case impl.TermIf:
		return meaning{problem: impl.BareTruth}
	case impl.TermPair:
		return meaning{kind: impl.TermPair, parts: parts}
	case impl.TermFst, impl.TermSnd:
		if parts[0].kind != impl.TermPair {
			return meaning{problem: impl.BarePart}
		}
		return parts[0].parts[e.Kind-impl.TermFst]
	case impl.TermAdd, impl.TermLess:
		if !numbers {
			return meaning{problem: impl.BareNumber}
		}
		if e.Kind == impl.TermAdd {
			return meaning{kind: impl.TermNum, num: (parts[0].num + parts[1].num) % 1000}
		}
		return meaning{kind: map[bool]int{true: impl.TermTrue, false: impl.TermFalse}[parts[0].num < parts[1].num]}
	}
	return meaning{kind: e.Kind, num: e.Num}
}

func (m meaning) result() result {
	if m.problem != 0 {
		return result{"", blamed, m.problem}
	}
	texts := map[int]string{impl.TermNum: strconv.Itoa(m.num), impl.TermTrue: "T", impl.TermFalse: "F", impl.TermLam: "function", impl.TermPair: "pair"}
	return result{texts[m.kind], valued, 0}
}

// The steps of a closed term lead to what it means, if no limit is reached.
func TestBareTermsComeToWhatTheyMean(t *testing.T) {
	compared, problems := 0, map[int]int{}
	for _, e := range slices.Concat(runnableTerms(), closedCases(t), failingCases(t)) {
		budget := 5000
		want, ok := meaningOf(bared(e), nil, &budget)
		got := bareRunOf(e, 300)
		if !ok || !got.ended() {
			continue
		}
		if got != want.result() {
			t.Fatalf("RunBare(%s) = %v, not %v", textOf(e), got, want.result())
		}
		compared++
		problems[got.label]++
	}
	if compared < 5000 {
		t.Errorf("only %d terms are compared", compared)
	}
	for problem := impl.BareNone; problem < impl.BareFree; problem++ {
		if problems[problem] < 100 {
			t.Errorf("%d terms have the error %d", problems[problem], problem)
		}
	}
}

// expectSameWithoutTypes checks the promise for a term: what it yields with types
// and, if it is closed, how its embedding ends. It returns the codes of the term
// with its types and without them.
func expectSameWithoutTypes(t *testing.T, e impl.Term, fuel int) (int, int) {
	t.Helper()
	text, code, _ := impl.RunTerm(e, fuel)
	bare := bareRunOf(e, fuel)
	if code == valued && bare.ended() && bare != (result{text, valued, impl.BareNone}) {
		t.Fatalf("%s yields %s, but without its types %v", textOf(e), text, bare)
	}
	embedding, ok := impl.EmbedTerm(e)
	if !ok || impl.FreeNames(e) != "" {
		return code, bare.code
	}
	embedded, embeddedCode, _ := impl.RunTerm(embedding, fuel)
	if embeddedCode == stuck {
		t.Fatalf("the embedding %s has no type", textOf(embedding))
	}
	if (embeddedCode == valued || embeddedCode == blamed) && bare.ended() && (embeddedCode != bare.code || embedded != bare.text) {
		t.Fatalf("RunBare(%s) = %v, but the embedding %s comes to %q and the code %d", textOf(e), bare, textOf(embedding), embedded, embeddedCode)
	}
	return code, bare.code
}

func TestValuesAreTheSameWithoutTypes(t *testing.T) {
	count, values, better := map[int]int{}, map[string]int{}, 0
	for i, e := range slices.Concat(runnableTerms(), closedCases(t)) {
		code, bare := expectSameWithoutTypes(t, e, 300)
		expectSameWithoutTypes(t, e, i%12)
		if code == valued && bare == valued {
			values[bareRunOf(e, 300).text]++
		}
		if code == blamed && bare == valued {
			better++
		}
		count[bare]++
	}
	if count[valued] < 2000 || count[blamed] < 100 || better < 100 {
		t.Errorf("codes %v, and %d terms fail only with their types", count, better)
	}
	for _, text := range []string{"function", "pair", "T", "F", "1"} {
		if values[text] < 5 {
			t.Errorf("%d terms yield %s", values[text], text)
		}
	}
}

func TestEmbeddingsFailWhereBareTermsDo(t *testing.T) {
	count := map[int]int{}
	for _, e := range failingCases(t) {
		expectSameWithoutTypes(t, e, 300)
		if _, ok := impl.EmbedTerm(e); ok {
			count[bareRunOf(e, 300).label]++
		}
	}
	for problem := impl.BareNone; problem < impl.BareFree; problem++ {
		if count[problem] < 50 {
			t.Errorf("%d embeddings of terms with the error %d", count[problem], problem)
		}
	}
	// The one error that no closed term has, in a term whose embedding has no type.
	e := parseTerm(t, "(!x:?.y 1)")
	embedding, _ := impl.EmbedTerm(e)
	if _, code, _ := impl.RunTerm(embedding, 300); code != stuck || bareRunOf(e, 300) != (result{"", blamed, impl.BareFree}) {
		t.Errorf("RunTerm(%s) has the code %d", textOf(embedding), code)
	}
}

func TestUntypedResultsAreNewMemory(t *testing.T) {
	terms := []impl.Term{parseCast(t, "(!x:?.[x,[x,x]] [1,!y:?.y])"), parseCast(t, "$[!x:?.x,1]"), parseCast(t, "{T?[1,2]:3}"), parseCast(t, "[1,!x:?.x]")}
	for i, e := range runnableTerms() {
		if i%4 == 0 {
			terms = append(terms, bared(e))
		}
	}
	for _, plain := range terms {
		for range 6 {
			e := roomyTerm(plain)
			first, second, end, again := bareStepOf(e), bareStepOf(e), bareEvaluationOf(e, 300), bareEvaluationOf(e, 300)
			if reused(e, first.term, second.term, end.term, again.term) {
				t.Fatalf("the results for %s share memory", textOf(plain))
			}
			impl.BareValid(e)
			impl.BareSteps(e, 300)
			impl.RunBare(e, 300)
			overwriteTerm(first.term)
			overwriteTerm(end.term)
			if !impl.TermSame(e, plain) || marked(e) || !second.same(bareStepOf(plain)) || !again.same(bareEvaluationOf(plain, 300)) {
				t.Fatalf("%s has been changed", textOf(plain))
			}
			if second.code != impl.StepTook {
				break
			}
			plain = second.term
		}
	}
	for _, plain := range []impl.Term{as(node(impl.TermAdd, as(num(1), intType), num(2)), anyType), castOf(lam("x", intType, name("x")), fun(intType, intType), anyType, 4)} {
		e := roomyTerm(plain)
		impl.RunBare(e, 300)
		if !impl.TermSame(e, plain) || marked(e) {
			t.Errorf("%s has been changed", textOf(plain))
		}
	}
}
