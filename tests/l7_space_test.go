package tests

import (
	"math"
	"math/rand"
	"slices"
	"strconv"
	"testing"

	"loop.example/gradual/impl"
)

// Promise 7: If both end, evaluation by coercions has the same result as evaluation by
// casts; the height of coercions is at most that of the casts of the term.

// spaceTerm is a term with coercions: by is the coercion of its operand, or nil
// where the node is not one that is converted.
type spaceTerm struct {
	node impl.Term
	by   *impl.Coercion
	kids []spaceTerm
}

// spaceResult holds the results of EvalSpace.
type spaceResult struct {
	text                string
	code, label, height int
}

func spaceOf(e impl.Term, fuel int) spaceResult {
	text, code, label, height := impl.EvalSpace(e, fuel)
	return spaceResult{text, code, label, height}
}

var noSpace = spaceResult{code: impl.StepStuck}

// withCoercions replaces the casts of a term.
func withCoercions(e impl.Term) spaceTerm {
	s := spaceTerm{node: e}
	for _, kid := range e.Kids {
		s.kids = append(s.kids, withCoercions(kid))
	}
	if s.node.Kids = nil; e.Kind == impl.TermCast {
		by := coerced(e.From, e.Type, e.Label)
		s.by = &by
	}
	return s
}

func (s spaceTerm) kind() int { return s.node.Kind }

func (s spaceTerm) plainValue() bool {
	switch s.kind() {
	case impl.TermNum, impl.TermTrue, impl.TermFalse, impl.TermLam:
		return true
	case impl.TermPair:
		return s.kids[0].value() && s.kids[1].value()
	}
	return false
}

func (s spaceTerm) value() bool {
	return s.plainValue() || s.by != nil && s.by.Kind >= impl.CoFun && s.by.Kind <= impl.CoInject && s.kids[0].plainValue()
}

func (s spaceTerm) nodes() int {
	count := 1
	for _, kid := range s.kids {
		count += kid.nodes()
	}
	return count
}

func (s spaceTerm) height() int {
	most := 0
	if s.by != nil {
		most = coercionHeight(*s.by)
	}
	for _, kid := range s.kids {
		most = max(most, kid.height())
	}
	return most
}

// pending returns the greatest number of coercions that are nested directly, with those around the term.
func (s spaceTerm) pending(around int) int {
	if s.by == nil {
		around = -1
	}
	most := around + 1
	for _, kid := range s.kids {
		most = max(most, kid.pending(around+1))
	}
	return most
}

func coercionHeight(c impl.Coercion) int {
	most := 0
	for _, kid := range c.Kids {
		most = max(most, coercionHeight(kid))
	}
	if c.Kind == impl.CoInject || c.Kind == impl.CoProject {
		return most
	}
	return most + 1
}

// deepest returns the greatest depth of the coercions of the term.
func (s spaceTerm) deepest() int {
	most := 0
	if s.by != nil {
		most = coercionDepth(*s.by)
	}
	for _, kid := range s.kids {
		most = max(most, kid.deepest())
	}
	return most
}

func (s spaceTerm) text() string {
	if s.by != nil {
		s = s.kids[0]
	}
	switch s.kind() {
	case impl.TermPair:
		return "pair"
	case impl.TermLam:
		return "function"
	}
	return textOf(s.node)
}

// put returns the term with v in place of the free variables of a name.
func (s spaceTerm) put(variable string, v spaceTerm) spaceTerm {
	if s.kind() == impl.TermVar && s.node.Name == variable {
		return v
	}
	if s.kind() == impl.TermLam && s.node.Name == variable {
		return s
	}
	kids := []spaceTerm{}
	for _, kid := range s.kids {
		kids = append(kids, kid.put(variable, v))
	}
	s.kids = kids
	return s
}

func convertedBy(s spaceTerm, c impl.Coercion) spaceTerm {
	return spaceTerm{node: impl.Term{Kind: impl.TermCast}, by: &c, kids: []spaceTerm{s}}
}

// step performs a step by the rules of the document, and returns its result, its code and its label.
func (s spaceTerm) step() (spaceTerm, int, int) {
	if s.value() {
		return s, impl.StepValue, 0
	}
	next, code, label := s.inside()
	if code == impl.StepTook && next.nodes() > 200 {
		return spaceTerm{}, impl.StepLarge, 0
	}
	return next, code, label
}

func (s spaceTerm) inside() (spaceTerm, int, int) {
	if s.by != nil && s.kids[0].by != nil {
		c, ok := composed(*s.kids[0].by, *s.by)
		if !ok {
			return spaceTerm{}, impl.StepStuck, 0
		}
		return convertedBy(s.kids[0].kids[0], c), impl.StepTook, 0
	}
	for i, kid := range s.kids {
		if kid.value() || s.kind() == impl.TermIf && i > 0 {
			continue
		}
		next, code, label := kid.inside()
		if code == impl.StepTook {
			s.kids = slices.Clone(s.kids)
			s.kids[i], next = next, s
			next.kids = s.kids
		}
		return next, code, label
	}
	return s.atNode()
}

// atNode performs the step of a node all of whose operands that count are values.
func (s spaceTerm) atNode() (spaceTerm, int, int) {
	if len(s.kids) == 0 {
		return spaceTerm{}, impl.StepStuck, 0
	}
	v := s.kids[0]
	if s.by != nil {
		switch s.by.Kind {
		case impl.CoId:
			return v, impl.StepTook, 0
		case impl.CoFail:
			return spaceTerm{}, impl.StepBlame, s.by.Label
		}
		return spaceTerm{}, impl.StepStuck, 0
	}
	part := s.kind() - impl.TermFst
	selects := part == 0 || part == 1
	switch {
	case s.kind() == impl.TermApp && v.kind() == impl.TermLam:
		return v.kids[0].put(v.node.Name, s.kids[1]), impl.StepTook, 0
	case s.kind() == impl.TermApp && v.by != nil && v.by.Kind == impl.CoFun && v.kids[0].kind() == impl.TermLam:
		s.kids = []spaceTerm{v.kids[0], convertedBy(s.kids[1], v.by.Kids[0])}
		return convertedBy(s, v.by.Kids[1]), impl.StepTook, 0
	case selects && v.kind() == impl.TermPair:
		return v.kids[part], impl.StepTook, 0
	case selects && v.by != nil && v.by.Kind == impl.CoPair && v.kids[0].kind() == impl.TermPair:
		s.kids = []spaceTerm{v.kids[0]}
		return convertedBy(s, v.by.Kids[part]), impl.StepTook, 0
	case s.kind() == impl.TermIf && v.kind() == impl.TermTrue:
		return s.kids[1], impl.StepTook, 0
	case s.kind() == impl.TermIf && v.kind() == impl.TermFalse:
		return s.kids[2], impl.StepTook, 0
	case s.kind() == impl.TermAdd && v.kind() == impl.TermNum && s.kids[1].kind() == impl.TermNum:
		return spaceTerm{node: num((v.node.Num + s.kids[1].node.Num) % 1000)}, impl.StepTook, 0
	case s.kind() == impl.TermLess && v.kind() == impl.TermNum && s.kids[1].kind() == impl.TermNum:
		return spaceTerm{node: map[bool]impl.Term{true: trueTerm, false: falseTerm}[v.node.Num < s.kids[1].node.Num]}, impl.StepTook, 0
	}
	return spaceTerm{}, impl.StepStuck, 0
}

// expectSpaceEvaluation compares EvalSpace of a valid term with casts with the
// rules of the document, with all amounts of fuel that matter. It returns the
// terms that are reached, and the code and label at the end.
func expectSpaceEvaluation(t *testing.T, e impl.Term) ([]spaceTerm, int, int) {
	t.Helper()
	reached := []spaceTerm{withCoercions(e)}
	next, code, label := reached[0].step()
	for code == impl.StepTook && len(reached) <= 300 {
		reached = append(reached, next)
		next, code, label = next.step()
	}
	if steps := len(reached) - 1; code == impl.StepTook {
		code = impl.StepMuch
	} else if steps > 0 {
		expectSpaceResult(t, e, steps-1, reached, impl.StepMuch, 0)
	}
	for _, fuel := range []int{0, 1, len(reached) / 2, 299, 300} {
		if fuel < len(reached)-1 {
			expectSpaceResult(t, e, fuel, reached, impl.StepMuch, 0)
		}
	}
	for _, fuel := range []int{len(reached) - 1, len(reached), 300} {
		if fuel <= 300 {
			expectSpaceResult(t, e, fuel, reached, code, label)
		}
	}
	return reached, code, label
}

// expectSpaceResult checks EvalSpace with an amount of fuel, if all the fuel is used up or the evaluation has ended.
func expectSpaceResult(t *testing.T, e impl.Term, fuel int, reached []spaceTerm, code, label int) {
	t.Helper()
	want := spaceResult{code: code, label: label}
	if code == impl.StepValue {
		want.text = reached[len(reached)-1].text()
	}
	for _, s := range reached[:min(fuel+1, len(reached))] {
		want.height = max(want.height, s.height())
	}
	if got := spaceOf(e, fuel); got != want {
		t.Fatalf("EvalSpace(%s, %d) = %v, not %v", textOf(e), fuel, got, want)
	}
}

// expectSpaceSteps checks that an evaluation takes this many steps, and its results.
func expectSpaceSteps(t *testing.T, text string, steps int, want spaceResult) {
	t.Helper()
	e := parseCast(t, text)
	for _, fuel := range []int{steps, steps + 1, 300} {
		if got := spaceOf(e, fuel); got != want {
			t.Errorf("EvalSpace(%s, %d) = %v, not %v", text, fuel, got, want)
		}
	}
	for fuel := range steps {
		if got := spaceOf(e, fuel); got.code != impl.StepMuch || got.text != "" || got.label != 0 {
			t.Errorf("EvalSpace(%s, %d) = %v, although there are %d steps", text, fuel, got, steps)
		}
	}
	if reached, _, _ := expectSpaceEvaluation(t, e); len(reached) != steps+1 {
		t.Errorf("%s takes %d steps by the document, not %d", text, len(reached)-1, steps)
	}
}

// expectNoSpace checks the result of every function of the chapter for a term with casts that is not valid.
func expectNoSpace(t *testing.T, what string, bad impl.Term) {
	t.Helper()
	for _, fuel := range []int{-1, 0, 1, 300, 301} {
		if got, casts := spaceOf(bad, fuel), impl.PendingCasts(bad, fuel); got != noSpace || casts != 0 {
			t.Errorf("%s: EvalSpace = %v, PendingCasts = %d", what, got, casts)
		}
	}
	if height := impl.TermHeight(bad); height != 0 {
		t.Errorf("%s: TermHeight = %d", what, height)
	}
	expectNoBlame(t, what, bad)
}

// expectNoSpaceRun checks RunSpace of a term that is not valid or has no type.
func expectNoSpaceRun(t *testing.T, what string, bad impl.Term) {
	t.Helper()
	for _, fuel := range []int{-1, 0, 1, 300, 301} {
		if text, code, label := impl.RunSpace(bad, fuel); text != "" || code != impl.StepStuck || label != 0 {
			t.Errorf("%s: RunSpace = %q, %d, %d", what, text, code, label)
		}
	}
}

// expectSpaceRun checks RunSpace of a term with a type and MaxFuel.
func expectSpaceRun(t *testing.T, text, want string, code, label int) {
	t.Helper()
	got, gotCode, gotLabel := impl.RunSpace(parseTerm(t, text), 300)
	if got != want || gotCode != code || gotLabel != label {
		t.Errorf("RunSpace(%s) = %q, %d, %d", text, got, gotCode, gotLabel)
	}
}

func TestSpaceOfPlainTerms(t *testing.T) {
	for _, c := range []struct {
		text, want string
		steps      int
		code       int
	}{
		{"7", "7", 0, impl.StepValue},
		{"T", "T", 0, impl.StepValue},
		{"!x:I.(1+2)", "function", 0, impl.StepValue},
		{"[1,[T,!x:?.y]]", "pair", 0, impl.StepValue},
		{"(999+2)", "1", 1, impl.StepValue},
		{"(1<2)", "T", 1, impl.StepValue},
		{"(2<2)", "F", 1, impl.StepValue},
		{"((1+2)+(3+4))", "10", 3, impl.StepValue},
		{"{(1<2)?(1+2):(3 4)}", "3", 3, impl.StepValue},
		{"{(2<1)?x:[(1+2),F]}", "pair", 3, impl.StepValue},
		{"(!x:I.[x,!x:B.x] (1+2))", "pair", 2, impl.StepValue},
		{"((!x:I.!y:I.(x+y) 2) 3)", "5", 3, impl.StepValue},
		{"$[(1+2),(3+4)]", "3", 3, impl.StepValue},
		{"%[(1+2),(3+4)]", "7", 3, impl.StepValue},
		{"x", "", 0, impl.StepStuck},
		{"(1 2)", "", 0, impl.StepStuck},
		{"(1+T)", "", 0, impl.StepStuck},
		{"((1+2)<T)", "", 1, impl.StepStuck},
		{"{1?2:3}", "", 0, impl.StepStuck},
		{"$T", "", 0, impl.StepStuck},
		{"%!x:I.x", "", 0, impl.StepStuck},
		{"[(1+2),(x+(1+2))]", "", 1, impl.StepStuck},
	} {
		expectSpaceSteps(t, c.text, c.steps, spaceResult{text: c.want, code: c.code})
	}
}

// A converted plain value has the text of the latter, whatever its coercion is.
func TestSpaceValues(t *testing.T) {
	for _, c := range []struct {
		text, want string
		height     int
	}{
		{"(1:I~?#1)", "1", 1},
		{"(F:B~?#-1)", "F", 1},
		{"(!x:?.x:(?>?)~?#1)", "function", 2},
		{"(!x:I.x:(I>I)~?#1)", "function", 2},
		{"([1,2]:(I*I)~?#1)", "pair", 2},
		{"(!x:I.x:(I>I)~(?>?)#1)", "function", 2},
		{"(!x:I.x:(I>I)~(I>I)#1)", "function", 2},
		{"(!x:?.x:((I>?)>?)~((I>B)>I)#-9)", "function", 3},
		{"([1,2]:(I*I)~(?*?)#1)", "pair", 2},
		{"([1,2]:(I*I)~(I*I)#1)", "pair", 2},
		{"([1,(!x:I.x:(I>I)~(?>?)#1)]:(I*(I>(I*I)))~(I*?)#1)", "pair", 4},
		{"[(1:I~?#1),(!x:?.x:(?>?)~?#2)]", "pair", 2},
		// Plain values that are not what the types say.
		{"(T:I~?#1)", "T", 1},
		{"(12:(?>?)~?#1)", "12", 2},
		{"(1:(I*I)~(?*?)#1)", "1", 2},
		{"(!x:I.x:(I*I)~(?*?)#1)", "function", 2},
		{"([1,2]:(I>I)~(?>?)#1)", "pair", 2},
		{"(F:(I>I)~(?>?)#1)", "F", 2},
		// A body is not evaluated, but its coercions count for the height.
		{"!x:?.((x:?~((I>I)>I)#1) 1)", "function", 3},
		{"!x:?.((1:I~?#1):?~B#2)", "function", 1},
		{"[7,!x:?.[x,(x:?~(I>(B*(I>I)))#1)]]", "pair", 4},
	} {
		expectSpaceSteps(t, c.text, 0, spaceResult{text: c.want, height: c.height})
		if got := impl.TermHeight(parseCast(t, c.text)); got != c.height {
			t.Errorf("TermHeight(%s) = %d", c.text, got)
		}
	}
}

// spaceCase is a term with casts, the number of its steps, and its results.
type spaceCase struct {
	text   string
	steps  int
	want   string
	code   int
	label  int
	height int
}

func expectSpaceCases(t *testing.T, list []spaceCase) {
	t.Helper()
	for _, c := range list {
		expectSpaceSteps(t, c.text, c.steps, spaceResult{c.want, c.code, c.label, c.height})
	}
}

const (
	valued = impl.StepValue
	blamed = impl.StepBlame
	stuck  = impl.StepStuck
)

func TestSpaceMerges(t *testing.T) {
	expectSpaceCases(t, []spaceCase{
		{"((1:I~?#1):?~I#2)", 2, "1", valued, 0, 1},
		{"((1:I~?#1):?~?#2)", 1, "1", valued, 0, 1},
		{"((1:I~I#1):I~?#2)", 1, "1", valued, 0, 1},
		{"((1:I~I#1):I~I#2)", 2, "1", valued, 0, 1},
		{"((1:?~?#1):?~?#2)", 2, "1", valued, 0, 1},
		{"((1:I~?#1):?~B#2)", 1, "", blamed, 2, 1},
		{"((1:I~?#1):?~B#-2)", 1, "", blamed, -2, 1},
		{"((1:I~?#1):?~(I>B)#2)", 1, "", blamed, 2, 2},
		{"((!x:?.x:(?>?)~?#1):?~(I*B)#2)", 1, "", blamed, 2, 2},
		{"((!x:?.x:(?>?)~?#1):?~(I>B)#2)", 1, "function", valued, 0, 2},
		{"(([1,2]:(I*I)~?#1):?~(?*I)#2)", 1, "pair", valued, 0, 2},
		{"((!x:I.x:(I>I)~?#1):?~(B>B)#2)", 1, "function", valued, 0, 2},
		// A projection stays until a coercion for it is there.
		{"((1:?~I#1):I~?#2)", 1, "", stuck, 0, 1},
		{"((1:?~?#1):?~I#2)", 1, "", stuck, 0, 1},
		// The outermost two are composed first.
		{"((((1:I~?#1):?~I#2):I~?#3):?~B#4)", 3, "", blamed, 4, 1},
		{"((((1:I~?#1):?~B#2):B~?#3):?~I#4)", 3, "", blamed, 2, 1},
		{"(((1:I~?#1):?~I#2):I~?#3)", 2, "1", valued, 0, 1},
		{"(((1:I~?#1):?~B#2):I~?#3)", 0, "", stuck, 0, 1},
		{"(((1:I~?#1):?~B#2):I~I#3)", 0, "", stuck, 0, 1},
		// Two in succession are composed before anything is evaluated in them.
		{"(((1+2):I~?#1):?~I#2)", 3, "3", valued, 0, 1},
		{"[((1:I~?#1):?~I#2),((1+2):I~?#3)]", 3, "pair", valued, 0, 1},
		{"(([(1+2),((T:B~?#1):?~B#2)]:(I*B)~?#3):?~(?*?)#4)", 4, "pair", valued, 0, 2},
	})
}

// A failure that is found when coercions are composed is blamed when the value is there, and not before.
func TestSpaceFailuresWaitForTheValue(t *testing.T) {
	loop := "(!x:?.(x x) !x:?.(x x))"
	expectSpaceCases(t, []spaceCase{
		{"(((1+2):I~?#1):?~B#2)", 2, "", blamed, 2, 1},
		{"((((1+2)+(3+4)):I~?#1):?~B#2)", 4, "", blamed, 2, 1},
		{"((x:I~?#1):?~B#2)", 1, "", stuck, 0, 1},
		{"(((1 2):I~?#1):?~B#2)", 1, "", stuck, 0, 1},
		{"((({(1<2)?1:2}:I~?#1):?~B#2)+(1 2))", 3, "", blamed, 2, 1},
		// Another failure, of the value, comes first.
		{"(([((1:I~?#3):?~B#4),2]:(B*I)~?#1):?~I#2)", 2, "", blamed, 4, 2},
		{"((((1:I~?#3):?~B#4):B~?#1):?~I#2)", 3, "", blamed, 4, 1},
		{"((([1,((1:I~?#3):?~B#4)]:(I*B)~?#5):?~I#1):I~?#2)", 3, "", blamed, 4, 2},
		// In a function that is not applied, and in a branch that is not chosen, nothing fails.
		{"!x:?.((1:I~?#1):?~B#2)", 0, "function", valued, 0, 1},
		{"{T?1:((1:I~?#1):?~B#2)}", 1, "1", valued, 0, 1},
		{"{F?((1:I~?#1):?~B#2):1}", 1, "1", valued, 0, 1},
		{"(!x:?.((x:?~I#1):I~?#2) !x:I.x)", 2, "", stuck, 0, 1},
	})
	// A value that never comes is not blamed.
	e := parseCast(t, "(("+loop+":I~?#1):?~B#2)")
	for _, fuel := range []int{0, 1, 2, 299, 300} {
		if got := spaceOf(e, fuel); got != (spaceResult{code: impl.StepMuch, height: 1}) {
			t.Errorf("a failure of a value that never comes: %v", got)
		}
	}
	expectSpaceEvaluation(t, e)
	for text, want := range map[string]int{"(((" + loop + ":I):?):B)": impl.StepMuch, "(((1:I):?):B)": blamed} {
		if _, code, _ := impl.RunSpace(parseTerm(t, text), 300); code != want {
			t.Errorf("RunSpace(%s) has the code %d", text, code)
		}
	}
}

// The coercion of a variable in a body meets that of the value which is put in.
func TestSpaceCoercionsOfVariables(t *testing.T) {
	expectSpaceCases(t, []spaceCase{
		{"(!x:I.(x:I~?#1) 1)", 1, "1", valued, 0, 1},
		{"(!x:?.(x:?~I#1) (1:I~?#2))", 3, "1", valued, 0, 1},
		{"(!x:?.(x:?~I#1) (T:B~?#2))", 2, "", blamed, 1, 1},
		{"(!x:?.((x:?~I#1)+(x:?~I#3)) (4:I~?#2))", 6, "8", valued, 0, 1},
		{"(!x:?.{(x:?~B#1)?(x:?~I#3):2} (T:B~?#2))", 5, "", blamed, 3, 1},
		{"(!x:?.((x:?~I#1):I~?#3) (T:B~?#2))", 3, "", blamed, 1, 1},
		{"(!x:?.((x:?~I#1):I~?#3) (5:I~?#2))", 3, "5", valued, 0, 1},
		{"(!x:?.!y:?.[(x:?~I#1),(y:?~B#2)] (T:B~?#3))", 1, "function", valued, 0, 1},
		{"(!x:(?>?).(x:(?>?)~?#1) (!y:I.y:(I>I)~(?>?)#2))", 2, "function", valued, 0, 2},
		{"(!x:(?>?).((x:(?>?)~(I>I)#1) 7) (!y:I.y:(I>I)~(?>?)#2))", 6, "7", valued, 0, 2},
		// A plain value in place of one of the unknown type.
		{"(!x:?.(x:?~I#1) 1)", 1, "", stuck, 0, 1},
		{"(!x:?.(x:?~?#1) 1)", 2, "1", valued, 0, 1},
		// An inner variable of the same name is another one.
		{"(!x:?.(!x:I.(x:I~?#1) 3) (T:B~?#2))", 2, "3", valued, 0, 1},
		// A value that is not closed comes in as it is.
		{"(!x:?.(!y:I.x 1) !z:I.(y:I~?#1))", 2, "function", valued, 0, 1},
	})
}

func TestSpaceConversionsOfPlainValues(t *testing.T) {
	expectSpaceCases(t, []spaceCase{
		{"(1:I~I#1)", 1, "1", valued, 0, 1},
		{"(T:B~B#1)", 1, "T", valued, 0, 1},
		{"(T:I~I#1)", 1, "T", valued, 0, 1},
		{"(1:?~?#1)", 1, "1", valued, 0, 1},
		{"(!x:I.x:?~?#1)", 1, "function", valued, 0, 1},
		{"([1,2]:?~?#1)", 1, "pair", valued, 0, 1},
		{"((1+2):I~?#1)", 1, "3", valued, 0, 1},
		{"((1+2):I~I#1)", 2, "3", valued, 0, 1},
		{"([(1+2),3]:(I*I)~(?*?)#1)", 1, "pair", valued, 0, 2},
		{"([((1+2):I~?#3),3]:(?*I)~(I*?)#1)", 1, "pair", valued, 0, 2},
		{"([(1+2),x]:(I*I)~(?*?)#1)", 1, "", stuck, 0, 2},
		{"((!x:?.x !x:I.x):(I>I)~(?>?)#1)", 1, "function", valued, 0, 2},
		{"((1:I~I#1)+(2:I~I#2))", 3, "3", valued, 0, 1},
		// No rule applies to a plain value that is converted by a CoProject.
		{"(1:?~I#1)", 0, "", stuck, 0, 1},
		{"(T:?~I#1)", 0, "", stuck, 0, 1},
		{"(!x:?.x:?~(?>?)#1)", 0, "", stuck, 0, 2},
		{"([1,2]:?~(I*?)#1)", 0, "", stuck, 0, 2},
		{"((1+2):?~I#1)", 1, "", stuck, 0, 1},
		// Converted values are no numbers, truth values, functions or pairs.
		{"((1:I~?#1)+2)", 0, "", stuck, 0, 1},
		{"(2<(1:I~?#1))", 0, "", stuck, 0, 1},
		{"{(T:B~?#1)?1:2}", 0, "", stuck, 0, 1},
		{"((!x:?.x:(?>?)~?#1) 2)", 0, "", stuck, 0, 2},
		{"$([1,2]:(?*?)~?#1)", 0, "", stuck, 0, 2},
	})
}

func TestSpaceApplications(t *testing.T) {
	expectSpaceCases(t, []spaceCase{
		{"((!x:I.x:(I>I)~(?>?)#5) (7:I~?#6))", 4, "7", valued, 0, 2},
		{"((!x:I.(x+1):(I>I)~(?>?)#5) (7:I~?#6))", 5, "8", valued, 0, 2},
		{"((!x:I.x:(I>I)~(?>?)#5) (T:B~?#6))", 2, "", blamed, -5, 2},
		{"((!x:I.x:(I>I)~(?>?)#-5) (T:B~?#6))", 2, "", blamed, 5, 2},
		{"((!x:?.x:(?>?)~(I>B)#5) 1)", 3, "", blamed, 5, 2},
		{"((!x:?.x:(?>?)~(I>I)#5) 1)", 4, "1", valued, 0, 2},
		{"((!x:I.x:(I>I)~(I>I)#5) (1+2))", 5, "3", valued, 0, 2},
		// The argument is evaluated first, then converted.
		{"((!x:I.x:(I>I)~(?>?)#5) ((T:B~?#6):?~I#7))", 1, "", blamed, 7, 2},
		{"((!x:I.x:(I>I)~(?>?)#5) (1 2))", 0, "", stuck, 0, 2},
		// A converted function as argument and as result.
		{"(!f:(I>I).(f 1) (!x:?.x:(?>?)~(I>I)#2))", 5, "1", valued, 0, 2},
		{"(((!x:?.!y:?.x:(?>(?>?))~(I>(B>I))#2) 1) T)", 6, "1", valued, 0, 3},
		{"(((!x:?.!y:?.y:(?>(?>?))~(I>(B>I))#2) 1) T)", 5, "", blamed, 2, 3},
		{"((!f:(?>?).f:((?>?)>(?>?))~((I>I)>(B>B))#2) !x:I.x)", 3, "function", valued, 0, 3},
		{"(((!f:(?>?).f:((?>?)>(?>?))~((I>I)>(B>B))#2) !x:I.x) T)", 4, "", blamed, 2, 3},
		// Only a function that is converted by a CoFun is applied.
		{"((1:(I>I)~(?>?)#1) 2)", 0, "", stuck, 0, 2},
		{"(([1,2]:(I>I)~(?>?)#1) (T:B~?#2))", 0, "", stuck, 0, 2},
		{"((!x:I.x:(I*I)~(?*?)#1) 2)", 0, "", stuck, 0, 2},
		{"((1:(I>I)~(?>I)#1) (T:B~?#2))", 0, "", stuck, 0, 2},
	})
}

func TestSpaceProxiesOfProxies(t *testing.T) {
	expectSpaceCases(t, []spaceCase{
		{"((!x:I.x:(I>I)~(?>?)#1):(?>?)~(B>B)#2)", 1, "function", valued, 0, 2},
		{"(((!x:I.x:(I>I)~(?>?)#1):(?>?)~(B>B)#2) T)", 2, "", blamed, -1, 2},
		{"(((!x:I.x:(I>I)~(?>?)#1):(?>?)~(I>B)#2) 4)", 4, "", blamed, 2, 2},
		{"(((!x:I.(x+1):(I>I)~(?>?)#1):(?>?)~(I>I)#2) 4)", 6, "5", valued, 0, 2},
		{"((((!x:I.(x+1):(I>I)~(?>?)#1):(?>?)~(I>I)#2):(I>I)~?#3):?~(?>I)#4)", 3, "function", valued, 0, 2},
		{"(([1,T]:(I*B)~(?*?)#1):(?*?)~(B*B)#2)", 1, "pair", valued, 0, 2},
		{"%(([1,T]:(I*B)~(?*?)#1):(?*?)~(B*B)#2)", 4, "T", valued, 0, 2},
		{"$(([1,T]:(I*B)~(?*?)#1):(?*?)~(B*B)#2)", 3, "", blamed, 2, 2},
		{"$(([1,T]:(I*B)~(?*?)#1):(?*?)~(B*B)#-2)", 3, "", blamed, -2, 2},
	})
	for _, c := range []struct {
		text, want  string
		code, label int
	}{
		{"((((!x:I.x:?):(B>?)):(?>B)) 1)", "", blamed, -3},
		{"((((!x:I.x:?):(B>?)):(?>B)) T)", "", blamed, -1},
		{"((((!x:I.x:?):(?>?)):(?>I)) 5)", "5", valued, 0},
		{"((((!x:I.x:?):(?>?)):(?>B)) 5)", "", blamed, 3},
		{"(((!x:?.x:(I>?)):(?>B)) 5)", "", blamed, 2},
		{"(((!x:?.x:(I>?)):(?>B)) T)", "", blamed, -2},
	} {
		expectSpaceRun(t, c.text, c.want, c.code, c.label)
		expectRun(t, c.text, c.want, c.code, c.label)
	}
}

func TestSpaceSelections(t *testing.T) {
	expectSpaceCases(t, []spaceCase{
		{"$([1,T]:(I*B)~(?*?)#1)", 2, "1", valued, 0, 2},
		{"%([1,T]:(I*B)~(?*?)#1)", 2, "T", valued, 0, 2},
		{"%([1,(T:B~?#2)]:(I*?)~(I*I)#1)", 3, "", blamed, 1, 2},
		{"$([1,(T:B~?#2)]:(I*?)~(I*I)#1)", 3, "1", valued, 0, 2},
		{"%([1,(T:B~?#2)]:(I*?)~(I*B)#1)", 4, "T", valued, 0, 2},
		{"$([(1+2),3]:(I*I)~(?*?)#1)", 3, "3", valued, 0, 2},
		{"$%([1,[2,3]]:(I*(I*I))~(?*(?*?))#1)", 4, "2", valued, 0, 3},
		{"%([1,T]:(?*?)~(I*I)#1)", 2, "", stuck, 0, 2},
		// Only a pair that is converted by a CoPair has parts.
		{"$(1:(I*I)~(?*?)#1)", 0, "", stuck, 0, 2},
		{"%(!x:I.x:(I*I)~(?*?)#1)", 0, "", stuck, 0, 2},
		{"$([1,2]:(I>I)~(?>?)#1)", 0, "", stuck, 0, 2},
	})
}

// Where two coercions do not fit, the term is stuck, whatever else could be done.
func TestSpaceCoercionsThatDoNotFit(t *testing.T) {
	expectSpaceCases(t, []spaceCase{
		{"((1:I~I#1):B~B#2)", 0, "", stuck, 0, 1},
		{"((1:I~I#1):?~?#2)", 0, "", stuck, 0, 1},
		{"((1:I~I#1):?~I#2)", 0, "", stuck, 0, 1},
		{"((1:?~?#1):I~I#2)", 0, "", stuck, 0, 1},
		{"((1:I~?#1):I~?#2)", 0, "", stuck, 0, 1},
		{"((1:I~?#1):I~I#2)", 0, "", stuck, 0, 1},
		{"((1:I~I#1):B~?#2)", 0, "", stuck, 0, 1},
		{"((1:?~I#1):B~B#2)", 0, "", stuck, 0, 1},
		{"((!x:I.x:(I>I)~(I>I)#1):(I*I)~(I*I)#2)", 0, "", stuck, 0, 2},
		{"((!x:I.x:(I>I)~(I>I)#1):(B>I)~(B>I)#2)", 0, "", stuck, 0, 2},
		{"(([1,2]:(I*I)~(I*I)#1):(I*B)~(I*B)#2)", 0, "", stuck, 0, 2},
		{"(((1+2):I~I#1):B~B#2)", 0, "", stuck, 0, 1},
		{"((((1:I~?#3):?~B#4):B~B#1):I~I#2)", 0, "", stuck, 0, 1},
		{"[(1+2),(((3+4):I~I#1):B~B#2)]", 1, "", stuck, 0, 1},
		{"[(1+2),[((1:I~?#3):?~B#4),((3:I~I#1):B~B#2)]]", 2, "", blamed, 4, 1},
		{"(!x:I.(x:B~B#1) (1:I~?#2))", 1, "", stuck, 0, 1},
		{"!x:I.((1:I~I#1):B~B#2)", 0, "function", valued, 0, 1},
		// A failure fits only after a coercion of its tag.
		{"(((1:I~I#1):B~?#2):?~I#3)", 1, "", stuck, 0, 1},
		{"(((T:B~B#1):B~?#2):?~I#3)", 2, "", blamed, 3, 1},
		// By casts, some of them are values.
		{"((T:B~?#1):B~?#2)", 0, "", stuck, 0, 1},
	})
}

// A composition may be deeper than a coercion that ComposeCoercions returns.
func TestSpaceCompositionsBeyondTheLimit(t *testing.T) {
	deep := parse(t, "(((?>?)>?)>?)")
	first, _ := impl.CoerceOf(anyType, deep, 1)
	second, _ := impl.CoerceOf(deep, anyType, 2)
	if c, ok := impl.ComposeCoercions(first, second); ok {
		t.Errorf("%s is not too deep", coercionText(c))
	}
	for text, want := range map[string]spaceResult{
		"(((!x:?.x:?):(((?>?)>?)>?)):?)":                                {"function", valued, 0, 4},
		"(!g:?.(g !y:?.y) (((!x:?.7:?):(((?>?)>?)>?)):?))":              {"7", valued, 0, 4},
		"(!g:?.(g !h:?.(h 3)) (((!f:?.(f !z:?.z):?):(((?>?)>?)>?)):?))": {"3", valued, 0, 4},
		"(!g:?.(g !h:?.(h 3)) (((!f:?.(f 4):?):(((?>?)>?)>?)):?))":      {"", blamed, 8, 4},
		"(!g:?.(g 5) (((!x:?.7:?):(((?>?)>?)>?)):?))":                   {"", blamed, -5, 4},
		"((([[[1,2],3],4]:?):(((?*?)*?)*?)):?)":                         {"pair", valued, 0, 4},
		"(!p:?.$$%p ((([1,[[2,3],4]]:?):(?*((?*?)*?))):?))":             {"2", valued, 0, 4},
		"(!p:?.$$$p ((([1,[[2,3],4]]:?):(((?*?)*?)*?)):?))":             {"", blamed, 5, 4},
	} {
		e := parseTerm(t, text)
		inserted, _, _ := impl.InsertCasts(e)
		reached, _, _ := expectSpaceEvaluation(t, inserted)
		deepest := 0
		for _, s := range reached {
			deepest = max(deepest, s.deepest())
		}
		if deepest <= 9 {
			t.Errorf("the coercions of %s have a depth of at most %d", text, deepest)
		}
		if got := spaceOf(inserted, 300); got != want {
			t.Errorf("EvalSpace(%s) = %v", text, got)
		}
		expectSpaceRun(t, text, want.text, want.code, want.label)
		expectRun(t, text, want.text, want.code, want.label)
	}
}

// Functions that call themselves in their last step, through casts.
func callsItself(n int) []string {
	times := strconv.Itoa(n)
	return []string{
		"(!f:?.((f f) " + times + ") !s:?.!n:?.{(n<1)?T:((s s) (n+999))})",
		"(!f:?.((f f) " + times + ") !s:?.!n:?.{(n<1)?T:((((s s) (n+999)):B):?)})",
		"(!f:?.((f f) " + times + ") !s:?.!n:I.{(n<1)?(T:?):((((s s) (n+999)):B):?)})",
		"((!s:?.(s s) !s:?.!n:?.{(n<1)?T:(((s s) (n+999)):B)}) " + times + ")",
		"(!f:?.((f f) " + times + ") !s:(?>(I>B)).!n:I.{(n<1)?T:((s s) (n+999))})",
	}
}

// By casts, such a function becomes too large; by coercions, it needs the same space for any number of calls.
func TestSpaceIsBounded(t *testing.T) {
	for i, text := range callsItself(15) {
		e := parseTerm(t, text)
		inserted, _, _ := impl.InsertCasts(e)
		few, _, _ := impl.InsertCasts(parseTerm(t, callsItself(2)[i]))
		if _, code, _ := impl.RunTerm(e, 300); code != impl.StepLarge || impl.PendingCasts(inserted, 300) < impl.PendingCasts(few, 300)+5 {
			t.Errorf("RunTerm(%s): the code is %d, with %d casts", text, code, impl.PendingCasts(inserted, 300))
		}
		expectSpaceRun(t, text, "T", valued, 0)
		most := func(e impl.Term) (nodes, pending int) {
			reached, code, _ := expectSpaceEvaluation(t, e)
			if code != valued {
				t.Errorf("%s: the code is %d", textOf(e), code)
			}
			for _, s := range reached {
				nodes, pending = max(nodes, s.nodes()), max(pending, s.pending(0))
			}
			return nodes, pending
		}
		manyNodes, manyPending := most(inserted)
		fewNodes, fewPending := most(few)
		if manyNodes != fewNodes || manyPending != fewPending || manyPending > 4 {
			t.Errorf("%s: %d and %d nodes, %d and %d coercions", text, manyNodes, fewNodes, manyPending, fewPending)
		}
	}
	// Without an end, and with a function that grows otherwise.
	for text, code := range map[string]int{
		"(!x:?.(x x) !x:?.(x x))":                                  impl.StepMuch,
		"(!x:(?>?).(x x) (!x:?.(x x):(?>(I>I))))":                  impl.StepMuch,
		"(!x:?.[(x x),1] !x:?.[(x x),1])":                          impl.StepLarge,
		"(!f:?.((f f) 90) !s:?.!n:?.{(n<1)?T:((s s) (n+999))})":    impl.StepMuch,
		"(!f:?.((f f) 9) !s:?.!n:?.{(n<1)?0:(1+((s s) (n+999)))})": valued,
	} {
		e := parseTerm(t, text)
		inserted, _, _ := impl.InsertCasts(e)
		if _, got, _ := expectSpaceEvaluation(t, inserted); got != code {
			t.Errorf("%s: the code is %d", text, got)
		}
		if _, got, _ := impl.RunSpace(e, 300); got != code {
			t.Errorf("RunSpace(%s): the code is %d", text, got)
		}
	}
}

func TestSpaceOfManyTermsWithTypes(t *testing.T) {
	count, steps, deepest := map[int]int{}, 0, 0
	terms := runnableTerms()
	for i, e := range closedCases(t) {
		if _, ok := impl.TypeOf(e); ok && i%4 == 0 {
			terms = append(terms, e)
		}
	}
	for _, e := range terms {
		inserted, _, _ := impl.InsertCasts(e)
		reached, code, _ := expectSpaceEvaluation(t, inserted)
		count[expectSameResult(t, e)]++
		steps = max(steps, len(reached)-1)
		for _, s := range reached {
			deepest = max(deepest, s.deepest())
		}
		if code == stuck {
			t.Fatalf("%s is stuck", textOf(e))
		}
	}
	if count[valued] < 1000 || count[blamed] < 500 || steps < 25 || deepest < 10 {
		t.Errorf("codes %v, at most %d steps, coercions with a depth of at most %d", count, steps, deepest)
	}
}

// expectSameResult checks that evaluations by coercions and by casts have the
// same result, if both end, and that no coercion is higher than those of the
// casts at the beginning. It returns the code.
func expectSameResult(t *testing.T, e impl.Term) int {
	t.Helper()
	inserted, _, ok := impl.InsertCasts(e)
	if !ok {
		t.Fatalf("%s has no type", textOf(e))
	}
	text, code, label := impl.RunTerm(e, 300)
	spaceText, spaceCode, spaceLabel := impl.RunSpace(e, 300)
	got := spaceOf(inserted, 300)
	if got != (spaceResult{spaceText, spaceCode, spaceLabel, got.height}) {
		t.Fatalf("%s: RunSpace = %q, %d, %d, but EvalSpace = %v", textOf(e), spaceText, spaceCode, spaceLabel, got)
	}
	if got.height != impl.TermHeight(inserted) {
		t.Fatalf("%s: the height is %d, at the beginning %d", textOf(e), got.height, impl.TermHeight(inserted))
	}
	limited := func(code int) bool { return code == impl.StepLarge || code == impl.StepMuch }
	if !limited(code) && !limited(spaceCode) && (text != spaceText || code != spaceCode || label != spaceLabel) {
		t.Fatalf("%s: RunTerm = %q, %d, %d, but RunSpace = %q, %d, %d", textOf(e), text, code, label, spaceText, spaceCode, spaceLabel)
	}
	return spaceCode
}

// Terms with casts that may have no type are evaluated as the document states, too.
func TestSpaceOfManyTermsWithCasts(t *testing.T) {
	r := rand.New(rand.NewSource(31))
	count := map[int]int{}
	list := mixedCasts()
	for _, e := range runnableTerms() {
		inserted, _, _ := impl.InsertCasts(e)
		if changed := changedTypes(r, inserted, 5); impl.CastValid(changed) {
			list = append(list, changed)
		}
	}
	for _, e := range list {
		_, code, _ := expectSpaceEvaluation(t, e)
		count[code]++
		if fuel := r.Intn(8); impl.PendingCasts(e, fuel) != pendingCasts(e, fuel) {
			t.Fatalf("PendingCasts(%s, %d) = %d", textOf(e), fuel, impl.PendingCasts(e, fuel))
		}
		if got := impl.TermHeight(e); got != withCoercions(e).height() {
			t.Fatalf("TermHeight(%s) = %d", textOf(e), got)
		}
	}
	if count[valued] < 500 || count[blamed] < 200 || count[stuck] < 200 {
		t.Errorf("codes %v", count)
	}
}

// All casts between types up to a depth of 2, of values and of what casts make of them.
func TestSpaceForAllTypes(t *testing.T) {
	of := func(x impl.Type) impl.Term { return castOf(castOf(num(1), intType, anyType, 1), anyType, x, 2) }
	for _, from := range allTypes(2) {
		for _, to := range allTypes(2) {
			if !impl.Consistent(from, to) {
				continue
			}
			for _, v := range []impl.Term{num(1), trueTerm, lam("x", anyType, name("x")), node(impl.TermPair, num(1), trueTerm), of(from)} {
				e := castOf(v, from, to, -3)
				for _, e := range []impl.Term{e, node(impl.TermApp, e, num(5)), node(impl.TermFst, e), node(impl.TermSnd, e), castOf(e, to, from, 4), node(impl.TermApp, lam("y", to, castOf(name("y"), to, from, 5)), e)} {
					expectSpaceEvaluation(t, e)
				}
			}
		}
	}
}

func TestRunSpace(t *testing.T) {
	for _, c := range []struct {
		text, want  string
		code, label int
	}{
		{"7", "7", valued, 0},
		{"(!x:?.(x+1) 998)", "999", valued, 0},
		{"(!x:?.(x+1) T)", "", blamed, 1},
		{"((7:?):?)", "7", valued, 0},
		{"(T:?)", "T", valued, 0},
		{"[(1+2),(T:?)]", "pair", valued, 0},
		{"!x:?.(x x)", "function", valued, 0},
		{"((!x:I.(x+1):?):(?>I))", "function", valued, 0},
		{"(((!x:I.(x+1):?):(?>I)) 4)", "5", valued, 0},
		{"(((!x:I.(x+1):?):(?>I)) T)", "", blamed, -1},
		{"%(([1,T]:?):(I*B))", "T", valued, 0},
		{"$(([1,T]:?):(B*B))", "", blamed, 2},
		{"(([1,T]:?):I)", "", blamed, 2},
		{"((!x:I.x:?):(B>I))", "function", valued, 0},
		{"(((!x:I.x:?):(B>I)) T)", "", blamed, -1},
		{"((!x:?.x:(I>B)) 1)", "", blamed, 1},
		{"(!f:(I>B).f !x:?.x)", "function", valued, 0},
		{"(!f:(?>I).(f T) !x:I.(x+1))", "", blamed, -2},
		{"(!f:?.(f 1) !x:?.(x+1))", "2", valued, 0},
		{"(!x:?.(x x) !x:?.(x x))", "", impl.StepMuch, 0},
		{"(!x:?.[(x x),1] !x:?.[(x x),1])", "", impl.StepLarge, 0},
	} {
		expectSpaceRun(t, c.text, c.want, c.code, c.label)
		expectSameResult(t, parseTerm(t, c.text))
	}
	for _, c := range []struct {
		text  string
		fuel  int
		want  string
		code  int
		label int
	}{
		{"7", 0, "7", valued, 0},
		{"(1+2)", 0, "", impl.StepMuch, 0},
		{"(1+2)", 1, "3", valued, 0},
		{"((1:?):I)", 1, "", impl.StepMuch, 0},
		{"((1:?):I)", 2, "1", valued, 0},
		{"((1:?):B)", 0, "", impl.StepMuch, 0},
		{"((1:?):B)", 1, "", blamed, 2},
		{"((1:?):B)", 300, "", blamed, 2},
		{"(1+2)", -1, "", stuck, 0},
		{"(1+2)", 301, "", stuck, 0},
		{"7", math.MinInt, "", stuck, 0},
		{"7", math.MaxInt, "", stuck, 0},
		{"((1:?):B)", 1 << 32, "", stuck, 0},
	} {
		text, code, label := impl.RunSpace(parseTerm(t, c.text), c.fuel)
		if text != c.want || code != c.code || label != c.label {
			t.Errorf("RunSpace(%s, %d) = %q, %d, %d", c.text, c.fuel, text, code, label)
		}
	}
}

// Functions for terms with casts that are not valid, and RunSpace for terms without a type; more of them are in the tests of chapters 2 to 5.
func TestSpaceOfInvalidTerms(t *testing.T) {
	for what, bad := range map[string]impl.Term{
		"the zero value":               {},
		"a TermAs":                     as(num(1), anyType),
		"a TermAs that is not reached": node(impl.TermIf, trueTerm, num(1), as(num(1), anyType)),
		"a cast of inconsistent types": castOf(num(1), intType, boolType, 1),
		"a cast without a label":       castOf(num(1), intType, anyType, 0),
		"a cast with a large label":    castOf(num(1), intType, anyType, 100),
		"a cast with a number":         {Kind: impl.TermCast, Num: 1, From: intType, Type: anyType, Label: 1, Kids: []impl.Term{num(1)}},
		"a number that is too large":   num(1000),
		"too many nodes":               wideCast(201),
		"too deep":                     deepTerm(impl.TermCast, 0, 41),
		"a term that contains itself":  selfTerm(impl.TermPair, 2),
	} {
		expectNoSpace(t, what, bad)
	}
	for _, text := range []string{"(1 2)", "x", "(!x:I.(x+1) T)", "{T?1:F}", "(1:B)", "[1,(T+1)]", "(!x:?.1 x)"} {
		expectNoSpaceRun(t, text, parseTerm(t, text))
	}
	expectNoSpaceRun(t, "a cast", castOf(num(1), intType, anyType, 1))
	expectNoSpaceRun(t, "the zero value", impl.Term{})
	expectNoSpaceRun(t, "too many nodes", wideTerm(31))
	// Where the limits are reached, but not passed.
	for _, e := range []impl.Term{wideCast(200), deepTerm(impl.TermCast, 0, 40), deepTerm(impl.TermPair, 1, 40), deepTerm(impl.TermLam, 0, 40)} {
		expectSpaceEvaluation(t, e)
	}
}

func TestSpaceFuel(t *testing.T) {
	for steps, e := range map[int]impl.Term{
		0:   num(7),
		1:   castOf(num(1), intType, intType, 1),
		7:   sumOf(7),
		99:  sumOf(99),
		260: node(impl.TermPair, countdown(t, 51), num(1)),
		299: node(impl.TermPair, countdown(t, 51), sumOf(39)),
		300: node(impl.TermPair, countdown(t, 51), sumOf(40)),
	} {
		if reached, code, _ := expectSpaceEvaluation(t, e); len(reached) != steps+1 || code != valued {
			t.Fatalf("%s has %d steps, not %d, and the code %d", textOf(e), len(reached)-1, steps, code)
		}
		if got := spaceOf(e, 300); got.code != valued {
			t.Errorf("%d steps: %v", steps, got)
		}
		for fuel := range steps {
			if got := spaceOf(e, fuel); got.code != impl.StepMuch || got.text != "" || got.label != 0 {
				t.Errorf("%d steps with the fuel %d: %v", steps, fuel, got)
			}
		}
	}
	// One step too many for any fuel.
	over := node(impl.TermPair, countdown(t, 51), sumOf(41))
	if got := spaceOf(over, 300); got.code != impl.StepMuch {
		t.Errorf("301 steps: %v", got)
	}
	expectSpaceEvaluation(t, over)
	for _, fuel := range []int{-1, -300, 301, 302, 1000, math.MinInt, math.MaxInt, 1 << 32, -1 << 32} {
		for _, e := range []impl.Term{num(7), name("x"), parseCast(t, "((1:I~?#1):?~B#2)"), over} {
			if got := spaceOf(e, fuel); got != noSpace || impl.PendingCasts(e, fuel) != 0 {
				t.Errorf("EvalSpace(%s, %d) = %v, PendingCasts = %d", textOf(e), fuel, got, impl.PendingCasts(e, fuel))
			}
		}
	}
}

func TestSpaceStepsThatAreTooLarge(t *testing.T) {
	expectLimit := func(what string, fits, over impl.Term) {
		t.Helper()
		reached, code, _ := expectSpaceEvaluation(t, fits)
		if len(reached) < 2 || reached[1].nodes() != 200 || code == impl.StepLarge {
			t.Errorf("%s: the code is %d after %d steps", what, code, len(reached)-1)
		}
		reached, code, _ = expectSpaceEvaluation(t, over)
		if want := (spaceResult{code: impl.StepLarge, height: reached[0].height()}); len(reached) != 1 || code != impl.StepLarge || spaceOf(over, 0) != want || spaceOf(over, 300) != want {
			t.Errorf("%s: EvalSpace = %v and %v", what, spaceOf(over, 0), spaceOf(over, 300))
		}
	}
	values := func(count int) impl.Term { return lam("y", anyType, wideCast(count-1)) }
	twice := func(value impl.Term) impl.Term {
		return node(impl.TermApp, lam("x", anyType, node(impl.TermPair, node(impl.TermPair, name("x"), num(1)), name("x"))), value)
	}
	expectLimit("a substitution", node(impl.TermFst, twice(values(98))), node(impl.TermFst, twice(values(99))))
	shape := fun(intType, intType)
	converted := func(count int) impl.Term { return castOf(values(count-1), shape, anyType, 1) }
	expectLimit("a substitution of a converted value", node(impl.TermSnd, twice(converted(98))), node(impl.TermSnd, twice(converted(99))))
	apply := func(count int) impl.Term {
		return node(impl.TermApp, castOf(values(count), shape, fun(anyType, anyType), 1), num(1))
	}
	expectLimit("a converted function", apply(196), apply(197))
	large := parse(t, "(((I*I)*(I*I))*((I*I)*(I*I)))")
	wide := func(count int) impl.Term {
		return node(impl.TermFst, twice(castOf(lam("y", anyType, wideTerm(count-2)), large, anyType, 1)))
	}
	expectLimit("a large coercion", wide(98), wide(99))
	// A step may make more steps too large, and is not counted where it does.
	for _, text := range []string{"(!x:?.[(x x),1] !x:?.[(x x),1])", "(!x:?.[(1:I~?#1),(x x)] !x:?.[((2:I~?#3):?~I#4),(x x)])"} {
		e := parseCast(t, text)
		reached, code, _ := expectSpaceEvaluation(t, e)
		last := len(reached) - 1
		if got := spaceOf(e, last); code != impl.StepLarge || last < 10 || got.code != impl.StepLarge || spaceOf(e, last-1).code != impl.StepMuch {
			t.Errorf("%s: %v after %d steps", text, got, last)
		}
	}
}

// The depth of a term is not limited while it is evaluated.
func TestSpaceDepthIsNotLimited(t *testing.T) {
	body := name("x")
	for range 37 {
		body = node(impl.TermPair, num(1), body)
	}
	e := node(impl.TermApp, lam("x", anyType, body), deepTerm(impl.TermPair, 1, 39))
	if got := evaluationOf(e, 300); got.code != impl.StepLarge {
		t.Errorf("EvalCast of a term that becomes too deep: %v", got)
	}
	if got := spaceOf(e, 300); got != (spaceResult{text: "pair"}) {
		t.Errorf("EvalSpace of a term that becomes too deep: %v", got)
	}
	expectSpaceEvaluation(t, e)
	// The number of nodes ends this one, after more than 40 levels.
	reached, code, _ := expectSpaceEvaluation(t, parseCast(t, "(!x:?.[1,(x x)] !x:?.[1,(x x)])"))
	if code != impl.StepLarge || len(reached) < 90 {
		t.Errorf("a term that becomes ever deeper: the code is %d after %d steps", code, len(reached)-1)
	}
}

func TestTermHeight(t *testing.T) {
	for text, want := range map[string]int{
		"7": 0, "x": 0, "[1,!x:(I>I).x]": 0, "(1:I~?#1)": 1, "(1:I~I#1)": 1, "(x:?~?#-1)": 1, "(x:?~B#1)": 1,
		"(!x:I.x:(I>I)~?#1)": 2, "(x:?~(I>I)#1)": 2, "(x:(I>I)~(I>I)#1)": 2, "(x:(?>?)~?#1)": 2, "(x:(I*(I>I))~?#1)": 3, "(x:(I*(?>?))~(I*?)#1)": 3,
		"(x:(I*?)~(I*((I>B)>I))#1)": 4, "(x:(?>?)~((I>(I*I))>?)#1)": 4, "(x:(((I>I)>I)>I)~?#1)": 4, "(x:?~(I>(I>(I>I)))#1)": 4,
		"[(1:I~?#1),(x:(I>I)~?#2)]": 2, "[(x:(I>I)~?#2),(1:I~?#1)]": 2, "((((1:I~?#1):?~I#2):I~?#3):?~B#4)": 1, "((x:(I>I)~?#1):?~I#2)": 2, "((1:I~?#1):?~(I>I)#2)": 2,
		"!x:I.x": 0, "!x:?.(x:?~(I>(I*B))#1)": 3, "{T?1:(x:?~(I>B)#1)}": 2, "(!x:I.(x:I~?#1) (y:?~((I>I)>I)#1))": 3, "(!x:I.x:I~?#1)": 1,
	} {
		e := parseCast(t, text)
		if got := impl.TermHeight(e); got != want || withCoercions(e).height() != want {
			t.Errorf("TermHeight(%s) = %d, not %d", text, got, want)
		}
		if got := spaceOf(e, 0); got.height != want {
			t.Errorf("EvalSpace(%s, 0) = %v, not the height %d", text, got, want)
		}
	}
	if height := impl.TermHeight(deepTerm(impl.TermCast, 0, 40)); height != 1 {
		t.Errorf("the height of 39 casts is %d", height)
	}
}

// The height is that of all terms that are reached: that of the first one, which may be gone at the end.
func TestSpaceHeight(t *testing.T) {
	for _, c := range []struct {
		text        string
		first, last int
	}{
		{"{T?1:(x:?~(I>B)#1)}", 2, 0},
		{"{F?(x:?~(I>B)#1):(1:I~?#1)}", 2, 1},
		{"$[1,(!x:I.x:(I>I)~?#1)]", 2, 0},
		{"(!f:?.2 (!x:I.x:(I>(I>I))~?#1))", 3, 0},
		{"((!x:?.x:(?>?)~(I>I)#5) 1)", 2, 0},
		{"((!x:I.x:(I>I)~(?>?)#5) (1:I~?#5))", 2, 1},
		{"((!x:I.x:(I>I)~?#1):?~(?>I)#2)", 2, 2},
		{"((1:I~?#1):?~I#2)", 1, 0},
		{"((1+2)+(3+4))", 0, 0},
		{"(1:I~?#1)", 1, 1},
	} {
		e := parseCast(t, c.text)
		reached, code, _ := expectSpaceEvaluation(t, e)
		last := len(reached) - 1
		if reached[0].height() != c.first || reached[last].height() != c.last || code != valued {
			t.Errorf("%s: heights from %d to %d, code %d", c.text, reached[0].height(), reached[last].height(), code)
		}
		for fuel := range last + 2 {
			if got := spaceOf(e, fuel); got.height != c.first {
				t.Errorf("EvalSpace(%s, %d) = %v", c.text, fuel, got)
			}
		}
	}
}

// pendingCasts returns PendingCasts by the rules of the document.
func pendingCasts(e impl.Term, fuel int) int {
	most, code := 0, impl.StepTook
	for ; fuel >= 0 && code == impl.StepTook; fuel-- {
		for _, x := range everyNode(e) {
			count := 0
			for ; x.Kind == impl.TermCast; x = x.Kids[0] {
				count++
			}
			most = max(most, count)
		}
		e, code, _ = impl.StepCast(e)
	}
	return most
}

func TestPendingCasts(t *testing.T) {
	for _, c := range []struct {
		text string
		want []int
	}{
		{"7", []int{0, 0, 0}},
		{"x", []int{0, 0}},
		{"((1+2)+3)", []int{0, 0, 0, 0}},
		{"(1:I~?#1)", []int{1, 1}},
		{"(x:I~?#1)", []int{1, 1}},
		{"((((1:I~?#1):?~I#2):I~?#3):?~B#4)", []int{4, 4, 4}},
		{"[((1:I~?#1):?~I#2),(2:I~?#3)]", []int{2, 2, 2}},
		{"([((1:I~?#1):?~I#2),(2:I~?#3)]:(I*?)~(I*I)#1)", []int{2, 2}},
		{"((((1:I~?#1)+2):I~?#1):?~I#2)", []int{2}},
		{"{T?1:(((x:?~I#1):I~I#2):I~?#3)}", []int{3, 3}},
		{"!x:?.((x:?~I#1):I~?#3)", []int{2, 2}},
		{"(!x:?.(x:?~I#1) (1:I~?#2))", []int{1, 2, 2, 2}},
		{"(!x:?.(x:?~I#1) ((1:I~I#3):I~?#2))", []int{2, 2, 2}},
		{"(!x:?.((x:?~I#1):I~?#4) (((1:I~I#3):I~I#3):I~?#2))", []int{3, 3, 3, 3, 3}},
		{"(!x:?.((x:?~I#1):I~?#4) (1:I~?#2))", []int{2, 3, 3}},
		{"(!x:I.x:(I>I)~?#1)", []int{1, 2, 2}},
		{"((!x:?.x:(?>?)~?#1):?~(I>I)#2)", []int{2, 3, 3}},
		{"((!x:I.x:(I>I)~?#1):?~(I>I)#2)", []int{2, 3, 4, 4, 4}},
		{"((!x:I.x:(I>I)~(?>?)#1) ((7:I~?#2):?~?#3))", []int{2, 2, 2}},
		{"((!x:I.x:(I>I)~(?>?)#1) (7:I~?#2))", []int{1, 2, 2}},
	} {
		e := parseCast(t, c.text)
		for fuel, want := range c.want {
			if got := impl.PendingCasts(e, fuel); got != want || pendingCasts(e, fuel) != want {
				t.Errorf("PendingCasts(%s, %d) = %d, not %d", c.text, fuel, got, want)
			}
		}
		if got, want := impl.PendingCasts(e, 300), pendingCasts(e, 300); got != want {
			t.Errorf("PendingCasts(%s, 300) = %d, not %d", c.text, got, want)
		}
	}
	if got := impl.PendingCasts(deepTerm(impl.TermCast, 0, 40), 300); got != 39 {
		t.Errorf("PendingCasts of 39 casts = %d", got)
	}
	// A term that would be too large is not reached.
	for i, text := range callsItself(60) {
		inserted, _, _ := impl.InsertCasts(parseTerm(t, text))
		for _, fuel := range []int{0, 10, 50, 100, 299, 300} {
			if got := impl.PendingCasts(inserted, fuel); got != pendingCasts(inserted, fuel) {
				t.Errorf("%d: PendingCasts with the fuel %d is %d", i, fuel, got)
			}
		}
	}
}

func TestSpaceArgumentsAreNotChanged(t *testing.T) {
	terms := []impl.Term{}
	for i, e := range runnableTerms() {
		if inserted, _, _ := impl.InsertCasts(e); i%10 == 0 {
			terms = append(terms, inserted)
		}
	}
	for _, plain := range append(terms, oneOfEach()...) {
		e := roomyTerm(plain)
		want := spaceOf(plain, 300)
		for range 2 {
			if got := spaceOf(e, 300); got != want {
				t.Fatalf("EvalSpace(%s, 300) = %v, not %v", textOf(plain), got, want)
			}
			impl.TermHeight(e)
			impl.PendingCasts(e, 300)
			impl.RunSpace(e, 300)
		}
		if !impl.TermSame(e, plain) || marked(e) {
			t.Fatalf("%s has been changed", textOf(plain))
		}
	}
}
