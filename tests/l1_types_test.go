package tests

import (
	"strings"
	"testing"

	"loop.example/gradual/impl"
)

// Promise 1: Types are ordered by precision, in which consistent types have a
// meet and any two types have a join.

var (
	anyType  = impl.Type{Kind: impl.TypeAny}
	intType  = impl.Type{Kind: impl.TypeInt}
	boolType = impl.Type{Kind: impl.TypeBool}
)

func fun(a, b impl.Type) impl.Type {
	return impl.Type{Kind: impl.TypeFun, Kids: []impl.Type{a, b}}
}

func pair(a, b impl.Type) impl.Type {
	return impl.Type{Kind: impl.TypePair, Kids: []impl.Type{a, b}}
}

// allTypes returns the types with a depth of at most depth.
func allTypes(depth int) []impl.Type {
	list := []impl.Type{anyType, intType, boolType}
	if depth == 1 {
		return list
	}
	inner := allTypes(depth - 1)
	for _, a := range inner {
		for _, b := range inner {
			list = append(list, fun(a, b), pair(a, b))
		}
	}
	return list
}

// leftChain and rightChain return types of the given depth that are deep on one side only.
func leftChain(depth int) impl.Type {
	t := intType
	for range depth - 1 {
		t = fun(t, anyType)
	}
	return t
}

func rightChain(depth int) impl.Type {
	t := intType
	for range depth - 1 {
		t = pair(anyType, t)
	}
	return t
}

// selfType returns a type that contains itself, with the given number of operands.
func selfType(kind int, operands int) impl.Type {
	kids := make([]impl.Type, operands)
	for i := range kids {
		kids[i] = impl.Type{Kind: kind, Kids: kids}
	}
	return impl.Type{Kind: kind, Kids: kids}
}

func invalidTypes() map[string]impl.Type {
	return map[string]impl.Type{
		"zero value":              {},
		"kind 0 with operands":    {Kids: []impl.Type{intType, intType}},
		"kind -1":                 {Kind: -1},
		"kind 6":                  {Kind: 6},
		"kind 6 with operands":    {Kind: 6, Kids: []impl.Type{intType, intType}},
		"any with an operand":     {Kind: impl.TypeAny, Kids: []impl.Type{anyType}},
		"int with two operands":   {Kind: impl.TypeInt, Kids: []impl.Type{intType, intType}},
		"bool with an operand":    {Kind: impl.TypeBool, Kids: []impl.Type{boolType}},
		"fun without operands":    {Kind: impl.TypeFun},
		"fun with one operand":    {Kind: impl.TypeFun, Kids: []impl.Type{intType}},
		"fun with three operands": {Kind: impl.TypeFun, Kids: []impl.Type{intType, intType, intType}},
		"pair without operands":   {Kind: impl.TypePair},
		"pair with one operand":   {Kind: impl.TypePair, Kids: []impl.Type{intType}},
		"invalid first operand":   fun(impl.Type{Kind: 7}, intType),
		"invalid second operand":  pair(intType, impl.Type{Kind: impl.TypeFun}),
		"invalid leaf at depth 4": fun(fun(fun(intType, impl.Type{}), intType), intType),
		"too deep on the left":    leftChain(5),
		"too deep on the right":   rightChain(5),
		"much too deep":           leftChain(5000),
		"contains itself":         selfType(impl.TypeFun, 2),
	}
}

func parse(t *testing.T, text string) impl.Type {
	t.Helper()
	x, ok := impl.ParseType(text)
	if !ok {
		t.Fatalf("ParseType(%q) finds no type", text)
	}
	return x
}

func isZero(t impl.Type) bool { return t.Kind == 0 && len(t.Kids) == 0 }

func TestTypeExample(t *testing.T) {
	a, b := parse(t, "(I>?)"), parse(t, "(?>B)")
	if !impl.Consistent(a, b) || !impl.Consistent(b, a) {
		t.Error("(I>?) and (?>B) are not consistent")
	}
	if meet, ok := impl.MeetTypes(a, b); !ok || impl.FormatType(meet) != "(I>B)" {
		t.Errorf("meet = %s, %v", impl.FormatType(meet), ok)
	}
	if join, ok := impl.JoinTypes(a, b); !ok || impl.FormatType(join) != "(?>?)" {
		t.Errorf("join = %s, %v", impl.FormatType(join), ok)
	}
	for _, x := range []impl.Type{a, b} {
		if g, ok := impl.GroundOf(x); !ok || impl.FormatType(g) != "(?>?)" {
			t.Errorf("ground type of %s = %s, %v", impl.FormatType(x), impl.FormatType(g), ok)
		}
	}
}

func TestTypeKinds(t *testing.T) {
	kinds := []int{impl.TypeAny, impl.TypeInt, impl.TypeBool, impl.TypeFun, impl.TypePair}
	for i, kind := range kinds {
		if kind != i+1 {
			t.Errorf("constant %d of the kinds is %d", i, kind)
		}
	}
	if impl.MaxTypeDepth != 4 {
		t.Errorf("MaxTypeDepth = %d", impl.MaxTypeDepth)
	}
}

func TestTypeRelations(t *testing.T) {
	cases := []struct {
		a, b                string
		consistent, precise bool
		meet, join          string
	}{
		{"?", "?", true, true, "?", "?"},
		{"I", "?", true, true, "I", "?"},
		{"?", "I", true, false, "I", "?"},
		{"I", "I", true, true, "I", "I"},
		{"I", "B", false, false, "", "?"},
		{"B", "(?>?)", false, false, "", "?"},
		{"(I>B)", "?", true, true, "(I>B)", "?"},
		{"?", "(I*B)", true, false, "(I*B)", "?"},
		{"(I>B)", "(I*B)", false, false, "", "?"},
		{"(?>?)", "(?*?)", false, false, "", "?"},
		{"(I>B)", "(?>?)", true, true, "(I>B)", "(?>?)"},
		{"(I>B)", "(?>B)", true, true, "(I>B)", "(?>B)"},
		{"(I>?)", "(B>?)", false, false, "", "(?>?)"},
		{"(?>I)", "(?>B)", false, false, "", "(?>?)"},
		{"(I*(B>?))", "(?*(?>I))", true, false, "(I*(B>I))", "(?*(?>?))"},
		{"((I*B)>?)", "((I>B)>?)", false, false, "", "(?>?)"},
		{"(((I>I)>I)>I)", "(((?>I)>?)>I)", true, true, "(((I>I)>I)>I)", "(((?>I)>?)>I)"},
		{"(?*(I*(I*I)))", "((B>B)*?)", true, false, "((B>B)*(I*(I*I)))", "(?*?)"},
	}
	for _, c := range cases {
		a, b := parse(t, c.a), parse(t, c.b)
		if got := impl.Consistent(a, b); got != c.consistent {
			t.Errorf("Consistent(%s, %s) = %v", c.a, c.b, got)
		}
		if got := impl.Precise(a, b); got != c.precise {
			t.Errorf("Precise(%s, %s) = %v", c.a, c.b, got)
		}
		meet, ok := impl.MeetTypes(a, b)
		if ok != c.consistent || impl.FormatType(meet) != c.meet || !ok && !isZero(meet) {
			t.Errorf("MeetTypes(%s, %s) = %v, %v", c.a, c.b, meet, ok)
		}
		join, ok := impl.JoinTypes(a, b)
		if !ok || impl.FormatType(join) != c.join {
			t.Errorf("JoinTypes(%s, %s) = %v, %v", c.a, c.b, join, ok)
		}
	}
}

func TestPrecisionIsAnOrder(t *testing.T) {
	list := allTypes(2)
	for _, a := range list {
		if !impl.Precise(a, a) {
			t.Errorf("%s is not as precise as itself", impl.FormatType(a))
		}
		for _, b := range list {
			if impl.Precise(a, b) && impl.Precise(b, a) != impl.TypeSame(a, b) {
				t.Errorf("%s and %s are as precise as each other", impl.FormatType(a), impl.FormatType(b))
			}
			for _, c := range list {
				if impl.Precise(a, b) && impl.Precise(b, c) && !impl.Precise(a, c) {
					t.Errorf("%s, %s, %s: not transitive", impl.FormatType(a), impl.FormatType(b), impl.FormatType(c))
				}
			}
		}
	}
}

// A meet is the greatest lower bound, and there is one exactly if there is a lower bound.
func TestMeetIsTheLeastPreciseLowerBound(t *testing.T) {
	list, bounds := allTypes(2), allTypes(3)
	for _, a := range list {
		for _, b := range list {
			meet, ok := impl.MeetTypes(a, b)
			if ok != impl.Consistent(a, b) || ok != impl.TypeValid(meet) {
				t.Fatalf("meet of %s and %s: %v, %v", impl.FormatType(a), impl.FormatType(b), meet, ok)
			}
			for _, c := range bounds {
				below := impl.Precise(c, a) && impl.Precise(c, b)
				if below != (ok && impl.Precise(c, meet)) {
					t.Fatalf("meet of %s and %s: wrong for %s", impl.FormatType(a), impl.FormatType(b), impl.FormatType(c))
				}
			}
		}
	}
}

// A join is the least upper bound.
func TestJoinIsTheMostPreciseUpperBound(t *testing.T) {
	list, bounds := allTypes(2), allTypes(3)
	for _, a := range list {
		for _, b := range list {
			join, ok := impl.JoinTypes(a, b)
			if !ok || !impl.TypeValid(join) {
				t.Fatalf("join of %s and %s: %v, %v", impl.FormatType(a), impl.FormatType(b), join, ok)
			}
			for _, c := range bounds {
				above := impl.Precise(a, c) && impl.Precise(b, c)
				if above != impl.Precise(join, c) {
					t.Fatalf("join of %s and %s: wrong for %s", impl.FormatType(a), impl.FormatType(b), impl.FormatType(c))
				}
			}
		}
	}
}

func TestMeetAndJoinOfDeeperTypes(t *testing.T) {
	list := allTypes(3)
	for _, a := range list {
		for _, b := range list {
			join, ok := impl.JoinTypes(a, b)
			if !ok || !impl.Precise(a, join) || !impl.Precise(b, join) {
				t.Fatalf("join of %s and %s: %v, %v", impl.FormatType(a), impl.FormatType(b), join, ok)
			}
			meet, ok := impl.MeetTypes(a, b)
			back, backOk := impl.MeetTypes(b, a)
			if ok != impl.Consistent(a, b) || ok != backOk || !impl.TypeSame(meet, back) {
				t.Fatalf("meets of %s and %s: %v and %v", impl.FormatType(a), impl.FormatType(b), meet, back)
			}
			if ok && (!impl.Precise(meet, a) || !impl.Precise(meet, b)) {
				t.Fatalf("meet of %s and %s: %s", impl.FormatType(a), impl.FormatType(b), impl.FormatType(meet))
			}
			if impl.Precise(a, b) && (!ok || !impl.TypeSame(meet, a) || !impl.TypeSame(join, b)) {
				t.Fatalf("%s is at least as precise as %s, but meet and join differ", impl.FormatType(a), impl.FormatType(b))
			}
		}
	}
}

func TestTypeMeasures(t *testing.T) {
	cases := []struct {
		text    string
		depth   int
		unknown int
		static  bool
		ground  string
	}{
		{"?", 1, 1, false, ""},
		{"I", 1, 0, true, "I"},
		{"B", 1, 0, true, "B"},
		{"(?>?)", 2, 2, false, "(?>?)"},
		{"(I*B)", 2, 0, true, "(?*?)"},
		{"((I>I)*?)", 3, 1, false, "(?*?)"},
		{"(I>(B>(I*B)))", 4, 0, true, "(?>?)"},
		{"(((?>?)>?)*(?*(?*?)))", 4, 6, false, "(?*?)"},
	}
	for _, c := range cases {
		x := parse(t, c.text)
		if got := impl.TypeDepth(x); got != c.depth {
			t.Errorf("TypeDepth(%s) = %d", c.text, got)
		}
		if got := impl.CountAny(x); got != c.unknown {
			t.Errorf("CountAny(%s) = %d", c.text, got)
		}
		if got := impl.IsStatic(x); got != c.static {
			t.Errorf("IsStatic(%s) = %v", c.text, got)
		}
		g, ok := impl.GroundOf(x)
		if ok != (c.ground != "") || impl.FormatType(g) != c.ground || !ok && !isZero(g) {
			t.Errorf("GroundOf(%s) = %v, %v", c.text, g, ok)
		}
	}
}

func TestTypeDepthLimit(t *testing.T) {
	for _, chain := range []func(int) impl.Type{leftChain, rightChain} {
		last, over := chain(4), chain(5)
		if !impl.TypeValid(last) || impl.TypeDepth(last) != 4 {
			t.Errorf("%s is not accepted", impl.FormatType(last))
		}
		if impl.TypeValid(over) || impl.TypeDepth(over) != 0 {
			t.Error("a type of the depth 5 is accepted")
		}
		if meet, ok := impl.MeetTypes(last, anyType); !ok || !impl.TypeSame(meet, last) {
			t.Errorf("meet of %s and ? = %v, %v", impl.FormatType(last), meet, ok)
		}
		if join, ok := impl.JoinTypes(last, last); !ok || !impl.TypeSame(join, last) {
			t.Errorf("join of %s and itself = %v, %v", impl.FormatType(last), join, ok)
		}
	}
	for text, want := range map[string]bool{
		"(((I>I)>I)>I)":     true,
		"(I*(I*(I*I)))":     true,
		"((((I>I)>I)>I)>I)": false,
		"(I*(I*(I*(I*I))))": false,
		"(I*(I*((?>B)*I)))": false,
	} {
		if x, ok := impl.ParseType(text); ok != want || !ok && !isZero(x) {
			t.Errorf("ParseType(%s) = %v, %v", text, x, ok)
		}
	}
}

func TestInvalidTypes(t *testing.T) {
	for name, bad := range invalidTypes() {
		if impl.TypeValid(bad) || impl.IsStatic(bad) || impl.TypeDepth(bad) != 0 || impl.CountAny(bad) != 0 || impl.FormatType(bad) != "" {
			t.Errorf("%s: treated as a type", name)
		}
		if g, ok := impl.GroundOf(bad); ok || !isZero(g) {
			t.Errorf("%s: GroundOf = %v, %v", name, g, ok)
		}
		for _, other := range []impl.Type{anyType, intType, fun(intType, intType), bad} {
			for _, p := range [][2]impl.Type{{bad, other}, {other, bad}} {
				if impl.Consistent(p[0], p[1]) || impl.Precise(p[0], p[1]) {
					t.Errorf("%s: has a relation", name)
				}
				if x, ok := impl.MeetTypes(p[0], p[1]); ok || !isZero(x) {
					t.Errorf("%s: has a meet", name)
				}
				if x, ok := impl.JoinTypes(p[0], p[1]); ok || !isZero(x) {
					t.Errorf("%s: has a join", name)
				}
			}
		}
	}
}

func TestTypeSame(t *testing.T) {
	texts := map[string]bool{}
	list := allTypes(2)
	for i, a := range list {
		texts[impl.FormatType(a)] = true
		for k, b := range list {
			if impl.TypeSame(a, b) != (i == k) {
				t.Errorf("TypeSame(%s, %s) = %v", impl.FormatType(a), impl.FormatType(b), i != k)
			}
		}
	}
	if len(texts) != len(list) {
		t.Errorf("%d types have %d texts", len(list), len(texts))
	}
	if !impl.TypeSame(intType, impl.Type{Kind: impl.TypeInt, Kids: []impl.Type{}}) {
		t.Error("nil and empty operands differ")
	}
	if impl.TypeSame(fun(intType, fun(intType, intType)), fun(intType, fun(intType, boolType))) {
		t.Error("a difference below is not seen")
	}
}

func TestTypeSameOfInvalidTypes(t *testing.T) {
	first, second := invalidTypes(), invalidTypes()
	for name, a := range first {
		for other, b := range second {
			if impl.TypeSame(a, b) != (name == other) {
				t.Errorf("TypeSame(%s, %s) = %v", name, other, name != other)
			}
		}
	}
	if impl.TypeSame(leftChain(5), fun(leftChain(4), boolType)) {
		t.Error("types that are too deep and differ are the same")
	}
}

// Types may contain themselves, share operands or be very deep, and TypeSame returns for them, too.
func TestTypeSameEnds(t *testing.T) {
	if !impl.TypeSame(selfType(9, 2), selfType(9, 2)) {
		t.Error("equal types that contain themselves differ")
	}
	if impl.TypeSame(selfType(9, 2), selfType(9, 3)) || impl.TypeSame(selfType(9, 1), selfType(8, 1)) {
		t.Error("different types that contain themselves are the same")
	}
	ring := make([]impl.Type, 3)
	for i := range ring {
		ring[i] = impl.Type{Kind: 9, Kids: ring[(i+1)%3 : (i+1)%3+1]}
	}
	if !impl.TypeSame(ring[0], selfType(9, 1)) {
		t.Error("a ring of three types and one of a single type differ")
	}
	ring[1].Kind = 8
	if impl.TypeSame(ring[0], selfType(9, 1)) {
		t.Error("a ring of different types and one of a single type are the same")
	}
	x, y := intType, intType
	for range 100 {
		x, y = fun(x, x), fun(y, y)
	}
	if !impl.TypeSame(x, y) {
		t.Error("equal types with shared operands differ")
	}
	if !impl.TypeSame(leftChain(1000000), leftChain(1000000)) || impl.TypeSame(leftChain(1000000), leftChain(1000001)) {
		t.Error("very deep types are compared wrongly")
	}
}

func TestTypeTexts(t *testing.T) {
	for _, x := range append(allTypes(3), leftChain(4), rightChain(4)) {
		text := impl.FormatType(x)
		back, ok := impl.ParseType(text)
		if !ok || !impl.TypeSame(x, back) {
			t.Errorf("ParseType(%q) = %v, %v", text, back, ok)
		}
	}
	for text, want := range map[string]impl.Type{
		"?":         anyType,
		"I":         intType,
		"B":         boolType,
		"(I>B)":     fun(intType, boolType),
		"(B*?)":     pair(boolType, anyType),
		"((?>I)*B)": pair(fun(anyType, intType), boolType),
		"(B>(I*?))": fun(boolType, pair(intType, anyType)),
	} {
		if got := impl.FormatType(want); got != text {
			t.Errorf("text of %v = %q", want, got)
		}
		if !impl.TypeSame(parse(t, text), want) {
			t.Errorf("ParseType(%q) = %v", text, parse(t, text))
		}
	}
}

func TestTextsThatAreNoTypes(t *testing.T) {
	texts := []string{
		"", " ", "i", "b", "x", "0", ">", "*", "(", ")", "()", "(I)", "(I>", "(I>I", "I>I", "(>I)", "(I>)", "(II)",
		"(I+I)", "(I>I>I)", "(I>I))", "((I>I)", "(I>I)I", "II", "I ", " I", "(I >I)", "(I> I)", "I\n", "I\x00", "\x00I",
		"(I\x00I)", "(I>I\x00", "(\x00>I)", "\xff", "(I>\xff)", "？", "(I?I)", "(IBI)", "(I(I)", "[I>I]", "(I->I)",
		strings.Repeat("(", 1000000), strings.Repeat("(I>", 300000) + "I" + strings.Repeat(")", 300000),
	}
	for _, text := range texts {
		if x, ok := impl.ParseType(text); ok || !isZero(x) {
			t.Errorf("ParseType(%.40q) = %v, %v", text, x, ok)
		}
	}
}

// Every text of at most six signs is accepted exactly if it is the text of a type.
func TestAllShortTexts(t *testing.T) {
	known := map[string]bool{}
	for _, x := range allTypes(2) {
		known[impl.FormatType(x)] = true
	}
	found := 0
	var try func(text string)
	try = func(text string) {
		x, ok := impl.ParseType(text)
		if ok != known[text] || impl.FormatType(x) != text && ok {
			t.Errorf("ParseType(%q) = %v, %v", text, x, ok)
		}
		if ok {
			found++
		}
		if len(text) < 6 {
			for _, sign := range "?IB(>*)x" {
				try(text + string(sign))
			}
		}
	}
	try("")
	if found != len(known) {
		t.Errorf("%d of %d texts are accepted", found, len(known))
	}
}

// overwrite changes all the memory that a type can reach, with the unused capacity of its slices.
func overwrite(t impl.Type) {
	kids := t.Kids[:cap(t.Kids)]
	for i := range kids {
		overwrite(kids[i])
		kids[i] = impl.Type{Kind: 77}
	}
}

// roomy returns t with operands in slices that have unused capacity.
func roomy(t impl.Type) impl.Type {
	if len(t.Kids) == 0 {
		return t
	}
	kids := make([]impl.Type, 0, 5)
	for _, kid := range t.Kids {
		kids = append(kids, roomy(kid))
	}
	return impl.Type{Kind: t.Kind, Kids: kids}
}

func TestTypeResultsAreNewMemory(t *testing.T) {
	list := allTypes(2)
	list = append(list, fun(pair(intType, anyType), boolType), fun(anyType, pair(intType, intType)))
	for _, a := range list {
		for _, b := range list {
			x, y := roomy(a), roomy(b)
			meet, _ := impl.MeetTypes(x, y)
			join, _ := impl.JoinTypes(x, y)
			self, _ := impl.MeetTypes(x, x)
			ground, _ := impl.GroundOf(x)
			text := impl.FormatType(join)
			for _, result := range []impl.Type{meet, self, ground} {
				overwrite(result)
			}
			if !impl.TypeSame(x, a) || !impl.TypeSame(y, b) || impl.FormatType(join) != text {
				t.Fatalf("the results for %s and %s share memory", impl.FormatType(a), impl.FormatType(b))
			}
			overwrite(join)
			if !impl.TypeSame(x, a) || !impl.TypeSame(y, b) {
				t.Fatalf("the join of %s and %s shares memory", impl.FormatType(a), impl.FormatType(b))
			}
		}
	}
}

func TestTypeArgumentsAreNotChanged(t *testing.T) {
	kids := []impl.Type{intType, anyType, {Kind: 41}, {Kind: 42}}
	a := impl.Type{Kind: impl.TypeFun, Kids: kids[:2]}
	b := fun(anyType, boolType)
	impl.MeetTypes(a, b)
	impl.JoinTypes(a, b)
	impl.GroundOf(a)
	impl.TypeSame(a, b)
	impl.FormatType(a)
	want := []impl.Type{intType, anyType, {Kind: 41}, {Kind: 42}}
	for i := range want {
		if !impl.TypeSame(kids[i], want[i]) {
			t.Errorf("element %d has become %v", i, kids[i])
		}
	}
	if impl.FormatType(b) != "(?>B)" {
		t.Errorf("the second type has become %s", impl.FormatType(b))
	}
}
