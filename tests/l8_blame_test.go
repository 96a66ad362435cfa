package tests

import (
	"math"
	"math/rand"
	"slices"
	"strconv"
	"strings"
	"testing"

	"loop.example/gradual/impl"
)

// Promise 8: A label for which a term is safe is never blamed, and casts that
// only forget types are never blamed themselves.

// The three relations by the clauses of the document.

func positiveByClauses(a, b impl.Type) bool {
	if b.Kind == impl.TypeAny {
		return true
	}
	if a.Kind != b.Kind {
		return false
	}
	switch a.Kind {
	case impl.TypeFun:
		return negativeByClauses(b.Kids[0], a.Kids[0]) && positiveByClauses(a.Kids[1], b.Kids[1])
	case impl.TypePair:
		return positiveByClauses(a.Kids[0], b.Kids[0]) && positiveByClauses(a.Kids[1], b.Kids[1])
	}
	return true
}

func negativeByClauses(a, b impl.Type) bool {
	if a.Kind == impl.TypeAny {
		return true
	}
	if b.Kind == impl.TypeAny {
		ground, _ := impl.GroundOf(a)
		return negativeByClauses(a, ground)
	}
	if a.Kind != b.Kind {
		return false
	}
	switch a.Kind {
	case impl.TypeFun:
		return positiveByClauses(b.Kids[0], a.Kids[0]) && negativeByClauses(a.Kids[1], b.Kids[1])
	case impl.TypePair:
		return negativeByClauses(a.Kids[0], b.Kids[0]) && negativeByClauses(a.Kids[1], b.Kids[1])
	}
	return true
}

func subtypeByClauses(a, b impl.Type) bool {
	if a.Kind == impl.TypeAny || b.Kind == impl.TypeAny {
		if a.Kind == b.Kind {
			return true
		}
		ground, ok := impl.GroundOf(a)
		return ok && subtypeByClauses(a, ground)
	}
	if a.Kind != b.Kind {
		return false
	}
	switch a.Kind {
	case impl.TypeFun:
		return subtypeByClauses(b.Kids[0], a.Kids[0]) && subtypeByClauses(a.Kids[1], b.Kids[1])
	case impl.TypePair:
		return subtypeByClauses(a.Kids[0], b.Kids[0]) && subtypeByClauses(a.Kids[1], b.Kids[1])
	}
	return true
}

// relationsOf shows which of the three relations hold, by a letter each.
func relationsOf(a, b impl.Type) string {
	return letters(impl.SubPositive(a, b), impl.SubNegative(a, b), impl.Subtype(a, b))
}

func letters(positive, negative, both bool) string {
	text := ""
	for i, holds := range []bool{positive, negative, both} {
		if holds {
			text += "pns"[i : i+1]
		}
	}
	return text
}

func TestRelationsByClause(t *testing.T) {
	for _, c := range [][3]string{
		// The unknown type on the right, on the left, and on both sides.
		{"?", "?", "pns"},
		{"I", "?", "pns"},
		{"B", "?", "pns"},
		{"?", "I", "n"},
		{"?", "B", "n"},
		{"?", "(?>?)", "n"},
		{"?", "(?*?)", "n"},
		{"?", "(I>B)", "n"},
		{"?", "(B*(I>I))", "n"},
		{"(?>?)", "?", "pns"},
		{"(?*?)", "?", "pns"},
		{"(I>I)", "?", "p"},
		{"(I>?)", "?", "p"},
		{"(?>I)", "?", "pns"},
		{"(I*I)", "?", "pns"},
		{"((I>I)*B)", "?", "p"},
		{"((?>I)*B)", "?", "pns"},
		{"((I>I)>I)", "?", "p"},
		{"(?>(I>I))", "?", "p"},
		{"(?>(?>(?>I)))", "?", "pns"},
		{"(I*(I*(I>I)))", "?", "p"},
		{"(I*(I*(?>I)))", "?", "pns"},
		// Base types, and different kinds.
		{"I", "I", "pns"},
		{"B", "B", "pns"},
		{"I", "B", ""},
		{"B", "I", ""},
		{"I", "(?>?)", ""},
		{"(?>?)", "I", ""},
		{"B", "(?*?)", ""},
		{"(?*?)", "B", ""},
		{"(?>?)", "(?*?)", ""},
		{"(?*?)", "(?>?)", ""},
		{"(I>I)", "(I*I)", ""},
		// Functions: for the arguments, the relations change places, and so do the types.
		{"(I>I)", "(I>I)", "pns"},
		{"(I>?)", "(?>?)", "p"},
		{"(?>?)", "(I>?)", "pns"},
		{"(?>I)", "(?>?)", "pns"},
		{"(?>?)", "(?>I)", "n"},
		{"(I>I)", "(?>?)", "p"},
		{"(?>?)", "(I>I)", "n"},
		{"(I>?)", "(?>I)", ""},
		{"(?>I)", "(I>?)", "pns"},
		{"(I>B)", "(B>B)", ""},
		{"(B>I)", "(B>B)", ""},
		{"(I>(I>I))", "(I>?)", "p"},
		{"(I>(?>I))", "(I>?)", "pns"},
		{"((I>I)>I)", "(?>I)", "p"},
		{"(?>I)", "((I>I)>I)", "n"},
		{"(?>I)", "((?>I)>I)", "pns"},
		// The argument of an argument is where it was.
		{"((I>I)>I)", "((?>I)>I)", "pns"},
		{"((?>I)>I)", "((I>I)>I)", "n"},
		{"((I>I)>I)", "((I>?)>I)", "p"},
		{"((I>?)>I)", "((I>I)>I)", "pns"},
		{"((?>I)>I)", "((I>I)>?)", "n"},
		{"((I>?)>?)", "((I>I)>I)", "n"},
		{"((I>I)>I)", "((I>?)>?)", "p"},
		{"(((I>I)>I)>I)", "(((?>I)>I)>I)", "p"},
		{"(((?>I)>I)>I)", "(((I>I)>I)>I)", "pns"},
		{"(((I>I)>I)>I)", "(((I>?)>I)>I)", "pns"},
		{"(((I>?)>I)>I)", "(((I>I)>I)>I)", "n"},
		{"(((I>I)>I)>I)", "(((I>B)>I)>I)", ""},
		// Pairs.
		{"(I*B)", "(I*B)", "pns"},
		{"(I*B)", "(?*?)", "pns"},
		{"(I*?)", "(?*?)", "pns"},
		{"(?*?)", "(?*I)", "n"},
		{"(?*?)", "(I*?)", "n"},
		{"(I*?)", "(?*I)", "n"},
		{"(?*I)", "(I*?)", "n"},
		{"(I*B)", "(B*I)", ""},
		{"(I*B)", "(I*I)", ""},
		{"(B*I)", "(I*I)", ""},
		{"((I>I)*?)", "(?*I)", ""},
		{"((I>I)*I)", "(?*?)", "p"},
		{"(I*(I>I))", "(I*?)", "p"},
		{"((?>I)*I)", "((I>?)*?)", "pns"},
		{"((?>?)*?)", "((?>I)*?)", "n"},
		{"((I*?)>?)", "((?*I)>?)", "p"},
		{"((?*I)>(I*?))", "((I*I)>(?*?))", "pns"},
	} {
		a, b := parse(t, c[0]), parse(t, c[1])
		if got := relationsOf(a, b); got != c[2] {
			t.Errorf("%s, %s: %q, not %q", c[0], c[1], got, c[2])
		}
		if want := letters(positiveByClauses(a, b), negativeByClauses(a, b), subtypeByClauses(a, b)); want != c[2] {
			t.Errorf("%s, %s: %q by the clauses, not %q", c[0], c[1], want, c[2])
		}
	}
}

// expectRelations compares the relations of two types with the clauses of the
// document, and with what is known of them besides. It returns the ones that hold.
func expectRelations(t *testing.T, a, b impl.Type) string {
	t.Helper()
	positive, negative := positiveByClauses(a, b), negativeByClauses(a, b)
	got := relationsOf(a, b)
	if want := letters(positive, negative, subtypeByClauses(a, b)); got != want {
		t.Fatalf("%s, %s: %q, not %q", impl.FormatType(a), impl.FormatType(b), got, want)
	}
	if impl.Subtype(a, b) != (positive && negative) {
		t.Fatalf("%s, %s: a subtype is a positive and a negative one, but %q", impl.FormatType(a), impl.FormatType(b), got)
	}
	if impl.Precise(a, b) != (positive && impl.SubNegative(b, a)) {
		t.Fatalf("%s, %s: precision is not the same as both relations", impl.FormatType(a), impl.FormatType(b))
	}
	if !impl.Consistent(a, b) && impl.Subtype(a, b) {
		t.Fatalf("%s is not consistent with %s, but a subtype of it", impl.FormatType(a), impl.FormatType(b))
	}
	return got
}

func TestRelationsOfAllTypes(t *testing.T) {
	list := append(allTypes(2), leftChain(3), leftChain(4), rightChain(3), rightChain(4))
	list = append(list, parse(t, "(((?>I)>I)>I)"), parse(t, "((I>(?*B))*((B>?)>(?*?)))"), parse(t, "(((I>I)>(I*I))>((I*I)>(I>I)))"), parse(t, "(((?>?)>(?*?))>((?*?)>(?>?)))"))
	all, count := allTypes(3), map[string]int{}
	for _, a := range list {
		for _, b := range all {
			count[expectRelations(t, a, b)]++
			count[expectRelations(t, b, a)]++
		}
	}
	for _, kind := range []string{"pns", "p", "n", ""} {
		if count[kind] < 500 {
			t.Errorf("the relations %q hold for %d pairs of types", kind, count[kind])
		}
	}
	for _, a := range all {
		if relationsOf(a, a) != "pns" || !impl.SubPositive(a, anyType) || !impl.SubNegative(anyType, a) {
			t.Errorf("%s, with itself: %q, with ?: %q and %q", impl.FormatType(a), relationsOf(a, a), relationsOf(a, anyType), relationsOf(anyType, a))
		}
	}
}

func TestRelationsOfDeepTypes(t *testing.T) {
	r := rand.New(rand.NewSource(40))
	count := map[string]int{}
	for range 30000 {
		a := mixedType(r, 4)
		count[expectRelations(t, a, mixedType(r, 4))]++
		less := blurred(r, a)
		if other := blurred(r, a); impl.TypeDepth(a) == 4 {
			count[expectRelations(t, less, other)]++
		}
		if !impl.SubPositive(a, less) || !impl.SubNegative(less, a) {
			t.Fatalf("%s forgets types of %s: %q, and %q back", impl.FormatType(less), impl.FormatType(a), relationsOf(a, less), relationsOf(less, a))
		}
	}
	for _, kind := range []string{"pns", "p", "n", ""} {
		if count[kind] < 100 {
			t.Errorf("the relations %q hold for %d pairs of types", kind, count[kind])
		}
	}
}

// The labels of the coercion of a cast (chapter 6) are those that its types allow it to blame.
func TestRelationsAndCoercions(t *testing.T) {
	list, pairs := append(allTypes(3), leftChain(4), rightChain(4)), 0
	for _, a := range list {
		for _, b := range list {
			c, ok := impl.CoerceOf(a, b, 7)
			if !ok {
				continue
			}
			pairs++
			labels := impl.CoercionLabels(c)
			want := letters(!slices.Contains(labels, 7), !slices.Contains(labels, -7), len(labels) == 0)
			if got := relationsOf(a, b); got != want {
				t.Fatalf("%s, %s: %q, but the labels of the coercion are %v", impl.FormatType(a), impl.FormatType(b), got, labels)
			}
		}
	}
	if pairs < 10000 {
		t.Errorf("only %d pairs of types are consistent", pairs)
	}
}

func TestRelationsOfInvalidTypes(t *testing.T) {
	for what, bad := range invalidTypes() {
		for _, other := range []impl.Type{anyType, intType, boolType, fun(anyType, anyType), pair(intType, intType), leftChain(4), bad} {
			if relationsOf(bad, other) != "" || relationsOf(other, bad) != "" {
				t.Errorf("%s, with %s: %q and %q", what, impl.FormatType(other), relationsOf(bad, other), relationsOf(other, bad))
			}
		}
	}
	// Where the limit of the depth is reached, but not passed.
	for _, x := range []impl.Type{leftChain(4), rightChain(4), fun(anyType, leftChain(3))} {
		if relationsOf(x, x) != "pns" || !impl.SubPositive(x, anyType) || impl.SubPositive(anyType, x) || !impl.SubNegative(anyType, x) {
			t.Errorf("%s is not treated as a type", impl.FormatType(x))
		}
	}
}

// unsafeLabels returns UnsafeLabels by the document.
func unsafeLabels(e impl.Term) []int {
	unsafe := map[int]bool{}
	for _, x := range everyNode(e) {
		if x.Kind == impl.TermCast {
			unsafe[x.Label] = unsafe[x.Label] || !positiveByClauses(x.From, x.Type)
			unsafe[-x.Label] = unsafe[-x.Label] || !negativeByClauses(x.From, x.Type)
		}
	}
	list := []int{}
	for label := -99; label <= 99; label++ {
		if unsafe[label] {
			list = append(list, label)
		}
	}
	return list
}

// expectUnsafe checks all three functions for a valid term with casts.
func expectUnsafe(t *testing.T, e impl.Term, want []int) {
	t.Helper()
	if got := impl.UnsafeLabels(e); !slices.Equal(got, want) {
		t.Fatalf("UnsafeLabels(%s) = %v, not %v", textOf(e), got, want)
	}
	if got := impl.SafeTerm(e); got != (len(want) == 0) {
		t.Fatalf("SafeTerm(%s) = %v", textOf(e), got)
	}
	for label := -99; label <= 99; label++ {
		if safe := label != 0 && !slices.Contains(want, label); impl.SafeFor(e, label) != safe {
			t.Fatalf("SafeFor(%s, %d) = %v", textOf(e), label, !safe)
		}
	}
	for _, label := range []int{100, -100, 101, -101, 1000, 1 << 32, 1<<32 + 1, -1 << 32, math.MinInt, math.MinInt + 1, math.MaxInt} {
		if impl.SafeFor(e, label) {
			t.Fatalf("SafeFor(%s, %d) holds", textOf(e), label)
		}
	}
}

// expectNoBlame checks the functions for a term with casts that is not valid.
func expectNoBlame(t *testing.T, what string, bad impl.Term) {
	t.Helper()
	for _, label := range []int{1, -1, 2, 5, -5, 99, -99, 0, 100} {
		if impl.SafeFor(bad, label) {
			t.Errorf("%s: SafeFor(%d) holds", what, label)
		}
	}
	if labels := impl.UnsafeLabels(bad); impl.SafeTerm(bad) || len(labels) != 0 {
		t.Errorf("%s: SafeTerm = %v, UnsafeLabels = %v", what, impl.SafeTerm(bad), labels)
	}
}

func TestUnsafeLabels(t *testing.T) {
	for text, want := range map[string][]int{
		// Without casts.
		"1":                       nil,
		"x":                       nil,
		"(1 2)":                   nil,
		"!x:?.[x,(x+T)]":          nil,
		"{(1<2)?$[1,2]:%!x:?.x}":  nil,
		"(!x:(I>I).(x x) !y:?.y)": nil,
		// The example of the document.
		"(!x:I.x:(I>I)~?#5)": {-5},
		"(x:(I>I)~?#-5)":     {5},
		// One cast, with a positive and a negative label.
		"(1:I~?#1)":                   nil,
		"(1:I~?#-1)":                  nil,
		"(1:I~I#99)":                  nil,
		"(1:?~?#99)":                  nil,
		"(x:?~I#1)":                   {1},
		"(x:?~I#-1)":                  {-1},
		"(x:?~(I>I)#99)":              {99},
		"(x:?~(I>I)#-99)":             {-99},
		"(x:(I>I)~(?>?)#3)":           {-3},
		"(x:(I>I)~(?>?)#-3)":          {3},
		"(x:(?>?)~(I>I)#3)":           {3},
		"(x:(?>I)~(I>?)#3)":           nil,
		"(x:(I>?)~(?>I)#3)":           {-3, 3},
		"(x:(I>?)~(?>I)#-3)":          {-3, 3},
		"(x:(?*?)~(I*I)#4)":           {4},
		"(x:(I*I)~?#4)":               nil,
		"(x:((I>I)>I)~((?>I)>I)#4)":   nil,
		"(x:((?>I)>I)~((I>I)>I)#4)":   {4},
		"(x:((?>I)>I)~((I>I)>I)#-4)":  {-4},
		"(x:((I>I)>I)~((I>?)>I)#4)":   {-4},
		"(x:((I>I)*?)~(?*I)#4)":       {-4, 4},
		"(x:(((I>?)>I)>I)~?#-4)":      {4},
		"!x:?.[1,(x:?~(I>(B*B))#12)]": {12},
		// Several labels: all of them, in ascending order.
		"[(x:?~I#9),[(x:?~B#2),(x:?~I#30)]]":                    {2, 9, 30},
		"[(x:?~I#-9),[(x:?~B#2),(x:?~I#-30)]]":                  {-30, -9, 2},
		"((x:(I>?)~(?>I)#2) (y:(I>?)~(?>I)#-1))":                {-2, -1, 1, 2},
		"((x:?~(B>I)#2) (y:(I>I)~?#1))":                         {-1, 2},
		"{(x:?~B#3)?(x:?~I#1):(x:?~I#2)}":                       {1, 2, 3},
		"!x:?.$(((x:?~?#3):?~(I>?)#2):(I>?)~?#1)":               {-1, 2},
		"((((1:I~?#1):?~I#2):I~?#3):?~B#4)":                     {2, 4},
		"(((1:I~?#4):?~I#3):I~?#-2)":                            {3},
		"[[(x:?~I#99),(x:?~I#-99)],[(x:?~I#1),(x:?~I#-1)]]":     {-99, -1, 1, 99},
		"[(x:(I>?)~(?>I)#50),[(x:(I>I)~?#50),(x:(I>I)~?#-50)]]": {-50, 50},
		// Several casts with the same label, or its negation: one of them is enough.
		"[(x:?~I#7),(x:?~I#7)]":                              {7},
		"[(x:?~I#7),(1:I~?#7)]":                              {7},
		"[(1:I~?#7),(x:?~I#7)]":                              {7},
		"[(1:I~?#7),(T:B~?#7)]":                              nil,
		"[(1:I~?#7),[(1:I~I#7),(x:?~(I*I)#7)]]":              {7},
		"[(1:I~?#7),[(x:?~(I*I)#7),(1:I~I#7)]]":              {7},
		"[(1:I~?#7),(x:?~I#-7)]":                             {-7},
		"[(x:?~I#-7),(1:I~?#7)]":                             {-7},
		"[(x:?~I#-7),(x:?~I#7)]":                             {-7, 7},
		"[(x:(I>I)~?#-7),(1:I~?#7)]":                         {7},
		"[(x:(I>I)~?#-7),(x:?~I#7)]":                         {7},
		"((x:(I>I)~?#7):?~(I>I)#7)":                          {-7, 7},
		"((x:(I>I)~?#7):?~(I>I)#-7)":                         {-7},
		"((x:(?>?)~(I>I)#7) ((y:?~?#7):?~?#7))":              {7},
		"!x:?.{(x:?~?#5)?(x:?~?#-5):(x:(I>(I>I))~(I>?)#-5)}": {5},
	} {
		expectUnsafe(t, parseCast(t, text), want)
	}
}

// SafeFor of labels that no cast has: the casts with other labels do not matter.
func TestSafeForOtherLabels(t *testing.T) {
	e := parseCast(t, "((((x:(I>?)~(?>I)#1) (x:?~I#22)) (x:(I>I)~?#-33)) 1)")
	unsafe := []int{-1, 1, 22, 33}
	expectUnsafe(t, e, unsafe)
	for label := 1; label <= 99; label++ {
		for _, plain := range []impl.Term{num(1), name("x"), castOf(name("x"), intType, anyType, label), castOf(name("x"), intType, anyType, -label)} {
			if !impl.SafeFor(plain, label) || !impl.SafeFor(plain, -label) || !impl.SafeTerm(plain) {
				t.Errorf("%s is not safe for the label %d, or the negation of it", textOf(plain), label)
			}
		}
		expectUnsafe(t, castOf(name("x"), anyType, intType, label), []int{label})
		expectUnsafe(t, castOf(name("x"), anyType, intType, -label), []int{-label})
		expectUnsafe(t, castOf(name("x"), fun(intType, boolType), anyType, label), []int{-label})
		expectUnsafe(t, castOf(name("x"), fun(intType, boolType), anyType, -label), []int{label})
	}
}

// All casts between types up to a depth of 2, as a term of their own.
func TestSafetyOfAllCasts(t *testing.T) {
	list := append(allTypes(2), leftChain(4), rightChain(4), parse(t, "((I>I)>(I*I))"), parse(t, "((?>I)*(I>?))"))
	for _, from := range list {
		for _, to := range list {
			e := castOf(name("x"), from, to, 8)
			if !impl.Consistent(from, to) {
				expectNoBlame(t, textOf(e), e)
				continue
			}
			relations, want := relationsOf(from, to), []int{}
			if !strings.Contains(relations, "n") {
				want = append(want, -8)
			}
			if !strings.Contains(relations, "p") {
				want = append(want, 8)
			}
			expectUnsafe(t, e, want)
			for i := range want {
				want[i] = -want[i]
			}
			slices.Sort(want)
			expectUnsafe(t, castOf(name("x"), from, to, -8), want)
			if impl.SafeTerm(e) != impl.Subtype(from, to) {
				t.Errorf("SafeTerm(%s) = %v", textOf(e), impl.SafeTerm(e))
			}
		}
	}
}

// relabelled returns e with labels of its casts chosen by random numbers, of so many ones.
func relabelled(r *rand.Rand, e impl.Term, labels int) impl.Term {
	e.Kids = slices.Clone(e.Kids)
	if e.Kind == impl.TermCast {
		e.Label = (1 + r.Intn(labels)) * (1 - 2*r.Intn(2))
	}
	for i := range e.Kids {
		e.Kids[i] = relabelled(r, e.Kids[i], labels)
	}
	return e
}

func TestUnsafeLabelsOfManyTerms(t *testing.T) {
	r := rand.New(rand.NewSource(41))
	count := map[int]int{}
	list := mixedCasts()
	for i, e := range runnableTerms() {
		inserted, _, _ := impl.InsertCasts(e)
		if i%4 == 0 {
			list = append(list, inserted, relabelled(r, inserted, 4), changedTypes(r, inserted, 3))
		}
	}
	for _, e := range list {
		if labels := unsafeLabels(e); impl.CastValid(e) {
			expectUnsafe(t, e, labels)
			count[min(len(labels), 6)]++
		}
	}
	for labels := range 7 {
		if count[labels] < 50 {
			t.Errorf("only %d terms have %d unsafe labels", count[labels], labels)
		}
	}
}

// A term that is unsafe for all labels there are.
func TestAllLabelsAreUnsafe(t *testing.T) {
	from, to := fun(intType, anyType), fun(anyType, intType)
	chain := func(first, last int) impl.Term {
		e := name("x")
		for label := first; label <= last; label++ {
			e = castOf(e, from, to, label*(1-label%2*2))
		}
		return e
	}
	e := node(impl.TermPair, chain(67, 99), node(impl.TermPair, chain(34, 66), chain(1, 33)))
	want := []int{}
	for label := -99; label <= 99; label++ {
		if label != 0 {
			want = append(want, label)
		}
	}
	expectUnsafe(t, e, want)
}

// blamedLabels returns the labels that evaluation by casts and by coercions blame, or 0.
func blamedLabels(e impl.Term) (int, int) {
	_, _, label := impl.EvalCast(e, 300)
	_, _, labelToo, _ := impl.EvalSpace(e, 300)
	return label, labelToo
}

// expectSafety checks that a term does not blame a label for which it is safe. It returns the label that it blames.
func expectSafety(t *testing.T, e impl.Term) int {
	t.Helper()
	label, labelToo := blamedLabels(e)
	for _, label := range []int{label, labelToo} {
		if label != 0 && (impl.SafeFor(e, label) || impl.SafeTerm(e) || !slices.Contains(impl.UnsafeLabels(e), label)) {
			t.Fatalf("%s blames %d, and its unsafe labels are %v", textOf(e), label, impl.UnsafeLabels(e))
		}
	}
	return label
}

func TestSafeLabelsAreNeverBlamed(t *testing.T) {
	r := rand.New(rand.NewSource(42))
	positive, negative, safe, untyped := 0, 0, 0, 0
	terms := runnableTerms()
	for i, e := range closedCases(t) {
		if _, ok := impl.TypeOf(e); ok && i%4 == 0 {
			terms = append(terms, e)
		}
	}
	for _, e := range terms {
		inserted, _, _ := impl.InsertCasts(e)
		variants := []impl.Term{inserted, relabelled(r, inserted, 3), relabelled(r, inserted, 50), relabelled(r, changedTypes(r, inserted, 4), 9)}
		for i, variant := range variants {
			if !impl.CastValid(variant) {
				continue
			}
			switch label := expectSafety(t, variant); {
			case label > 0:
				positive++
			case label < 0:
				negative++
			case len(impl.CastLabels(variant)) > 0 && impl.SafeTerm(variant):
				safe++
			}
			if _, ok := impl.CastTypeOf(variant); !ok && i == 3 {
				untyped++
			}
		}
	}
	for _, e := range mixedCasts() {
		expectSafety(t, e)
	}
	if positive < 1000 || negative < 300 || safe < 300 || untyped < 1000 {
		t.Errorf("%d positive labels, %d negative ones, %d safe terms, %d terms without a type", positive, negative, safe, untyped)
	}
}

// After each step, a term is still safe for the labels for which it was safe before.
func TestStepsKeepSafety(t *testing.T) {
	r := rand.New(rand.NewSource(43))
	steps := 0
	for i, e := range runnableTerms() {
		if i%4 != 0 {
			continue
		}
		inserted, _, _ := impl.InsertCasts(e)
		for _, e := range []impl.Term{inserted, relabelled(r, inserted, 3), relabelled(r, changedTypes(r, inserted, 6), 5)} {
			labels := impl.UnsafeLabels(e)
			next, code, _ := impl.StepCast(e)
			for left := 300; code == impl.StepTook && left > 0; left-- {
				steps++
				for _, label := range impl.UnsafeLabels(next) {
					if !slices.Contains(labels, label) {
						t.Fatalf("%s is safe for %d, but reaches %s", textOf(e), label, textOf(next))
					}
				}
				next, code, _ = impl.StepCast(next)
			}
		}
	}
	if steps < 10000 {
		t.Errorf("only %d steps", steps)
	}
}

// A cast that only forgets types never blames its own label, and one that only
// adds types never blames the negation of it.
func TestCastsThatForgetTypesAreNotBlamed(t *testing.T) {
	forgets, adds := 0, 0
	for _, e := range runnableTerms() {
		inserted, _, _ := impl.InsertCasts(e)
		label, labelToo := blamedLabels(inserted)
		for _, own := range impl.CastLabels(inserted) {
			types := impl.CastTypes(inserted, own)
			if impl.Precise(types[0], types[1]) {
				forgets++
				if !impl.SafeFor(inserted, own) || label == own || labelToo == own {
					t.Fatalf("%s may blame %d, or does", textOf(inserted), own)
				}
			}
			if impl.Precise(types[1], types[0]) {
				adds++
				if !impl.SafeFor(inserted, -own) || label == -own || labelToo == -own {
					t.Fatalf("%s may blame %d, or does", textOf(inserted), -own)
				}
			}
		}
	}
	if forgets < 1000 || adds < 1000 {
		t.Errorf("%d casts forget types, %d add types", forgets, adds)
	}
}

// Where a label is unsafe, there is a value, or a use of it, for which the label is blamed.
func TestUnsafeLabelsCanBeBlamed(t *testing.T) {
	for _, c := range []struct {
		text  string
		label int
	}{
		{"((T:B~?#1):?~I#2)", 2},
		{"((T:B~?#1):?~I#-2)", -2},
		{"((T:B~?#1):?~(I>I)#2)", 2},
		{"(((!x:I.x:(I>I)~?#5):?~(?>?)#6) (T:B~?#7))", -5},
		{"(((!x:I.x:(I>I)~?#-5):?~(?>?)#6) (T:B~?#7))", 5},
		{"((!x:I.x:(I>I)~(?>?)#5) (T:B~?#7))", -5},
		{"((!x:?.(T:B~?#7):(?>?)~(?>I)#5) (1:I~?#8))", 5},
		{"((!f:(I>I).(f 1):((I>I)>I)~((?>I)>I)#5) !x:?.(x:?~I#6))", 0},
		{"((!f:(?>I).(f (T:B~?#6)):((?>I)>I)~((I>I)>I)#5) !x:I.x)", 5},
		{"$([(T:B~?#6),1]:(?*I)~(I*I)#5)", 5},
		{"%([1,(T:B~?#6)]:(I*?)~(I*I)#-5)", -5},
		{"($([!x:I.x,1]:((I>I)*I)~(?*I)#5):?~(B>I)#6)", 0},
	} {
		e := parseCast(t, c.text)
		label := expectSafety(t, e)
		if label != c.label {
			t.Errorf("%s blames %d, not %d; its unsafe labels are %v", c.text, label, c.label, impl.UnsafeLabels(e))
		}
	}
}

// The functions for terms with casts that are not valid; more of them are in the tests of chapters 4 to 7.
func TestBlameOfInvalidTerms(t *testing.T) {
	for what, bad := range map[string]impl.Term{
		"the zero value":                        {},
		"a TermAs":                              as(num(1), anyType),
		"a TermAs beside a cast":                node(impl.TermPair, castOf(name("x"), anyType, intType, 1), as(num(1), anyType)),
		"a cast of inconsistent types":          castOf(num(1), intType, boolType, 1),
		"a cast without a label":                castOf(name("x"), anyType, intType, 0),
		"a cast with the label 100":             castOf(name("x"), anyType, intType, 100),
		"a cast with the label -100":            castOf(name("x"), anyType, intType, -100),
		"a cast with the least number":          castOf(name("x"), anyType, intType, math.MinInt),
		"a good cast beside one without labels": node(impl.TermPair, castOf(name("x"), anyType, intType, 1), castOf(name("x"), anyType, intType, 0)),
		"a cast from no type":                   castOf(name("x"), impl.Type{}, anyType, 1),
		"a cast to a type too deep":             castOf(name("x"), anyType, leftChain(5), 1),
		"a cast with a number":                  {Kind: impl.TermCast, Num: 1, From: anyType, Type: intType, Label: 1, Kids: []impl.Term{num(1)}},
		"a number that is too large":            castOf(num(1000), anyType, intType, 1),
		"too many nodes":                        castOf(wideCast(200), anyType, intType, 1),
		"too deep":                              deepTerm(impl.TermCast, 0, 41),
		"a term that contains itself":           selfTerm(impl.TermPair, 2),
	} {
		expectNoBlame(t, what, bad)
	}
	// Where the limits are reached, but not passed.
	expectUnsafe(t, castOf(wideCast(199), anyType, intType, 99), []int{99})
	expectUnsafe(t, castOf(deepTerm(impl.TermPair, 1, 39), anyType, intType, -99), []int{-99})
	expectUnsafe(t, wideCast(200), nil)
	for _, e := range []impl.Term{deepTerm(impl.TermCast, 0, 40), deepTerm(impl.TermLam, 0, 40)} {
		expectUnsafe(t, e, unsafeLabels(e))
	}
}

func TestBlameArgumentsAreNotChanged(t *testing.T) {
	shape := fun(fun(intType, anyType), pair(anyType, intType))
	a, b := roomyType(shape), roomyType(shape)
	relationsOf(a, b)
	relationsOf(a, anyType)
	relationsOf(anyType, b)
	if !impl.TypeSame(a, shape) || !impl.TypeSame(b, shape) || markedType(a) || markedType(b) {
		t.Error("types have been changed")
	}
	for i, plain := range append(mixedCasts(), castOf(castOf(name("x"), shape, anyType, -4), anyType, shape, 4)) {
		if i%5 != 0 && i < 1000 {
			continue
		}
		e := roomyTerm(plain)
		first, second := impl.UnsafeLabels(e), impl.UnsafeLabels(e)
		first = first[:cap(first)]
		for i := range first {
			first[i] = 1000
		}
		impl.SafeFor(e, 4)
		impl.SafeTerm(e)
		if slices.Contains(second[:cap(second)], 1000) || !impl.TermSame(e, plain) || marked(e) {
			t.Fatalf("%s has been changed, or its labels share memory", textOf(plain))
		}
	}
}

// A recursive function whose casts are safe, and whose context is not.
func TestBlameOfLongRuns(t *testing.T) {
	for i, text := range callsItself(5) {
		inserted, _, _ := impl.InsertCasts(parseTerm(t, text))
		if label := expectSafety(t, inserted); label != 0 {
			t.Errorf("term %s blames %d", strconv.Itoa(i), label)
		}
	}
	e := parseTerm(t, "(!f:?.((f f) 5) !s:?.!n:?.{(n<1)?(n T):((s s) (n+999))})")
	inserted, _, _ := impl.InsertCasts(e)
	_, code, label := impl.RunTerm(e, 300)
	if expectSafety(t, inserted) != label || code != blamed || label == 0 {
		t.Errorf("%s: code %d, label %d", textOf(e), code, label)
	}
}
