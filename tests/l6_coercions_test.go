package tests

import (
	"maps"
	"math"
	"math/rand"
	"slices"
	"strconv"
	"strings"
	"testing"

	"loop.example/gradual/impl"
)

// Promise 6: Composition is associative, preserves types, and does not increase the height.

func id(tag int) impl.Coercion { return impl.Coercion{Kind: impl.CoId, Tag: tag} }

func coFun(a, b impl.Coercion) impl.Coercion {
	return impl.Coercion{Kind: impl.CoFun, Kids: []impl.Coercion{a, b}}
}

func coPair(a, b impl.Coercion) impl.Coercion {
	return impl.Coercion{Kind: impl.CoPair, Kids: []impl.Coercion{a, b}}
}

func inject(a impl.Coercion) impl.Coercion {
	return impl.Coercion{Kind: impl.CoInject, Kids: []impl.Coercion{a}}
}

func project(label int, a impl.Coercion) impl.Coercion {
	return impl.Coercion{Kind: impl.CoProject, Label: label, Kids: []impl.Coercion{a}}
}

func coFail(label, tag int) impl.Coercion {
	return impl.Coercion{Kind: impl.CoFail, Label: label, Tag: tag}
}

var (
	anyId  = id(impl.TypeAny)
	intId  = id(impl.TypeInt)
	boolId = id(impl.TypeBool)
)

func isZeroCoercion(c impl.Coercion) bool {
	return c.Kind == 0 && c.Tag == 0 && c.Label == 0 && len(c.Kids) == 0
}

func parseCoercion(t *testing.T, text string) impl.Coercion {
	t.Helper()
	c, ok := impl.ParseCoercion(text)
	if !ok {
		t.Fatalf("ParseCoercion(%q) finds no coercion", text)
	}
	return c
}

// coercionText returns the text of a coercion, which may be too deep or have operands that are not allowed.
func coercionText(c impl.Coercion) string {
	kids := []string{}
	for _, kid := range c.Kids {
		kids = append(kids, coercionText(kid))
	}
	label := strconv.Itoa(c.Label)
	switch c.Kind {
	case impl.CoId:
		return []string{1: "?", 2: "I", 3: "B"}[c.Tag]
	case impl.CoFun:
		return "(" + strings.Join(kids, ">") + ")"
	case impl.CoPair:
		return "(" + strings.Join(kids, "*") + ")"
	case impl.CoInject:
		return "!" + kids[0]
	case impl.CoProject:
		return "#" + label + "." + kids[0]
	case impl.CoFail:
		return "X" + label + []string{2: "I", 3: "B", 4: ">", 5: "*"}[c.Tag]
	}
	return "kind " + strconv.Itoa(c.Kind)
}

func coercionDepth(c impl.Coercion) int {
	deepest := 0
	for _, kid := range c.Kids {
		deepest = max(deepest, coercionDepth(kid))
	}
	return deepest + 1
}

// everyCoercion returns the nodes of c, a node before its operands.
func everyCoercion(c impl.Coercion) []impl.Coercion {
	list := []impl.Coercion{c}
	for _, kid := range c.Kids {
		list = append(list, everyCoercion(kid)...)
	}
	return list
}

func plainCoercion(c impl.Coercion) bool {
	return c.Kind == impl.CoFun || c.Kind == impl.CoPair || c.Kind == impl.CoId && c.Tag != impl.TypeAny
}

func ofUnknown(c impl.Coercion) bool {
	return c.Kind == impl.CoProject || c.Kind == impl.CoId && c.Tag == impl.TypeAny
}

// smallCoercions returns the valid coercions with a depth of at most depth and these labels.
func smallCoercions(depth int, labels ...int) []impl.Coercion {
	list := []impl.Coercion{anyId, intId, boolId}
	for _, label := range labels {
		for tag := impl.TypeInt; tag <= impl.TypePair; tag++ {
			list = append(list, coFail(label, tag))
		}
	}
	if depth == 1 {
		return list
	}
	inner := smallCoercions(depth-1, labels...)
	for _, a := range inner {
		for _, b := range inner {
			list = append(list, coFun(a, b), coPair(a, b))
		}
		if plainCoercion(a) {
			list = append(list, inject(a))
		}
		for _, label := range labels {
			if !ofUnknown(a) {
				list = append(list, project(label, a))
			}
		}
	}
	return list
}

func mixedLabel(r *rand.Rand) int { return (1 + r.Intn(99)) * (1 - 2*r.Intn(2)) }

// between returns a coercion that leads from a type to another one, which random
// numbers choose. It may be too deep. The smaller rest is, the sooner it ends.
func between(r *rand.Rand, from, to impl.Type, rest int) impl.Coercion {
	ground, _ := impl.GroundOf(from)
	switch {
	case from.Kind == impl.TypeAny && to.Kind == impl.TypeAny && r.Intn(3) >= rest:
		return anyId
	case from.Kind == impl.TypeAny:
		over := []impl.Type{intType, boolType, fun(anyType, anyType), pair(anyType, anyType)}[r.Intn(4)]
		if known, ok := impl.GroundOf(to); ok && r.Intn(4) > 0 {
			over = known
		}
		return project(mixedLabel(r), between(r, over, to, rest-1))
	case r.Intn(8) == 0 || to.Kind != impl.TypeAny && to.Kind != from.Kind:
		return coFail(mixedLabel(r), from.Kind)
	case to.Kind == impl.TypeAny:
		return inject(plainBetween(r, from, ground, rest-1))
	}
	return plainBetween(r, from, to, rest)
}

// plainBetween returns a plain coercion between two types of the same kind.
func plainBetween(r *rand.Rand, from, to impl.Type, rest int) impl.Coercion {
	switch from.Kind {
	case impl.TypeFun:
		return coFun(between(r, to.Kids[0], from.Kids[0], rest-1), between(r, from.Kids[1], to.Kids[1], rest-1))
	case impl.TypePair:
		return coPair(between(r, from.Kids[0], to.Kids[0], rest-1), between(r, from.Kids[1], to.Kids[1], rest-1))
	}
	return id(from.Kind)
}

// typedCoercion is a valid coercion with types between which it leads.
type typedCoercion struct {
	c        impl.Coercion
	from, to impl.Type
}

// typedChain returns valid coercions each of which leads to the type from which the next one leads.
func typedChain(r *rand.Rand, length int) []typedCoercion {
	list := []typedCoercion{}
	from := mixedType(r, 1+r.Intn(4))
	for len(list) < length {
		to := mixedType(r, 1+r.Intn(4))
		if r.Intn(3) > 0 {
			to = blurred(r, from)
		}
		c := between(r, from, to, 2+r.Intn(6))
		if coercionDepth(c) <= 9 {
			list = append(list, typedCoercion{c, from, to})
			from = to
		}
	}
	return list
}

// mixedCoercion returns a valid coercion with a depth of at most depth, which need not lead from any type to another one.
func mixedCoercion(r *rand.Rand, depth int) impl.Coercion {
	if depth == 1 || r.Intn(5) == 0 {
		return []impl.Coercion{anyId, intId, boolId, coFail(mixedLabel(r), 2+r.Intn(4))}[r.Intn(4)]
	}
	kid, kind := mixedCoercion(r, depth-1), impl.CoFun+r.Intn(4)
	switch {
	case kind == impl.CoFun:
		return coFun(kid, mixedCoercion(r, depth-1))
	case kind == impl.CoInject && plainCoercion(kid):
		return inject(kid)
	case kind == impl.CoProject && !ofUnknown(kid):
		return project(mixedLabel(r), kid)
	}
	return coPair(kid, mixedCoercion(r, depth-1))
}

// mixedCoercions returns valid coercions, some of them deep.
func mixedCoercions() []impl.Coercion {
	r := rand.New(rand.NewSource(21))
	list := []impl.Coercion{}
	for range 600 {
		list = append(list, mixedCoercion(r, 1+r.Intn(9)), typedChain(r, 1)[0].c)
	}
	return list
}

// composed composes two coercions by the rules of the document, without limits.
func composed(a, b impl.Coercion) (impl.Coercion, bool) {
	switch {
	case a.Kind == impl.CoId && a.Tag == impl.TypeAny:
		return b, ofUnknown(b)
	case a.Kind == impl.CoProject:
		x, ok := composed(a.Kids[0], b)
		return project(a.Label, x), ok
	case a.Kind == impl.CoFail:
		return a, true
	case a.Kind == impl.CoInject && b.Kind == impl.CoProject && coercionTag(a.Kids[0]) == coercionTag(b.Kids[0]):
		return composed(a.Kids[0], b.Kids[0])
	case a.Kind == impl.CoInject && b.Kind == impl.CoProject:
		return coFail(b.Label, coercionTag(a)), true
	case a.Kind == impl.CoInject:
		return a, ofUnknown(b)
	case b.Kind == impl.CoFail:
		return b, coercionTag(a) == coercionTag(b)
	case b.Kind == impl.CoInject:
		x, ok := composed(a, b.Kids[0])
		return inject(x), ok
	case !plainCoercion(b) || coercionTag(a) != coercionTag(b):
		return impl.Coercion{}, false
	case a.Kind == impl.CoId:
		return a, true
	case a.Kind == impl.CoPair:
		x, okX := composed(a.Kids[0], b.Kids[0])
		y, okY := composed(a.Kids[1], b.Kids[1])
		return coPair(x, y), okX && okY
	}
	x, okX := composed(b.Kids[0], a.Kids[0])
	y, okY := composed(a.Kids[1], b.Kids[1])
	return coFun(x, y), okX && okY
}

// coercionTag returns the tag of a coercion that is not a CoProject.
func coercionTag(c impl.Coercion) int {
	switch c.Kind {
	case impl.CoId, impl.CoFail:
		return c.Tag
	case impl.CoFun:
		return impl.TypeFun
	case impl.CoPair:
		return impl.TypePair
	}
	return coercionTag(c.Kids[0])
}

// expectComposition compares ComposeCoercions with the rules of the document.
func expectComposition(t *testing.T, a, b impl.Coercion) (impl.Coercion, bool) {
	t.Helper()
	want, ok := composed(a, b)
	if ok = ok && coercionDepth(want) <= 9; !ok {
		want = impl.Coercion{}
	}
	got, gotOk := impl.ComposeCoercions(a, b)
	if gotOk != ok || !impl.CoercionSame(got, want) {
		t.Fatalf("ComposeCoercions(%s, %s) = %s, %v, not %s, %v", coercionText(a), coercionText(b), coercionText(got), gotOk, coercionText(want), ok)
	}
	return got, gotOk
}

// expectComposed checks ComposeCoercions of two texts, which do not fit if want is empty.
func expectComposed(t *testing.T, a, b, want string) {
	t.Helper()
	x, y := parseCoercion(t, a), parseCoercion(t, b)
	got, ok := impl.ComposeCoercions(x, y)
	if ok != (want != "") || impl.FormatCoercion(got) != want || !ok && !isZeroCoercion(got) {
		t.Errorf("ComposeCoercions(%s, %s) = %s, %v, not %s", a, b, coercionText(got), ok, want)
	}
	expectComposition(t, x, y)
}

// expectNoCoercion checks the result of every function for a coercion that is not valid.
func expectNoCoercion(t *testing.T, what string, bad impl.Coercion) {
	t.Helper()
	if impl.CoercionValid(bad) || impl.FormatCoercion(bad) != "" || impl.CoercionHeight(bad) != 0 || impl.CoercionIdentity(bad) {
		t.Errorf("%s: treated as a coercion", what)
	}
	if labels := impl.CoercionLabels(bad); len(labels) != 0 {
		t.Errorf("%s: CoercionLabels = %v", what, labels)
	}
	for _, other := range []impl.Coercion{anyId, intId, coFun(intId, intId), inject(boolId), project(2, intId), coFail(3, impl.TypeInt), bad} {
		for _, p := range [][2]impl.Coercion{{bad, other}, {other, bad}} {
			if c, ok := impl.ComposeCoercions(p[0], p[1]); ok || !isZeroCoercion(c) {
				t.Errorf("%s: ComposeCoercions = %v, %v", what, c, ok)
			}
		}
	}
	for _, from := range []impl.Type{anyType, intType, boolType, fun(anyType, anyType), fun(intType, intType), pair(anyType, anyType), {}} {
		for _, to := range []impl.Type{anyType, intType, boolType, fun(anyType, anyType), fun(intType, intType), pair(anyType, anyType), {}} {
			if impl.CoercionTyped(bad, from, to) {
				t.Errorf("%s: leads from %s to %s", what, impl.FormatType(from), impl.FormatType(to))
			}
		}
	}
}

func TestCoercionExample(t *testing.T) {
	expectComposed(t, "!I", "#3.I", "I")
	expectComposed(t, "!I", "#3.B", "X3I")
}

func TestCoercionConstants(t *testing.T) {
	kinds := []int{impl.CoId, impl.CoFun, impl.CoPair, impl.CoInject, impl.CoProject, impl.CoFail, impl.MaxCoercionDepth}
	if !slices.Equal(kinds, []int{1, 2, 3, 4, 5, 6, 9}) {
		t.Errorf("constants: %v", kinds)
	}
}

func TestTextsOfCoercions(t *testing.T) {
	for text, want := range map[string]impl.Coercion{
		"?":                      anyId,
		"I":                      intId,
		"B":                      boolId,
		"(?>?)":                  coFun(anyId, anyId),
		"(I>B)":                  coFun(intId, boolId),
		"(I*B)":                  coPair(intId, boolId),
		"!I":                     inject(intId),
		"!B":                     inject(boolId),
		"!(I>!B)":                inject(coFun(intId, inject(boolId))),
		"#1.I":                   project(1, intId),
		"#-1.I":                  project(-1, intId),
		"#99.B":                  project(99, boolId),
		"#-99.(?*?)":             project(-99, coPair(anyId, anyId)),
		"#10.!I":                 project(10, inject(intId)),
		"#2.X-3I":                project(2, coFail(-3, impl.TypeInt)),
		"X1I":                    coFail(1, impl.TypeInt),
		"X-1B":                   coFail(-1, impl.TypeBool),
		"X99>":                   coFail(99, impl.TypeFun),
		"X-99*":                  coFail(-99, impl.TypePair),
		"(X1>>X2>)":              coFun(coFail(1, impl.TypeFun), coFail(2, impl.TypeFun)),
		"(X1>*X2*)":              coPair(coFail(1, impl.TypeFun), coFail(2, impl.TypePair)),
		"(X1*>X2*)":              coFun(coFail(1, impl.TypePair), coFail(2, impl.TypePair)),
		"(#1.I>#-2.B)":           coFun(project(1, intId), project(-2, boolId)),
		"((I>B)>(B>I))":          coFun(coFun(intId, boolId), coFun(boolId, intId)),
		"((I*B)*(B>I))":          coPair(coPair(intId, boolId), coFun(boolId, intId)),
		"#-2.((I>!B)*X5I)":       project(-2, coPair(coFun(intId, inject(boolId)), coFail(5, impl.TypeInt))),
		"#1.!(#2.!(?>?)*?)":      project(1, inject(coPair(project(2, inject(coFun(anyId, anyId))), anyId))),
		"(!I>(#7.B>(X7B*X-7B)))": coFun(inject(intId), coFun(project(7, boolId), coPair(coFail(7, impl.TypeBool), coFail(-7, impl.TypeBool)))),
	} {
		if c := parseCoercion(t, text); !impl.CoercionSame(c, want) {
			t.Errorf("ParseCoercion(%q) = %v", text, c)
		}
		if got := impl.FormatCoercion(want); got != text || !impl.CoercionValid(want) {
			t.Errorf("the text of %q is %q", text, got)
		}
	}
}

func TestCoercionsAreReadBack(t *testing.T) {
	deep := 0
	for _, c := range append(smallCoercions(2, 1, -20), mixedCoercions()...) {
		text := coercionText(c)
		if !impl.CoercionValid(c) || impl.FormatCoercion(c) != text {
			t.Fatalf("%s has the text %q", text, impl.FormatCoercion(c))
		}
		if back, ok := impl.ParseCoercion(text); !ok || !impl.CoercionSame(back, c) {
			t.Fatalf("ParseCoercion(%q) = %v, %v", text, back, ok)
		}
		if coercionDepth(c) == 9 {
			deep++
		}
	}
	if deep < 20 {
		t.Errorf("only %d coercions are as deep as possible", deep)
	}
}

// coercionTexts returns the texts of this length of coercions that mention only some labels.
func coercionTexts(length int, known map[int][]string) []string {
	list := []string{}
	if length == 1 {
		return []string{"?", "I", "B"}
	}
	for _, label := range []string{"1", "10", "11", "-1", "-10", "-11"} {
		for _, sign := range "IB>*" {
			if len(label)+2 == length {
				list = append(list, "X"+label+string(sign))
			}
		}
		for _, a := range known[length-2-len(label)] {
			if a[0] != '?' && a[0] != '#' {
				list = append(list, "#"+label+"."+a)
			}
		}
	}
	for _, a := range known[length-1] {
		if strings.ContainsAny(a[:1], "IB(") {
			list = append(list, "!"+a)
		}
	}
	for first := range length {
		for _, a := range known[first] {
			for _, b := range known[length-3-first] {
				list = append(list, "("+a+">"+b+")", "("+a+"*"+b+")")
			}
		}
	}
	return list
}

// Every short text over these signs is accepted exactly if it is the text of a
// coercion, alone and as the text of an operand.
func TestAllShortCoercionTexts(t *testing.T) {
	known := map[int][]string{}
	valid := map[string]bool{}
	for length := 1; length <= 5; length++ {
		known[length] = coercionTexts(length, known)
		for _, text := range known[length] {
			valid[text] = true
		}
	}
	found := 0
	var try func(text string)
	try = func(text string) {
		c, ok := impl.ParseCoercion(text)
		if ok != valid[text] || ok && impl.FormatCoercion(c) != text || !ok && !isZeroCoercion(c) {
			t.Errorf("ParseCoercion(%q) = %v, %v", text, c, ok)
		}
		if ok {
			found++
		}
		if len(text) < 4 {
			for _, wrapped := range []string{"(" + text + ">I)", "(I>" + text + ")", "(" + text + "*B)", "(B*" + text + ")"} {
				if _, got := impl.ParseCoercion(wrapped); got != ok {
					t.Errorf("ParseCoercion(%q) = %v", wrapped, got)
				}
			}
			if _, got := impl.ParseCoercion("!" + text); got != (ok && plainCoercion(c)) {
				t.Errorf("ParseCoercion(%q) = %v", "!"+text, got)
			}
			if _, got := impl.ParseCoercion("#-7." + text); got != (ok && !ofUnknown(c)) {
				t.Errorf("ParseCoercion(%q) = %v", "#-7."+text, got)
			}
		}
		if len(text) < 5 {
			for _, sign := range "?IB>*()!#.X-10" {
				try(text + string(sign))
			}
		}
	}
	try("")
	if found != len(valid) {
		t.Errorf("%d of %d texts are accepted", found, len(valid))
	}
}

func TestTextsThatAreNoCoercions(t *testing.T) {
	for _, text := range []string{
		"", " ", "i", "x", "1", "A", "!", "!?", "!!I", "!#1.I", "!X1I", "!!(I>I)", "!!", "#", "#1", "#1.", "#.I", "#I", "#1I", "#1,I", "#1.?", "#1.#2.I", "#1.#2.?",
		"#0.I", "#-0.I", "#01.I", "#-01.I", "#100.I", "#-100.I", "#+1.I", "#--1.I", "#-.I", "#- 1.I", "# 1.I", "#1 .I", "#1. I", "#1..I", "#1.5.I", "#x.I", "1.I", "#1.I.",
		"X", "X1", "XI", "X1?", "X1X", "X1(", "X0I", "X-0I", "X01I", "X100I", "X-100I", "X-I", "X--1I", "X+1I", "X 1I", "X1 I", "X1.I", "X1>>", "X1II", "x1I", "X#1I",
		"(", ")", "()", "(I)", "(I>)", "(>I)", "(I>I", "I>I)", "I>I", "(I>I))", "((I>I)", "(I I)", "(I,I)", "(I-I)", "(I<I)", "(I~I)", "(I>I>I)", "(I*I*I)", "(I>*I)", "[I>I]", "{I>I}",
		"(I>I)I", "II", "?I", "(I>I]", "((I>I))", "(I>1)", "(0>I)", "(X1>I)", "(X1*I)", "(!>I)", "(#1.>I)", "(I>!)", "(I>#1.)", "(I>X1)",
		" I", "I ", "(I >I)", "(I> I)", "( I>I)", "(I>I )", "I\n", "I\x00", "\x00", "X1\x00", "(I\x00I)", "(I>I\x00", "#1\x00I", "\xff", "(I>\xff)", "Ｉ", "！I", "＃1.I", "#१.I", "(Ｉ>I)",
		"#18446744073709551617.I", "X-18446744073709551615B", "#" + strings.Repeat("9", 100000) + ".I", "X" + strings.Repeat("0", 100000) + "1I",
		strings.Repeat("(", 10000000), strings.Repeat("!", 10000000) + "I", strings.Repeat("#1.", 5000000) + "I", strings.Repeat("#1.!", 100000) + "I",
		strings.Repeat("(", 100000) + "I" + strings.Repeat(">I)", 100000), strings.Repeat("(I*", 100000) + "I" + strings.Repeat(")", 100000),
	} {
		if c, ok := impl.ParseCoercion(text); ok || !isZeroCoercion(c) {
			t.Errorf("ParseCoercion(%.40q) = %v, %v", text, c, ok)
		}
	}
}

// A text that is accepted is the text of the coercion that is found, however it came about.
func TestChangedTextsOfCoercions(t *testing.T) {
	signs := "?IB(>*)!#.X-0159 ~\x00\xff"
	for i, c := range mixedCoercions() {
		text := coercionText(c)
		if i%3 != 0 || len(text) > 60 {
			continue
		}
		for at := range len(text) {
			changed := []string{text[:at], text[at:], text[:at] + text[at+1:]}
			for _, sign := range []byte(signs) {
				changed = append(changed, text[:at]+string([]byte{sign})+text[at:], text[:at]+string([]byte{sign})+text[at+1:])
			}
			for _, other := range changed {
				got, ok := impl.ParseCoercion(other)
				if ok && (coercionText(got) != other || !impl.CoercionValid(got)) || !ok && !isZeroCoercion(got) {
					t.Fatalf("ParseCoercion(%q) = %v, %v", other, got, ok)
				}
			}
		}
	}
}

func TestLabelsOfCoercions(t *testing.T) {
	expect := func(label int, want bool) {
		number := strconv.Itoa(label)
		for text, c := range map[string]impl.Coercion{
			"#" + number + ".I":              project(label, intId),
			"X" + number + ">":               coFail(label, impl.TypeFun),
			"(!I>#1.X" + number + "*)":       coFun(inject(intId), project(1, coFail(label, impl.TypePair))),
			"((#" + number + ".!B*B)>(I>I))": coFun(coPair(project(label, inject(boolId)), boolId), coFun(intId, intId)),
		} {
			if impl.CoercionValid(c) != want || (impl.FormatCoercion(c) == text) != want {
				t.Errorf("%s: CoercionValid = %v, text %q", text, !want, impl.FormatCoercion(c))
			}
			if back, ok := impl.ParseCoercion(text); ok != want || ok && !impl.CoercionSame(back, c) || !ok && !isZeroCoercion(back) {
				t.Errorf("ParseCoercion(%q) = %v, %v", text, back, ok)
			}
			if !want {
				expectNoCoercion(t, text, c)
			} else if !slices.Contains(impl.CoercionLabels(c), label) {
				t.Errorf("CoercionLabels(%s) = %v", text, impl.CoercionLabels(c))
			}
		}
		for _, to := range []impl.Type{intType, anyType, fun(anyType, intType)} {
			c, ok := impl.CoerceOf(anyType, to, label)
			if ok != want || !ok && !isZeroCoercion(c) {
				t.Errorf("CoerceOf(?, %s, %d) = %v, %v", impl.FormatType(to), label, c, ok)
			}
		}
	}
	for label := -250; label <= 250; label++ {
		expect(label, label >= -99 && label <= 99 && label != 0)
	}
	for _, label := range []int{math.MinInt, math.MinInt + 1, math.MaxInt, 1 << 32, 1<<32 + 1, -1 << 32} {
		expect(label, false)
	}
}

// Tags and labels are accepted only for the kinds that show them.
func TestTagsOfCoercions(t *testing.T) {
	for tag := -3; tag <= 9; tag++ {
		for label := -1; label <= 1; label++ {
			for what, c := range map[string]impl.Coercion{
				"CoId": id(tag), "CoFun": coFun(intId, boolId), "CoPair": coPair(intId, boolId),
				"CoInject": inject(intId), "CoProject": project(label, intId), "CoFail": coFail(label, tag),
			} {
				c.Tag, c.Label = tag, label
				want := tag == 0 && label == 0
				switch c.Kind {
				case impl.CoId:
					want = tag >= 1 && tag <= 3 && label == 0
				case impl.CoProject:
					want = tag == 0 && label != 0
				case impl.CoFail:
					want = tag >= 2 && tag <= 5 && label != 0
				}
				if impl.CoercionValid(c) != want {
					t.Errorf("%s with the tag %d and the label %d: CoercionValid = %v", what, tag, label, !want)
				}
				if !want {
					expectNoCoercion(t, what, c)
				}
			}
		}
	}
}

// A CoInject is valid exactly if its operand is valid and plain, and a CoProject
// if it is valid and neither a CoProject nor the CoId of the unknown type.
func TestOperandsOfInjectionsAndProjections(t *testing.T) {
	for _, c := range smallCoercions(2, 1, -2) {
		if got := impl.CoercionValid(inject(c)); got != plainCoercion(c) {
			t.Errorf("CoercionValid(!%s) = %v", coercionText(c), got)
		}
		if got := impl.CoercionValid(project(3, c)); got == ofUnknown(c) {
			t.Errorf("CoercionValid(#3.%s) = %v", coercionText(c), got)
		}
	}
	for _, text := range []string{"!?", "!!I", "!#1.I", "!X1I", "!X1>"} {
		c := map[byte]impl.Coercion{'?': anyId, '!': inject(intId), '#': project(1, intId), 'X': coFail(1, impl.TypeInt)}[text[1]]
		expectNoCoercion(t, text, inject(c))
		expectNoCoercion(t, "#2."+text, project(2, inject(c)))
		expectNoCoercion(t, "(I>"+text+")", coFun(intId, inject(c)))
	}
	for what, c := range map[string]impl.Coercion{"?": anyId, "#1.I": project(1, intId), "#1.!I": project(1, inject(intId)), "#1.X2I": project(1, coFail(2, impl.TypeInt))} {
		expectNoCoercion(t, "#3."+what, project(3, c))
		expectNoCoercion(t, "(#3."+what+"*I)", coPair(project(3, c), intId))
	}
}

// nestedCoercion returns a coercion of the given depth, made from a coercion by the given changes in turn.
func nestedCoercion(depth int, c impl.Coercion, changes ...func(c impl.Coercion) impl.Coercion) impl.Coercion {
	for i := range depth - coercionDepth(c) {
		c = changes[i%len(changes)](c)
	}
	return c
}

var (
	inFirst  = func(c impl.Coercion) impl.Coercion { return coFun(c, anyId) }
	inSecond = func(c impl.Coercion) impl.Coercion { return coFun(anyId, c) }
	inLeft   = func(c impl.Coercion) impl.Coercion { return coPair(c, intId) }
	inRight  = func(c impl.Coercion) impl.Coercion { return coPair(boolId, c) }
	injected = func(c impl.Coercion) impl.Coercion { return inject(c) }
	tested   = func(c impl.Coercion) impl.Coercion { return project(-3, c) }
)

func TestCoercionDepthLimit(t *testing.T) {
	for what, changes := range map[string][]func(c impl.Coercion) impl.Coercion{
		"first operands":           {inFirst},
		"second operands":          {inSecond},
		"left operands":            {inLeft},
		"right operands":           {inRight},
		"all operands":             {inFirst, inRight, inSecond, inLeft},
		"injections":               {injected, inSecond},
		"projections":              {tested, inLeft},
		"injections, the last one": {inFirst, injected},
		"projections, last":        {inFirst, tested},
		"both":                     {injected, tested, inRight},
		"both, turned":             {inRight, injected, tested},
	} {
		for depth := 1; depth <= 9; depth++ {
			c := nestedCoercion(depth, intId, changes...)
			text := coercionText(c)
			if coercionDepth(c) != depth || !impl.CoercionValid(c) || impl.FormatCoercion(c) != text || !impl.CoercionSame(parseCoercion(t, text), c) {
				t.Errorf("%s: %s is not accepted", what, text)
			}
		}
		for _, depth := range []int{10, 11, 12, 13, 100} {
			over := nestedCoercion(depth, intId, changes...)
			expectNoCoercion(t, what+" with a depth of "+strconv.Itoa(depth), over)
			if c, ok := impl.ParseCoercion(coercionText(over)); ok || !isZeroCoercion(c) {
				t.Errorf("ParseCoercion(%q) = %v, %v", coercionText(over), c, ok)
			}
		}
		expectNoCoercion(t, what+", very deep", nestedCoercion(10000, intId, changes...))
	}
	// As many nodes as the depth allows.
	full := intId
	for range 8 {
		full = coFun(full, full)
	}
	if text := impl.FormatCoercion(full); text != coercionText(full) || !impl.CoercionSame(parseCoercion(t, text), full) {
		t.Error("the largest coercion is not accepted")
	}
	if got, ok := expectComposition(t, full, full); !ok || !impl.CoercionSame(got, full) {
		t.Errorf("the largest coercion and itself: %v", ok)
	}
}

// selfCoercion returns a coercion that contains itself, with the given number of operands.
func selfCoercion(kind, label, count int) impl.Coercion {
	kids := make([]impl.Coercion, count)
	for i := range kids {
		kids[i] = impl.Coercion{Kind: kind, Label: label, Kids: kids}
	}
	return impl.Coercion{Kind: kind, Label: label, Kids: kids}
}

func invalidCoercions() map[string]impl.Coercion {
	extra := func(c impl.Coercion, kid impl.Coercion) impl.Coercion {
		c.Kids = append(slices.Clone(c.Kids), kid)
		return c
	}
	list := map[string]impl.Coercion{
		"the zero value":                   {},
		"kind 0 with operands":             {Kids: []impl.Coercion{intId, intId}},
		"kind 0 with a tag":                {Tag: impl.TypeInt},
		"kind -1":                          {Kind: -1, Tag: impl.TypeInt},
		"kind 7":                           {Kind: 7},
		"kind 7 with a tag":                {Kind: 7, Tag: impl.TypeInt},
		"kind 7 with a label and a tag":    {Kind: 7, Label: 1, Tag: impl.TypeInt},
		"kind 7 with two operands":         {Kind: 7, Kids: []impl.Coercion{intId, intId}},
		"the smallest kind":                {Kind: math.MinInt},
		"the greatest kind":                {Kind: math.MaxInt},
		"a CoId without a tag":             id(0),
		"a CoId of a function":             id(impl.TypeFun),
		"a CoId of a pair":                 id(impl.TypePair),
		"a CoId with a label":              {Kind: impl.CoId, Tag: impl.TypeInt, Label: 1},
		"a CoId with an operand":           extra(intId, intId),
		"a CoId with two operands":         extra(extra(intId, intId), intId),
		"a CoFun without operands":         {Kind: impl.CoFun},
		"a CoFun with one operand":         {Kind: impl.CoFun, Kids: []impl.Coercion{intId}},
		"a CoFun with three operands":      extra(coFun(intId, intId), intId),
		"a CoFun with a tag":               {Kind: impl.CoFun, Tag: impl.TypeFun, Kids: []impl.Coercion{intId, intId}},
		"a CoFun with a label":             {Kind: impl.CoFun, Label: 1, Kids: []impl.Coercion{intId, intId}},
		"a CoPair without operands":        {Kind: impl.CoPair},
		"a CoPair with one operand":        {Kind: impl.CoPair, Kids: []impl.Coercion{intId}},
		"a CoPair with three operands":     extra(coPair(intId, intId), intId),
		"a CoPair with a tag":              {Kind: impl.CoPair, Tag: impl.TypePair, Kids: []impl.Coercion{intId, intId}},
		"a CoPair with a label":            {Kind: impl.CoPair, Label: -1, Kids: []impl.Coercion{intId, intId}},
		"a CoInject without operands":      {Kind: impl.CoInject},
		"a CoInject with two operands":     extra(inject(intId), intId),
		"a CoInject with a tag":            {Kind: impl.CoInject, Tag: impl.TypeInt, Kids: []impl.Coercion{intId}},
		"a CoInject with a label":          {Kind: impl.CoInject, Label: 1, Kids: []impl.Coercion{intId}},
		"a CoProject without operands":     {Kind: impl.CoProject, Label: 1},
		"a CoProject with two operands":    extra(project(1, intId), intId),
		"a CoProject with a tag":           {Kind: impl.CoProject, Label: 1, Tag: impl.TypeInt, Kids: []impl.Coercion{intId}},
		"a CoProject without a label":      project(0, intId),
		"a CoProject with the label 100":   project(100, intId),
		"a CoProject with the label -100":  project(-100, intId),
		"a CoFail without a tag":           coFail(1, 0),
		"a CoFail of the unknown type":     coFail(1, impl.TypeAny),
		"a CoFail with the tag 6":          coFail(1, 6),
		"a CoFail without a label":         coFail(0, impl.TypeInt),
		"a CoFail with the label 100":      coFail(100, impl.TypeInt),
		"a CoFail with the label -100":     coFail(-100, impl.TypeInt),
		"a CoFail with an operand":         extra(coFail(1, impl.TypeInt), intId),
		"a CoFun that contains itself":     selfCoercion(impl.CoFun, 0, 2),
		"a CoPair that contains itself":    selfCoercion(impl.CoPair, 0, 2),
		"a CoInject that contains itself":  selfCoercion(impl.CoInject, 0, 1),
		"a CoProject that contains itself": selfCoercion(impl.CoProject, 1, 1),
		"very many operands":               {Kind: impl.CoPair, Kids: slices.Repeat([]impl.Coercion{intId}, 1000000)},
	}
	for what, bad := range maps.Clone(list) {
		if len(bad.Kids) < 10 {
			list["in a first operand, "+what] = coFun(bad, intId)
			list["in a second operand, "+what] = coPair(intId, bad)
			list["in an injection, "+what] = inject(bad)
			list["in a projection, "+what] = project(1, bad)
		}
	}
	return list
}

func TestInvalidCoercions(t *testing.T) {
	for what, bad := range invalidCoercions() {
		expectNoCoercion(t, what, bad)
	}
	shared := coFun(intId, intId)
	for range 100 {
		shared = coFun(shared, shared)
	}
	expectNoCoercion(t, "a very large coercion with shared operands", shared)
}

// Operands that are empty but not nil are as good as nil.
func TestEmptyOperandsOfCoercions(t *testing.T) {
	empty := impl.Coercion{Kind: impl.CoId, Tag: impl.TypeInt, Kids: []impl.Coercion{}}
	if !impl.CoercionValid(inject(empty)) || impl.FormatCoercion(empty) != "I" || !impl.CoercionSame(empty, intId) || !impl.CoercionSame(coFun(intId, empty), coFun(empty, intId)) {
		t.Error("empty operands differ from none")
	}
}

func TestCoercionSame(t *testing.T) {
	list := smallCoercions(2, 1, -1)
	for i, a := range list {
		for k, b := range list {
			if impl.CoercionSame(a, b) != (i == k) {
				t.Errorf("CoercionSame(%s, %s) = %v", coercionText(a), coercionText(b), i != k)
			}
		}
	}
	changes := map[string]func(c *impl.Coercion){
		"the kind": func(c *impl.Coercion) { c.Kind = 9 - c.Kind }, "the tag": func(c *impl.Coercion) { c.Tag++ },
		"the label": func(c *impl.Coercion) { c.Label = -c.Label - 1 }, "an operand": func(c *impl.Coercion) { c.Kids = append(slices.Clone(c.Kids), intId) },
	}
	text := "#1.!((#2.I>X3>)*(?>!(B*I)))"
	for i := range everyCoercion(parseCoercion(t, text)) {
		for what, change := range changes {
			a, b, at := parseCoercion(t, text), parseCoercion(t, text), i
			change(nthCoercion(&b, &at))
			if !impl.CoercionSame(a, a) || !impl.CoercionSame(b, b) || impl.CoercionSame(a, b) || impl.CoercionSame(b, a) {
				t.Errorf("node %d of %s: a change of %s is not seen", i, text, what)
			}
		}
	}
}

// nthCoercion returns the node of c with the number at, counted as in everyCoercion.
func nthCoercion(c *impl.Coercion, at *int) *impl.Coercion {
	if *at == 0 {
		return c
	}
	*at--
	for i := range c.Kids {
		if found := nthCoercion(&c.Kids[i], at); found != nil {
			return found
		}
	}
	return nil
}

// Coercions that are not valid are compared, too, also those that contain themselves or are very deep.
func TestCoercionSameOfInvalidCoercions(t *testing.T) {
	first, second := invalidCoercions(), invalidCoercions()
	for what, a := range first {
		if len(a.Kids) < 10 && !impl.CoercionSame(a, second[what]) {
			t.Errorf("%s: differs from itself", what)
		}
		if impl.CoercionSame(a, intId) || impl.CoercionSame(coFun(intId, boolId), a) {
			t.Errorf("%s: the same as a valid coercion", what)
		}
	}
	if impl.CoercionSame(selfCoercion(impl.CoFun, 0, 2), selfCoercion(impl.CoPair, 0, 2)) || impl.CoercionSame(selfCoercion(9, 1, 1), selfCoercion(9, 2, 1)) {
		t.Error("different coercions that contain themselves are the same")
	}
	x, y := intId, intId
	for range 100 {
		x, y = coFun(x, x), coFun(y, y)
	}
	if !impl.CoercionSame(x, y) {
		t.Error("equal coercions with shared operands differ")
	}
	deep := func(depth int) impl.Coercion {
		c := intId
		for range depth {
			c = coPair(c, anyId)
		}
		return c
	}
	if !impl.CoercionSame(deep(200000), deep(200000)) || impl.CoercionSame(deep(200000), deep(200001)) {
		t.Error("very deep coercions are compared wrongly")
	}
}

func TestCoercionsOfCasts(t *testing.T) {
	for _, c := range []struct {
		from, to string
		label    int
		want     string
	}{
		{"?", "?", 4, "?"}, {"I", "I", 4, "I"}, {"B", "B", -4, "B"},
		{"I", "?", 4, "!I"}, {"B", "?", -4, "!B"}, {"?", "I", 4, "#4.I"}, {"?", "B", -4, "#-4.B"},
		{"(?>?)", "?", 4, "!(?>?)"}, {"(?*?)", "?", 4, "!(?*?)"}, {"?", "(?>?)", 4, "#4.(?>?)"}, {"?", "(?*?)", -99, "#-99.(?*?)"},
		// The argument of a function is converted the other way, with the other label.
		{"(I>B)", "?", 4, "!(#-4.I>!B)"}, {"(I>B)", "?", -4, "!(#4.I>!B)"}, {"?", "(I>B)", 4, "#4.(!I>#4.B)"}, {"?", "(I>B)", -4, "#-4.(!I>#-4.B)"},
		{"(I>?)", "(?>B)", 4, "(#-4.I>#4.B)"}, {"(?>B)", "(I>?)", 4, "(!I>!B)"}, {"(?>I)", "(I>I)", 4, "(!I>I)"}, {"(I>I)", "(?>I)", 4, "(#-4.I>I)"},
		{"((I>I)>I)", "((?>?)>I)", 4, "((!I>#-4.I)>I)"}, {"((?>?)>I)", "((I>I)>I)", 4, "((#4.I>!I)>I)"},
		{"(I>(I>I))", "(I>(?>?))", 4, "(I>(#-4.I>!I))"}, {"(((?>I)>I)>I)", "(((I>I)>I)>I)", 4, "(((!I>I)>I)>I)"},
		{"(((I>I)>I)>I)", "(((?>I)>I)>I)", 4, "(((#-4.I>I)>I)>I)"}, {"((?>I)>I)", "((I>I)>I)", 4, "((#4.I>I)>I)"},
		// The parts of a pair are not.
		{"?", "(I*?)", 4, "#4.(#4.I*?)"}, {"(I*B)", "?", 4, "!(!I*!B)"}, {"(I*?)", "(?*B)", 4, "(!I*#4.B)"}, {"((?*I)*B)", "((B*I)*?)", -4, "((#-4.B*I)*!B)"},
		{"((I>I)*?)", "((?>?)*(I>I))", 7, "((#-7.I>!I)*#7.(!I>#7.I))"}, {"((I*?)>I)", "((?*I)>I)", 7, "((#-7.I*!I)>I)"},
		// Equal types without another conversion.
		{"(I>?)", "(I>?)", 4, "(I>?)"}, {"((I*?)>(B>?))", "((I*?)>(B>?))", 4, "((I*?)>(B>?))"},
		// As deep as types can be.
		{"(((I>I)>I)>I)", "?", 1, "!(#-1.(!(#-1.I>!I)>#-1.I)>!I)"}, {"?", "(I*(I*(I*B)))", 1, "#1.(#1.I*#1.(#1.I*#1.(#1.I*#1.B)))"},
		{"(((I>I)>I)>I)", "(((I>I)>I)>I)", 1, "(((I>I)>I)>I)"},
	} {
		from, to := parse(t, c.from), parse(t, c.to)
		got, ok := impl.CoerceOf(from, to, c.label)
		if !ok || impl.FormatCoercion(got) != c.want || !impl.CoercionTyped(got, from, to) {
			t.Errorf("CoerceOf(%s, %s, %d) = %s, %v, not %s", c.from, c.to, c.label, coercionText(got), ok, c.want)
		}
	}
}

// coerced returns the coercion of a cast by the rules of the document.
func coerced(from, to impl.Type, label int) impl.Coercion {
	fromGround, _ := impl.GroundOf(from)
	toGround, _ := impl.GroundOf(to)
	switch {
	case from.Kind == to.Kind && from.Kind <= impl.TypeBool:
		return id(to.Kind)
	case to.Kind == impl.TypeAny:
		return inject(coerced(from, fromGround, label))
	case from.Kind == impl.TypeAny:
		return project(label, coerced(toGround, to, label))
	case to.Kind == impl.TypeFun:
		return coFun(coerced(to.Kids[0], from.Kids[0], -label), coerced(from.Kids[1], to.Kids[1], label))
	}
	return coPair(coerced(from.Kids[0], to.Kids[0], label), coerced(from.Kids[1], to.Kids[1], label))
}

func TestCoercionsOfAllCasts(t *testing.T) {
	list := append(allTypes(3), leftChain(4), rightChain(4), parse(t, "((I>(?*B))*((B>?)>(?*?)))"))
	for i, from := range list {
		for k, to := range list {
			label := (i+k)%99 + 1
			if i%2 == 0 {
				label = -label
			}
			got, ok := impl.CoerceOf(from, to, label)
			if ok != impl.Consistent(from, to) || !ok && !isZeroCoercion(got) {
				t.Fatalf("CoerceOf(%s, %s) = %v, %v", impl.FormatType(from), impl.FormatType(to), got, ok)
			}
			if !ok {
				continue
			}
			if want := coerced(from, to, label); !impl.CoercionSame(got, want) || !impl.CoercionTyped(got, from, to) {
				t.Fatalf("CoerceOf(%s, %s, %d) = %s, not %s", impl.FormatType(from), impl.FormatType(to), label, coercionText(got), coercionText(want))
			}
			if impl.CoercionIdentity(got) != (i == k) {
				t.Fatalf("CoercionIdentity(%s) = %v", coercionText(got), i != k)
			}
			if height := impl.CoercionHeight(got); height < 1 || height > max(impl.TypeDepth(from), impl.TypeDepth(to)) {
				t.Fatalf("CoercionHeight(%s) = %d", coercionText(got), height)
			}
		}
	}
}

func TestNoCoercionOfCasts(t *testing.T) {
	expect := func(what string, from, to impl.Type, label int) {
		t.Helper()
		if c, ok := impl.CoerceOf(from, to, label); ok || !isZeroCoercion(c) {
			t.Errorf("%s: CoerceOf = %v, %v", what, c, ok)
		}
	}
	for what, bad := range invalidTypes() {
		for _, other := range []impl.Type{anyType, intType, fun(anyType, anyType), bad} {
			expect("from an invalid type, "+what, bad, other, 1)
			expect("to an invalid type, "+what, other, bad, 1)
		}
	}
	for _, p := range [][2]string{{"I", "B"}, {"I", "(?>?)"}, {"(?>?)", "(?*?)"}, {"(I>?)", "(B>?)"}, {"(?*I)", "(I*B)"}, {"(?>(I*?))", "(I>(B*?))"}} {
		expect(p[0]+" and "+p[1], parse(t, p[0]), parse(t, p[1]), 1)
		expect(p[1]+" and "+p[0], parse(t, p[1]), parse(t, p[0]), 1)
	}
	for _, label := range []int{0, 100, -100, 1 << 40, math.MinInt, math.MaxInt} {
		expect("the label "+strconv.Itoa(label), intType, intType, label)
		expect("the label "+strconv.Itoa(label), fun(intType, anyType), anyType, label)
	}
}

func TestRulesOfComposition(t *testing.T) {
	for _, c := range [][3]string{
		// 1. After the CoId of the unknown type.
		{"?", "?", "?"}, {"?", "#1.I", "#1.I"}, {"?", "#-99.!(I>B)", "#-99.!(I>B)"}, {"?", "#1.X2>", "#1.X2>"},
		// 2. After a CoProject.
		{"#1.I", "I", "#1.I"}, {"#1.I", "!I", "#1.!I"}, {"#1.!I", "?", "#1.!I"}, {"#1.!I", "#2.I", "#1.I"}, {"#1.!I", "#2.B", "#1.X2I"},
		{"#1.!I", "#2.!I", "#1.!I"}, {"#-1.(?>?)", "(!I>#3.I)", "#-1.(!I>#3.I)"}, {"#1.I", "X2I", "#1.X2I"}, {"#1.(I*I)", "X2*", "#1.X2*"},
		// 3. After a CoFail, whatever comes then.
		{"X7>", "I", "X7>"}, {"X7I", "I", "X7I"}, {"X7I", "?", "X7I"}, {"X7I", "#1.B", "X7I"}, {"X7I", "!B", "X7I"}, {"X7I", "X8B", "X7I"},
		{"X-99*", "(I>I)", "X-99*"}, {"#1.X7I", "B", "#1.X7I"}, {"#1.X7I", "#2.X8B", "#1.X7I"},
		// 4. A CoInject and a CoProject: of the same tag, and of different ones.
		{"!I", "#3.I", "I"}, {"!B", "#3.B", "B"}, {"!(I>B)", "#3.(I>B)", "(I>B)"}, {"!(I>B)", "#3.!(I>B)", "!(I>B)"},
		{"!(?*?)", "#3.(#4.I*#5.B)", "(#4.I*#5.B)"}, {"!(#-1.I>!B)", "#2.(!I>#2.B)", "(I>B)"},
		{"!I", "#3.B", "X3I"}, {"!B", "#3.I", "X3B"}, {"!(I>I)", "#-3.I", "X-3>"}, {"!(I*I)", "#99.B", "X99*"}, {"!(?>?)", "#3.(?*?)", "X3>"},
		{"!(?*?)", "#-99.(?>?)", "X-99*"}, {"!I", "#3.!B", "X3I"}, {"!I", "#3.(I>I)", "X3I"}, {"!B", "#3.!(I*I)", "X3B"},
		// A projection of a failure: the tag decides which of them fails.
		{"!I", "#1.X2I", "X2I"}, {"!B", "#1.X2I", "X1B"}, {"!(I>I)", "#1.X2>", "X2>"}, {"!(I>I)", "#1.X2*", "X1>"}, {"!(I*I)", "#-1.X-2*", "X-2*"},
		{"#3.!I", "#1.X2I", "#3.X2I"}, {"#3.!B", "#1.X2I", "#3.X1B"}, {"#3.X4I", "#1.X2I", "#3.X4I"}, {"?", "#1.X2I", "#1.X2I"},
		// 5. A CoInject and the CoId of the unknown type.
		{"!I", "?", "!I"}, {"!(X1I>?)", "?", "!(X1I>?)"},
		// 6. Before a CoFail of the same tag.
		{"I", "X2I", "X2I"}, {"B", "X-2B", "X-2B"}, {"(I*I)", "X3*", "X3*"}, {"(X1I>X2B)", "X3>", "X3>"},
		// 7. Before a CoInject.
		{"I", "!I", "!I"}, {"B", "!B", "!B"}, {"(I>B)", "!(I>B)", "!(I>B)"}, {"(!I>#1.I)", "!(#2.I>!I)", "!(#2.!I>#1.!I)"}, {"(I*!B)", "!(!I*?)", "!(!I*!B)"},
		// 8. Plain ones.
		{"I", "I", "I"}, {"B", "B", "B"}, {"(?*?)", "(?*?)", "(?*?)"}, {"(?>?)", "(?>?)", "(?>?)"}, {"(!I*#2.B)", "(#3.I*!B)", "(I*#2.!B)"},
		{"(!I*!B)", "(#3.B*#4.I)", "(X3I*X4B)"}, {"((I*B)*?)", "((!I*!B)*#1.I)", "((!I*!B)*#1.I)"},
	} {
		expectComposed(t, c[0], c[1], c[2])
	}
}

// What a function is given goes through the later coercion first, and what it returns through the earlier one.
func TestCompositionOfFunctions(t *testing.T) {
	for _, c := range [][3]string{
		{"(#1.I>!I)", "(!I>#2.I)", "(I>I)"}, {"(#1.I>I)", "(!B>I)", "(X1B>I)"}, {"(I>!I)", "(I>#1.B)", "(I>X1I)"}, {"(!I>I)", "(#1.I>I)", "(#1.!I>I)"},
		{"(!I>I)", "(#1.B>I)", ""}, {"(#1.I>#2.B)", "(?>!B)", "(#1.I>#2.!B)"}, {"(?>?)", "(!I>#3.I)", "(!I>#3.I)"}, {"(!I>#3.I)", "(I>I)", "(!I>#3.I)"},
		{"(I>I)", "(X1I>X2I)", "(X1I>X2I)"}, {"(X1I>X2I)", "(I>I)", "(X1I>X2I)"}, {"(X1I>I)", "(X2I>I)", "(X2I>I)"}, {"(I>X1I)", "(I>X2I)", "(I>X1I)"},
		{"(X1I>I)", "(B>I)", ""}, {"(B>I)", "(X1I>I)", "(X1I>I)"}, {"(I>B)", "(I>X1I)", ""}, {"(I>X1I)", "(I>B)", "(I>X1I)"},
		// Within arguments, the direction is turned again.
		{"((#1.I>I)>I)", "((!I>I)>I)", "((#1.!I>I)>I)"}, {"((!I>I)>I)", "((#1.I>I)>I)", "((I>I)>I)"}, {"((!B>I)>I)", "((#1.I>I)>I)", "((X1B>I)>I)"},
		{"((I>#1.I)>I)", "((I>!I)>I)", "((I>I)>I)"}, {"((I*#1.B)>I)", "((I*!I)>I)", "((I*X1I)>I)"},
	} {
		expectComposed(t, c[0], c[1], c[2])
	}
}

// A failure inside a function or a pair does not fail at once: the composition is no CoFail.
func TestFailuresInside(t *testing.T) {
	for _, c := range [][3]string{
		{"!(I>!I)", "#1.(I>#2.B)", "(I>X2I)"}, {"!(#1.I>I)", "#2.(!B>I)", "(X1B>I)"}, {"(I*!I)", "(I*#2.B)", "(I*X2I)"},
		{"(X1I>X2I)", "!(I>I)", "!(X1I>X2I)"}, {"!(X1I>X2I)", "#3.(I>I)", "(X1I>X2I)"}, {"!(X1I*X2I)", "#3.(I>I)", "X3*"}, {"#4.(X1I*X2I)", "(I*I)", "#4.(X1I*X2I)"},
		{"(I>!(I>!I))", "(I>#1.(I>#2.B))", "(I>(I>X2I))"}, {"(I>!(I>!I))", "(I>#1.B)", "(I>X1>)"},
	} {
		expectComposed(t, c[0], c[1], c[2])
	}
}

func TestCoercionsThatDoNotFit(t *testing.T) {
	for _, c := range [][2]string{
		// Rules 1 and 5: what comes after the unknown type.
		{"?", "I"}, {"?", "B"}, {"?", "(?>?)"}, {"?", "(?*?)"}, {"?", "!I"}, {"?", "!(?>?)"}, {"?", "X1I"}, {"?", "X1>"},
		{"!I", "I"}, {"!I", "B"}, {"!I", "!I"}, {"!(I>I)", "(I>I)"}, {"!I", "X1I"}, {"!(I*I)", "X1*"},
		// Rule 6: a CoFail of another tag.
		{"I", "X1B"}, {"B", "X1I"}, {"I", "X1>"}, {"(I>I)", "X1*"}, {"(I*I)", "X1>"}, {"(I*I)", "X1I"},
		// Rule 7: a CoInject of another kind.
		{"I", "!B"}, {"B", "!I"}, {"I", "!(I>I)"}, {"(I>I)", "!(I*I)"}, {"(I*I)", "!(I>I)"}, {"(I>I)", "!I"},
		{"(I>?)", "!(I>I)"}, {"(I*?)", "!(I*B)"}, {"(I*!I)", "!(I*I)"}, {"(I*I)", "!(I*X1B)"}, {"(?*I)", "!(I*I)"},
		// Rule 8: plain ones of other kinds, or what comes after the unknown type.
		{"I", "B"}, {"B", "I"}, {"I", "(I>I)"}, {"(I>I)", "I"}, {"(I>I)", "(I*I)"}, {"(I*I)", "(I>I)"}, {"(I*I)", "B"},
		{"I", "?"}, {"B", "?"}, {"(?>?)", "?"}, {"(?*?)", "?"}, {"I", "#1.I"}, {"(I>I)", "#1.(I>I)"}, {"(I*I)", "#1.!(I*I)"}, {"B", "#1.X2B"},
		// Parts of them.
		{"#1.I", "B"}, {"#1.I", "?"}, {"#1.I", "#2.I"}, {"#1.!I", "I"}, {"#1.!I", "!I"}, {"#1.!I", "X1I"}, {"#1.I", "X1B"}, {"#1.I", "!B"}, {"#1.!(I>I)", "#2.(I>B)"},
		{"!(I>I)", "#1.(I>B)"}, {"!(I>I)", "#1.(B>I)"}, {"!(I*I)", "#1.!(B*I)"}, {"(I>I)", "!(I>B)"}, {"(I>I)", "!(B>I)"}, {"(I>I)", "(I>B)"}, {"(I>I)", "(B>I)"},
		{"(I*I)", "(I*B)"}, {"(I*I)", "(B*I)"}, {"(?*I)", "(I*I)"}, {"(?>I)", "(I>I)"}, {"(I>?)", "(I>I)"}, {"(I*I)", "(?*I)"}, {"(I*I)", "(#1.I*I)"},
		{"(I*!I)", "(I*I)"}, {"(I>!I)", "(I>!I)"}, {"(#1.I>I)", "(#2.I>I)"}, {"((I>I)>I)", "((B>I)>I)"}, {"(I>(I*I))", "(I>(I*B))"}, {"(X1I>I)", "(X2I>B)"},
	} {
		expectComposed(t, c[0], c[1], "")
	}
}

func TestCompositionOfSmallCoercions(t *testing.T) {
	list := smallCoercions(2, 1, -2)
	fitting := 0
	for _, a := range list {
		for _, b := range list {
			if _, ok := expectComposition(t, a, b); ok {
				fitting++
			}
		}
	}
	if fitting < 1000 || fitting > len(list)*len(list)/2 {
		t.Errorf("%d of %d pairs fit", fitting, len(list)*len(list))
	}
}

// A composition may be deeper than both of the coercions.
func TestCompositionsThatAreTooDeep(t *testing.T) {
	expect := func(a, b impl.Coercion, depth int) {
		t.Helper()
		want, fits := composed(a, b)
		if !impl.CoercionValid(a) || !impl.CoercionValid(b) || !fits || coercionDepth(want) != depth {
			t.Fatalf("%s and %s: the composition has the depth %d", coercionText(a), coercionText(b), coercionDepth(want))
		}
		if got, ok := expectComposition(t, a, b); ok != (depth <= 9) || ok && !impl.CoercionSame(got, want) {
			t.Errorf("ComposeCoercions(%s, %s) = %s, %v", coercionText(a), coercionText(b), coercionText(got), ok)
		}
	}
	for _, in := range []func(c impl.Coercion) impl.Coercion{inFirst, inSecond, inLeft, inRight} {
		for depth := 3; depth <= 9; depth++ {
			part := nestedCoercion(depth-1, intId, in)
			expect(project(1, part), inject(part), depth+1)
			part = nestedCoercion(depth-2, intId, in)
			expect(inSecond(project(1, part)), inSecond(inject(part)), depth+1)
			expect(inRight(project(1, part)), inRight(inject(part)), depth+1)
			expect(inFirst(inject(part)), inFirst(project(1, part)), depth+1)
		}
	}
	// With types: a coercion that leads from the unknown type to itself may be as deep as one likes.
	round := parseCoercion(t, "#1.!(#2.!(?>?)>?)")
	if !impl.CoercionTyped(round, anyType, anyType) {
		t.Errorf("%s does not lead from ? to ?", coercionText(round))
	}
	expect(project(3, coFun(round, anyId)), inject(coFun(anyId, anyId)), 10)
	expect(project(3, coFun(anyId, anyId)), inject(coFun(anyId, round)), 10)
	expect(project(3, coFun(project(1, inject(coFun(anyId, anyId))), anyId)), inject(coFun(anyId, anyId)), 7)
	expect(inject(coFun(round, anyId)), project(3, coFun(anyId, round)), 8)
	// A composition that is not as deep as the coercions.
	deepest := nestedCoercion(9, intId, inSecond)
	expect(inject(nestedCoercion(8, intId, inSecond)), project(1, nestedCoercion(8, intId, inSecond)), 8)
	expect(deepest, deepest, 9)
	expect(deepest, coFail(1, impl.TypeFun), 1)
	expect(inject(nestedCoercion(8, intId, inSecond)), project(1, nestedCoercion(8, intId, inLeft)), 1)
}

// expectAssociative checks that (a b) c and a (b c) are the same, if a and b fit, and b and c.
// It reports whether they are.
func expectAssociative(t *testing.T, a, b, c impl.Coercion) bool {
	t.Helper()
	ab, okAB := impl.ComposeCoercions(a, b)
	bc, okBC := impl.ComposeCoercions(b, c)
	if !okAB || !okBC {
		return false
	}
	left, okLeft := impl.ComposeCoercions(ab, c)
	right, okRight := impl.ComposeCoercions(a, bc)
	if okLeft != okRight || !impl.CoercionSame(left, right) {
		t.Fatalf("%s, %s, %s: %s and %s", coercionText(a), coercionText(b), coercionText(c), coercionText(left), coercionText(right))
	}
	return okLeft
}

func TestSmallCompositionsAreAssociative(t *testing.T) {
	list := smallCoercions(2, -1)
	after := map[int][]int{}
	for i, a := range list {
		for k, b := range list {
			if _, ok := impl.ComposeCoercions(a, b); ok {
				after[i] = append(after[i], k)
			}
		}
	}
	found := 0
	for i, a := range list {
		for _, k := range after[i] {
			for _, m := range after[k] {
				if expectAssociative(t, a, list[k], list[m]) {
					found++
				}
			}
		}
	}
	if found < 10000 {
		t.Errorf("only %d compositions", found)
	}
}

// Compositions of coercions that lead from type to type are associative, lead
// from the first type to the last one, and are not higher than their parts.
func TestCompositionOfTypedCoercions(t *testing.T) {
	r := rand.New(rand.NewSource(22))
	found, failing := 0, 0
	for range 20000 {
		list := typedChain(r, 3)
		a, b, c := list[0], list[1], list[2]
		if expectAssociative(t, a.c, b.c, c.c) {
			found++
		}
		for _, p := range [][2]typedCoercion{{a, b}, {b, c}} {
			if _, fits := composed(p[0].c, p[1].c); !fits {
				t.Fatalf("%s and %s do not fit", coercionText(p[0].c), coercionText(p[1].c))
			}
			got, ok := expectComposition(t, p[0].c, p[1].c)
			if !ok {
				continue
			}
			if !impl.CoercionTyped(got, p[0].from, p[1].to) {
				t.Fatalf("%s does not lead from %s to %s", coercionText(got), impl.FormatType(p[0].from), impl.FormatType(p[1].to))
			}
			if impl.CoercionHeight(got) > max(impl.CoercionHeight(p[0].c), impl.CoercionHeight(p[1].c)) {
				t.Fatalf("%s and %s: %s is higher", coercionText(p[0].c), coercionText(p[1].c), coercionText(got))
			}
			if strings.Contains(coercionText(got), "X") {
				failing++
			}
		}
	}
	if found < 15000 || failing < 5000 || failing > 35000 {
		t.Errorf("%d compositions of three, %d with a failure", found, failing)
	}
}

// Coercions of casts between equal types change nothing before and after others.
func TestCompositionWithIdentities(t *testing.T) {
	r := rand.New(rand.NewSource(23))
	for range 3000 {
		x := typedChain(r, 1)[0]
		before, _ := impl.CoerceOf(x.from, x.from, 7)
		after, _ := impl.CoerceOf(x.to, x.to, 7)
		left, okLeft := impl.ComposeCoercions(before, x.c)
		right, okRight := impl.ComposeCoercions(x.c, after)
		if !okLeft || !okRight || !impl.CoercionSame(left, x.c) || !impl.CoercionSame(right, x.c) {
			t.Fatalf("%s: %s, %v and %s, %v", coercionText(x.c), coercionText(left), okLeft, coercionText(right), okRight)
		}
		if !impl.CoercionIdentity(before) || len(impl.CoercionLabels(before)) != 0 {
			t.Fatalf("%s is no identity", coercionText(before))
		}
	}
}

// No composition is higher than the higher one of its parts, also of those that lead nowhere.
func TestHeightOfCompositions(t *testing.T) {
	list := smallCoercions(2, 1)
	r := rand.New(rand.NewSource(24))
	for range 400 {
		list = append(list, mixedCoercion(r, 4))
	}
	fitting := 0
	for _, a := range list {
		for _, b := range list {
			got, ok := expectComposition(t, a, b)
			if !ok {
				continue
			}
			fitting++
			if height := impl.CoercionHeight(got); height < 1 || height > max(impl.CoercionHeight(a), impl.CoercionHeight(b)) {
				t.Fatalf("%s and %s: %s is higher", coercionText(a), coercionText(b), coercionText(got))
			}
		}
	}
	if fitting < 10000 {
		t.Errorf("only %d pairs fit", fitting)
	}
}

// thing is what a coercion converts, or a failure, if its label is not 0. The
// tag of an injection is TypeAny, and inside is what has been injected.
type thing struct {
	tag, label int
	text       string
	inside     *thing
	parts      [2]func() thing
	apply      func(x thing) thing
}

// converted returns v after the conversion by c.
func converted(c impl.Coercion, v thing) thing {
	switch {
	case v.label != 0 || c.Kind == impl.CoId:
		return v
	case c.Kind == impl.CoFail:
		return thing{label: c.Label}
	case c.Kind == impl.CoProject && v.inside.tag != coercionTag(c.Kids[0]):
		return thing{label: c.Label}
	case c.Kind == impl.CoProject:
		return converted(c.Kids[0], *v.inside)
	case c.Kind == impl.CoPair:
		part := func(i int) func() thing { return func() thing { return converted(c.Kids[i], v.parts[i]()) } }
		return thing{tag: v.tag, parts: [2]func() thing{part(0), part(1)}}
	case c.Kind == impl.CoFun:
		return thing{tag: v.tag, apply: func(x thing) thing {
			if x = converted(c.Kids[0], x); x.label != 0 {
				return x
			}
			return converted(c.Kids[1], v.apply(x))
		}}
	}
	inside := converted(c.Kids[0], v)
	return thing{tag: impl.TypeAny, label: inside.label, inside: &inside}
}

func groundTypes() []impl.Type {
	return []impl.Type{intType, boolType, fun(anyType, anyType), pair(anyType, anyType)}
}

// thingOf returns something of a type that depends on the seed. The result of a
// function also depends on what it sees of its argument in this many steps.
func thingOf(x impl.Type, seed string, steps int) thing {
	sum := 7
	for _, sign := range []byte(seed) {
		sum = (31*sum + int(sign)) % 1009
	}
	switch x.Kind {
	case impl.TypeAny:
		inside := thingOf(groundTypes()[sum%4], seed+"?", steps)
		return thing{tag: impl.TypeAny, inside: &inside}
	case impl.TypeFun:
		return thing{tag: x.Kind, apply: func(v thing) thing {
			return thingOf(x.Kids[1], seed+"("+seen(v, x.Kids[0], steps)+")", steps-1)
		}}
	case impl.TypePair:
		part := func(i int) func() thing {
			return func() thing { return thingOf(x.Kids[i], seed+strconv.Itoa(i), steps) }
		}
		return thing{tag: x.Kind, parts: [2]func() thing{part(0), part(1)}}
	}
	return thing{tag: x.Kind, text: strconv.Itoa(sum)}
}

// seen returns what can be seen of something of a type in this many steps.
func seen(v thing, x impl.Type, steps int) string {
	switch {
	case v.label != 0:
		return "fails with " + strconv.Itoa(v.label)
	case x.Kind == impl.TypeAny:
		return "!" + strconv.Itoa(v.inside.tag) + seen(*v.inside, groundTypes()[v.inside.tag-impl.TypeInt], steps)
	case x.Kind <= impl.TypeBool:
		return v.text
	case steps <= 0:
		return "."
	case x.Kind == impl.TypePair:
		return "[" + seen(v.parts[0](), x.Kids[0], steps-1) + "," + seen(v.parts[1](), x.Kids[1], steps-1) + "]"
	}
	text := ""
	for _, seed := range []string{"a", "bc"} {
		text += ">" + seen(v.apply(thingOf(x.Kids[0], seed, steps-1)), x.Kids[1], steps-1)
	}
	return text
}

// A composition has the effect of both coercions, one after the other.
func TestCompositionPerformsBoth(t *testing.T) {
	r := rand.New(rand.NewSource(25))
	results := map[bool]int{}
	for range 6000 {
		list := typedChain(r, 2)
		a, b := list[0], list[1]
		both, ok := impl.ComposeCoercions(a.c, b.c)
		if !ok {
			continue
		}
		for _, seed := range []string{"s", "t", "u", "v"} {
			want := seen(converted(b.c, converted(a.c, thingOf(a.from, seed, 3))), b.to, 3)
			if got := seen(converted(both, thingOf(a.from, seed, 3)), b.to, 3); got != want {
				t.Fatalf("%s and %s: %s differs: %s and %s", coercionText(a.c), coercionText(b.c), coercionText(both), got, want)
			}
			results[strings.HasPrefix(want, "fails")]++
		}
	}
	if results[true] < 1000 || results[false] < 1000 {
		t.Errorf("%v", results)
	}
}

// ledTo reports whether c leads from a type to another one by the rules of the document.
func ledTo(c impl.Coercion, from, to impl.Type) bool {
	ground, _ := impl.GroundOf(from)
	switch c.Kind {
	case impl.CoId:
		return from.Kind == c.Tag && to.Kind == c.Tag
	case impl.CoFun:
		return from.Kind == impl.TypeFun && to.Kind == impl.TypeFun && ledTo(c.Kids[0], to.Kids[0], from.Kids[0]) && ledTo(c.Kids[1], from.Kids[1], to.Kids[1])
	case impl.CoPair:
		return from.Kind == impl.TypePair && to.Kind == impl.TypePair && ledTo(c.Kids[0], from.Kids[0], to.Kids[0]) && ledTo(c.Kids[1], from.Kids[1], to.Kids[1])
	case impl.CoInject:
		return to.Kind == impl.TypeAny && from.Kind == coercionTag(c) && ledTo(c.Kids[0], from, ground)
	case impl.CoProject:
		return from.Kind == impl.TypeAny && ledTo(c.Kids[0], groundTypes()[coercionTag(c.Kids[0])-impl.TypeInt], to)
	}
	return c.Tag == from.Kind
}

func TestCoercionTyped(t *testing.T) {
	for _, c := range []struct {
		text, from, to string
		want           bool
	}{
		{"?", "?", "?", true}, {"I", "I", "I", true}, {"B", "B", "B", true}, {"?", "I", "I", false}, {"?", "?", "I", false}, {"I", "?", "?", false},
		{"I", "I", "?", false}, {"I", "?", "I", false}, {"I", "B", "B", false}, {"I", "I", "B", false}, {"?", "(?>?)", "(?>?)", false},
		{"!I", "I", "?", true}, {"!I", "B", "?", false}, {"!I", "I", "I", false}, {"!I", "?", "?", false}, {"!I", "?", "I", false},
		{"#1.I", "?", "I", true}, {"#1.I", "I", "I", false}, {"#1.I", "?", "?", false}, {"#1.I", "I", "?", false}, {"#1.I", "?", "B", false}, {"#1.!I", "?", "?", true},
		{"(I>B)", "(I>B)", "(I>B)", true}, {"(I>B)", "(B>I)", "(B>I)", false}, {"(I>B)", "(I*B)", "(I*B)", false}, {"(I*B)", "(I*B)", "(I*B)", true},
		{"(I*B)", "(I>B)", "(I>B)", false}, {"(I>I)", "(I>I)", "?", false}, {"(I>I)", "?", "(I>I)", false}, {"(?>?)", "(?>?)", "(?>?)", true},
		// The operands of a function lead from the target to the source, and from the source to the target.
		{"(!I>I)", "(?>I)", "(I>I)", true}, {"(!I>I)", "(I>I)", "(?>I)", false}, {"(#1.I>!B)", "(I>B)", "(?>?)", true}, {"(#1.I>!B)", "(?>?)", "(I>B)", false},
		{"(#1.I>!B)", "(I>B)", "(?>B)", false}, {"((!I>I)>I)", "((I>I)>I)", "((?>I)>I)", true}, {"((!I>I)>I)", "((?>I)>I)", "((I>I)>I)", false},
		// Those of a pair lead from the source to the target.
		{"(!I*#1.B)", "(I*?)", "(?*B)", true}, {"(!I*#1.B)", "(?*B)", "(I*?)", false}, {"((!I*B)*I)", "((I*B)*I)", "((?*B)*I)", true},
		// To and from the ground type.
		{"!(#1.I>!B)", "(I>B)", "?", true}, {"!(I>B)", "(I>B)", "?", false}, {"!(?>?)", "(?>?)", "?", true}, {"!(?>?)", "(?*?)", "?", false}, {"!(!I*?)", "(I*?)", "?", true},
		{"!(?>!B)", "(?>B)", "?", true}, {"#1.(!I>#2.B)", "?", "(I>B)", true}, {"#1.(I>B)", "?", "(I>B)", false}, {"#1.(?*#1.I)", "?", "(?*I)", true}, {"#1.(?*?)", "?", "(?>?)", false},
		{"#1.!(?>?)", "?", "?", true}, {"#1.!(#2.!I>?)", "?", "?", true}, {"#1.!(!I>?)", "?", "?", false},
		// A failure leads from any type of its kind to any type.
		{"X1I", "I", "I", true}, {"X1I", "I", "?", true}, {"X1I", "I", "(B>?)", true}, {"X1I", "?", "I", false}, {"X1I", "B", "I", false}, {"X1>", "(I>B)", "(I*B)", true},
		{"X1>", "(?>(I>I))", "B", true}, {"X1*", "(I>I)", "I", false}, {"X1*", "(I*I)", "?", true}, {"#1.X2I", "?", "(B*B)", true}, {"#1.X2I", "I", "B", false},
		{"(X1I>X2B)", "(I>B)", "(I>I)", true}, {"(X1I>X2B)", "(B>B)", "(I>?)", true}, {"(X1I>X2B)", "(I>B)", "(B>I)", false}, {"(X1I*X2B)", "(I*B)", "((I>I)*?)", true},
		{"!(X1I*X2B)", "(I*B)", "?", true}, {"!(X1I>?)", "(?>?)", "?", false}, {"!(?>X1I)", "(?>I)", "?", true}, {"#3.(?>#1.X2I)", "?", "(?>B)", true},
	} {
		if got := impl.CoercionTyped(parseCoercion(t, c.text), parse(t, c.from), parse(t, c.to)); got != c.want {
			t.Errorf("CoercionTyped(%s, %s, %s) = %v", c.text, c.from, c.to, got)
		}
	}
}

func TestTypesOfSmallCoercions(t *testing.T) {
	list, found := allTypes(2), 0
	for _, c := range smallCoercions(2, 1) {
		for _, from := range list {
			for _, to := range list {
				got := impl.CoercionTyped(c, from, to)
				if got != ledTo(c, from, to) {
					t.Fatalf("CoercionTyped(%s, %s, %s) = %v", coercionText(c), impl.FormatType(from), impl.FormatType(to), got)
				}
				if got {
					found++
				}
			}
		}
	}
	if found < 500 {
		t.Errorf("only %d times a coercion leads from a type to another one", found)
	}
	r := rand.New(rand.NewSource(26))
	for range 5000 {
		x := typedChain(r, 1)[0]
		if !impl.CoercionTyped(x.c, x.from, x.to) {
			t.Fatalf("CoercionTyped(%s, %s, %s) = false", coercionText(x.c), impl.FormatType(x.from), impl.FormatType(x.to))
		}
		for _, other := range []impl.Type{mixedType(r, 3), blurred(r, x.from), blurred(r, x.to)} {
			if impl.CoercionTyped(x.c, other, x.to) != ledTo(x.c, other, x.to) || impl.CoercionTyped(x.c, x.from, other) != ledTo(x.c, x.from, other) {
				t.Fatalf("%s: wrong for %s", coercionText(x.c), impl.FormatType(other))
			}
		}
	}
	for what, bad := range invalidTypes() {
		for _, c := range []impl.Coercion{anyId, intId, coFail(1, impl.TypeFun), coFail(1, impl.TypeInt), project(1, coFail(2, impl.TypeInt)), coFun(anyId, anyId), inject(intId)} {
			for _, other := range []impl.Type{anyType, intType, fun(anyType, anyType), bad} {
				if impl.CoercionTyped(c, bad, other) || impl.CoercionTyped(c, other, bad) {
					t.Errorf("%s leads from or to an invalid type, %s", coercionText(c), what)
				}
			}
		}
	}
}

func TestMeasuresOfCoercions(t *testing.T) {
	for _, c := range []struct {
		text     string
		height   int
		identity bool
		labels   []int
	}{
		{"?", 1, true, nil}, {"I", 1, true, nil}, {"B", 1, true, nil}, {"X1I", 1, false, []int{1}}, {"X-99>", 1, false, []int{-99}},
		{"!I", 1, false, nil}, {"#1.I", 1, false, []int{1}}, {"#1.!I", 1, false, []int{1}}, {"#1.X2*", 1, false, []int{1, 2}}, {"#2.X1*", 1, false, []int{1, 2}},
		{"(?>?)", 2, true, nil}, {"(I*B)", 2, true, nil}, {"((?>I)*B)", 3, true, nil}, {"(B>(?*(I>I)))", 4, true, nil}, {"!(?>?)", 2, false, nil}, {"#7.(?*?)", 2, false, []int{7}},
		{"(!I>I)", 2, false, nil}, {"(I>!I)", 2, false, nil}, {"(#5.I*I)", 2, false, []int{5}}, {"(I*X5I)", 2, false, []int{5}}, {"((I>I)*(I>X3I))", 3, false, []int{3}},
		{"#-2.((I>!B)*X5I)", 3, false, []int{-2, 5}}, {"(#1.I>#-1.I)", 2, false, []int{-1, 1}}, {"(#1.I>#1.I)", 2, false, []int{1}}, {"(X2I*(#1.B*X2I))", 3, false, []int{1, 2}},
		{"#9.!(#8.!(#7.!I>X-8I)>?)", 3, false, []int{-8, 7, 8, 9}}, {"((#-1.B>#10.B)>(#2.B>#-10.B))", 3, false, []int{-10, -1, 2, 10}},
		{"((((((((I>I)>I)>I)>I)>I)>I)>I)>I)", 9, true, nil}, {"!(((((((I>I)>I)>I)>I)>I)>I)>I)", 8, false, nil},
	} {
		x := parseCoercion(t, c.text)
		if impl.CoercionHeight(x) != c.height || impl.CoercionIdentity(x) != c.identity || !slices.Equal(impl.CoercionLabels(x), c.labels) {
			t.Errorf("%s: height %d, identity %v, labels %v", c.text, impl.CoercionHeight(x), impl.CoercionIdentity(x), impl.CoercionLabels(x))
		}
	}
}

func TestMeasuresOfManyCoercions(t *testing.T) {
	var height func(c impl.Coercion) int
	height = func(c impl.Coercion) int {
		switch c.Kind {
		case impl.CoFun, impl.CoPair:
			return 1 + max(height(c.Kids[0]), height(c.Kids[1]))
		case impl.CoInject, impl.CoProject:
			return height(c.Kids[0])
		}
		return 1
	}
	for _, c := range append(smallCoercions(2, 1, -2), mixedCoercions()...) {
		identity, found := true, map[int]bool{}
		for _, x := range everyCoercion(c) {
			identity = identity && x.Kind <= impl.CoPair
			if x.Kind >= impl.CoProject {
				found[x.Label] = true
			}
		}
		if impl.CoercionHeight(c) != height(c) || impl.CoercionIdentity(c) != identity {
			t.Fatalf("%s: height %d, identity %v", coercionText(c), impl.CoercionHeight(c), impl.CoercionIdentity(c))
		}
		if labels := impl.CoercionLabels(c); !slices.Equal(labels, slices.Sorted(maps.Keys(found))) {
			t.Fatalf("CoercionLabels(%s) = %v", coercionText(c), labels)
		}
	}
}

// overwriteCoercion changes all the memory that a coercion can reach, with the unused capacity of its slices.
func overwriteCoercion(c impl.Coercion) {
	kids := c.Kids[:cap(c.Kids)]
	for i := range kids {
		overwriteCoercion(kids[i])
		kids[i] = impl.Coercion{Kind: 77}
	}
}

// roomyCoercion returns c with all slices, even the empty ones, having unused capacity.
func roomyCoercion(c impl.Coercion) impl.Coercion {
	kids := make([]impl.Coercion, 0, 5)
	for _, kid := range c.Kids {
		kids = append(kids, roomyCoercion(kid))
	}
	c.Kids = kids
	return c
}

// markedCoercion reports whether memory that roomyCoercion left unused has been written to.
func markedCoercion(c impl.Coercion) bool {
	unused := c.Kids[len(c.Kids):cap(c.Kids)]
	return slices.ContainsFunc(unused, func(kid impl.Coercion) bool { return !isZeroCoercion(kid) }) || slices.ContainsFunc(c.Kids, markedCoercion)
}

// reusedCoercion reports whether a slice with capacity occurs twice in the given coercions.
func reusedCoercion(list ...impl.Coercion) bool {
	places := map[*impl.Coercion]bool{}
	var again func(c impl.Coercion) bool
	again = func(c impl.Coercion) bool {
		kids := c.Kids[:cap(c.Kids)]
		for i := range kids {
			if places[&kids[i]] {
				return true
			}
			places[&kids[i]] = true
		}
		return slices.ContainsFunc(kids, again)
	}
	return slices.ContainsFunc(list, again)
}

func TestCoercionResultsAreNewMemory(t *testing.T) {
	for _, plainA := range smallCoercions(2, 1) {
		for _, plainB := range append(smallCoercions(1, 1), plainA, project(3, intId), project(3, coFun(anyId, anyId)), project(3, coPair(intId, intId)), inject(coFun(anyId, anyId)), coFun(coFun(anyId, anyId), intId)) {
			a, b := roomyCoercion(plainA), roomyCoercion(plainB)
			first, _ := impl.ComposeCoercions(a, b)
			second, _ := impl.ComposeCoercions(a, b)
			self, _ := impl.ComposeCoercions(a, a)
			text := coercionText(second)
			if reusedCoercion(a, b, first, second, self) {
				t.Fatalf("the results for %s and %s share memory", coercionText(a), coercionText(b))
			}
			overwriteCoercion(first)
			overwriteCoercion(self)
			if !impl.CoercionSame(a, plainA) || !impl.CoercionSame(b, plainB) || markedCoercion(a) || markedCoercion(b) || coercionText(second) != text {
				t.Fatalf("%s or %s has been changed", coercionText(plainA), coercionText(plainB))
			}
		}
	}
	shared := coFun(intId, intId)
	twice := coPair(shared, shared)
	both, _ := impl.ComposeCoercions(twice, twice)
	shape := fun(pair(intType, intType), pair(intType, intType))
	cast, _ := impl.CoerceOf(shape, anyType, 1)
	again, _ := impl.CoerceOf(shape, anyType, 1)
	read, _ := impl.ParseCoercion("((I>!I)*(I>!I))")
	if reusedCoercion(both, cast, again, read) {
		t.Error("results share memory")
	}
	labels := impl.CoercionLabels(cast)
	if labels[0] = 50; !impl.CoercionSame(cast, again) || impl.CoercionLabels(cast)[0] != -1 {
		t.Errorf("a change of the labels changes the coercion to %s", coercionText(cast))
	}
}

func TestCoercionArgumentsAreNotChanged(t *testing.T) {
	for _, plain := range []impl.Coercion{intId, coFun(inject(intId), project(1, intId)), coPair(coFail(3, impl.TypeInt), anyId), inject(coPair(anyId, anyId)), project(-2, inject(boolId)), coFail(9, impl.TypePair)} {
		kids := append(slices.Clone(plain.Kids), impl.Coercion{Kind: 41}, impl.Coercion{Kind: 42})
		c := plain
		c.Kids = kids[:len(plain.Kids)]
		from := roomyType(fun(intType, anyType))
		impl.CoercionValid(c)
		impl.CoercionSame(c, c)
		impl.FormatCoercion(c)
		impl.ComposeCoercions(c, c)
		impl.ComposeCoercions(c, anyId)
		impl.CoercionTyped(c, from, from)
		impl.CoercionHeight(c)
		impl.CoercionLabels(c)
		impl.CoercionIdentity(c)
		impl.CoerceOf(from, from, 1)
		if !impl.CoercionSame(c, plain) || kids[len(kids)-2].Kind != 41 || kids[len(kids)-1].Kind != 42 || markedType(from) {
			t.Errorf("%s has been changed", coercionText(plain))
		}
	}
}
