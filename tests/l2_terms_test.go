package tests

import (
	"math/rand"
	"slices"
	"strconv"
	"strings"
	"testing"

	"loop.example/gradual/impl"
)

// Promise 2: Terms are read back from their texts, and a term without a free
// variable is unchanged by substitution for it.

func name(text string) impl.Term { return impl.Term{Kind: impl.TermVar, Name: text} }

func num(n int) impl.Term { return impl.Term{Kind: impl.TermNum, Num: n} }

func lam(variable string, x impl.Type, body impl.Term) impl.Term {
	return impl.Term{Kind: impl.TermLam, Name: variable, Type: x, Kids: []impl.Term{body}}
}

func as(e impl.Term, x impl.Type) impl.Term {
	return impl.Term{Kind: impl.TermAs, Type: x, Kids: []impl.Term{e}}
}

// node returns a term of a kind without fields.
func node(kind int, kids ...impl.Term) impl.Term {
	return impl.Term{Kind: kind, Kids: slices.Clone(kids)}
}

var (
	trueTerm  = node(impl.TermTrue)
	falseTerm = node(impl.TermFalse)
)

// smallTerms returns terms of the depth 1 and of the depth 2, each kind with all combinations of some leaves.
func smallTerms() []impl.Term {
	leaves := []impl.Term{name("a"), name("x"), name("z"), num(0), num(999), trueTerm, falseTerm}
	list := slices.Clone(leaves)
	for _, a := range leaves {
		list = append(list, node(impl.TermFst, a), node(impl.TermSnd, a))
		for _, x := range []impl.Type{anyType, intType, fun(boolType, anyType)} {
			list = append(list, as(a, x), lam("a", x, a), lam("x", x, a))
		}
		for _, b := range leaves {
			for _, kind := range []int{impl.TermApp, impl.TermAdd, impl.TermLess, impl.TermPair} {
				list = append(list, node(kind, a, b))
			}
			for _, c := range leaves {
				list = append(list, node(impl.TermIf, a, b, c))
			}
		}
	}
	return list
}

// mixedTerm returns a term with a depth of at most depth, which random numbers choose.
func mixedTerm(r *rand.Rand, depth int) impl.Term {
	kind := 1 + r.Intn(13)
	if depth == 1 {
		kind = 1 + r.Intn(4)
	}
	e := impl.Term{Kind: kind}
	if kind == impl.TermVar || kind == impl.TermLam {
		e.Name = string(rune('a' + r.Intn(4)))
	}
	if kind == impl.TermNum {
		e.Num = r.Intn(1000)
	}
	if kind == impl.TermLam || kind == impl.TermAs {
		e.Type = mixedType(r, 1+r.Intn(4))
	}
	for range operands(kind) {
		e.Kids = append(e.Kids, mixedTerm(r, depth-1))
	}
	return e
}

func mixedType(r *rand.Rand, depth int) impl.Type {
	kind := 1 + r.Intn(5)
	if depth == 1 || kind < impl.TypeFun {
		return impl.Type{Kind: 1 + r.Intn(3)}
	}
	return impl.Type{Kind: kind, Kids: []impl.Type{mixedType(r, depth-1), mixedType(r, depth-1)}}
}

func operands(kind int) int {
	switch kind {
	case impl.TermVar, impl.TermNum, impl.TermTrue, impl.TermFalse:
		return 0
	case impl.TermLam, impl.TermFst, impl.TermSnd, impl.TermAs, impl.TermCast:
		return 1
	case impl.TermIf:
		return 3
	}
	return 2
}

// mixedTerms returns valid terms, among them the small ones.
func mixedTerms() []impl.Term {
	r := rand.New(rand.NewSource(2))
	list := smallTerms()
	for len(list) < 3000 {
		if e := mixedTerm(r, 2+r.Intn(11)); nodes(e) <= 30 {
			list = append(list, e)
		}
	}
	return list
}

func nodes(e impl.Term) int {
	count := 1
	for _, kid := range e.Kids {
		count += nodes(kid)
	}
	return count
}

// textOf returns the text of a term as the document shows it.
func textOf(e impl.Term) string {
	kids := make([]string, 3)
	for i, kid := range e.Kids {
		kids[i] = textOf(kid)
	}
	a, b, c := kids[0], kids[1], kids[2]
	return map[int]string{
		impl.TermVar:   e.Name,
		impl.TermNum:   strconv.Itoa(e.Num),
		impl.TermTrue:  "T",
		impl.TermFalse: "F",
		impl.TermLam:   "!" + e.Name + ":" + impl.FormatType(e.Type) + "." + a,
		impl.TermApp:   "(" + a + " " + b + ")",
		impl.TermAdd:   "(" + a + "+" + b + ")",
		impl.TermLess:  "(" + a + "<" + b + ")",
		impl.TermIf:    "{" + a + "?" + b + ":" + c + "}",
		impl.TermPair:  "[" + a + "," + b + "]",
		impl.TermFst:   "$" + a,
		impl.TermSnd:   "%" + a,
		impl.TermAs:    "(" + a + ":" + impl.FormatType(e.Type) + ")",
		impl.TermCast:  "(" + a + ":" + impl.FormatType(e.From) + "~" + impl.FormatType(e.Type) + "#" + strconv.Itoa(e.Label) + ")",
	}[e.Kind]
}

// deepTerm returns a term of the given depth, each node of which is the operand
// of the next one that has this index.
func deepTerm(kind int, index int, depth int) impl.Term {
	e := num(1)
	for range depth - 1 {
		kids := slices.Repeat([]impl.Term{num(1)}, operands(kind))
		kids[index] = e
		e = impl.Term{Kind: kind, Kids: kids}
		if kind == impl.TermLam {
			e.Name = "x"
		}
		if kind == impl.TermLam || kind == impl.TermAs {
			e.Type = intType
		}
		if kind == impl.TermCast {
			e.From, e.Type, e.Label = intType, intType, 1
		}
	}
	return e
}

// wideTerm returns a closed term of this many nodes whose depth is small.
func wideTerm(count int) impl.Term {
	switch count {
	case 1:
		return num(1)
	case 2:
		return node(impl.TermFst, num(1))
	}
	left := (count - 1) / 2
	return node(impl.TermApp, wideTerm(left), wideTerm(count-1-left))
}

// selfTerm returns a term that contains itself, with the given number of operands.
func selfTerm(kind int, count int) impl.Term {
	kids := make([]impl.Term, count)
	for i := range kids {
		kids[i] = impl.Term{Kind: kind, Kids: kids}
	}
	return impl.Term{Kind: kind, Kids: kids}
}

func parseTerm(t *testing.T, text string) impl.Term {
	t.Helper()
	e, ok := impl.ParseTerm(text)
	if !ok {
		t.Fatalf("ParseTerm(%q) finds no term", text)
	}
	return e
}

func isZeroTerm(e impl.Term) bool {
	return e.Kind == 0 && e.Name == "" && e.Num == 0 && isZero(e.Type) && isZero(e.From) && e.Label == 0 && len(e.Kids) == 0
}

func TestTermExample(t *testing.T) {
	e := parseTerm(t, "(!x:I.(x+1) 2)")
	want := node(impl.TermApp, lam("x", intType, node(impl.TermAdd, name("x"), num(1))), num(2))
	if !impl.TermSame(e, want) {
		t.Errorf("ParseTerm = %v", e)
	}
	if erased, ok := impl.EraseTerm(e); !ok || impl.FormatTerm(erased) != "(!x:?.(x+1) 2)" {
		t.Errorf("EraseTerm = %v, %v", erased, ok)
	}
}

func TestTermKinds(t *testing.T) {
	kinds := []int{
		impl.TermVar, impl.TermNum, impl.TermTrue, impl.TermFalse, impl.TermLam, impl.TermApp, impl.TermAdd,
		impl.TermLess, impl.TermIf, impl.TermPair, impl.TermFst, impl.TermSnd, impl.TermAs, impl.TermCast,
	}
	for i, kind := range kinds {
		if kind != i+1 {
			t.Errorf("constant %d of the kinds is %d", i, kind)
		}
	}
	if impl.MaxNumber != 999 || impl.MaxNodes != 30 || impl.MaxDepth != 12 {
		t.Errorf("limits: %d, %d, %d", impl.MaxNumber, impl.MaxNodes, impl.MaxDepth)
	}
}

func TestTermTexts(t *testing.T) {
	x, y := name("x"), name("y")
	for text, want := range map[string]impl.Term{
		"a":                   name("a"),
		"z":                   name("z"),
		"0":                   num(0),
		"10":                  num(10),
		"999":                 num(999),
		"T":                   trueTerm,
		"F":                   falseTerm,
		"!x:I.x":              lam("x", intType, x),
		"!d:(?>(B*I)).T":      lam("d", fun(anyType, pair(boolType, intType)), trueTerm),
		"!x:?.!x:B.x":         lam("x", anyType, lam("x", boolType, x)),
		"(x y)":               node(impl.TermApp, x, y),
		"(1 2)":               node(impl.TermApp, num(1), num(2)),
		"((x y) 1)":           node(impl.TermApp, node(impl.TermApp, x, y), num(1)),
		"(x (y 1))":           node(impl.TermApp, x, node(impl.TermApp, y, num(1))),
		"(!x:I.x 2)":          node(impl.TermApp, lam("x", intType, x), num(2)),
		"!x:I.(x 2)":          lam("x", intType, node(impl.TermApp, x, num(2))),
		"(x+12)":              node(impl.TermAdd, x, num(12)),
		"(7<y)":               node(impl.TermLess, num(7), y),
		"{T?1:F}":             node(impl.TermIf, trueTerm, num(1), falseTerm),
		"{(T:?)?(x:I):(y:B)}": node(impl.TermIf, as(trueTerm, anyType), as(x, intType), as(y, boolType)),
		"{!x:?.x?!x:?.x:!x:?.x}": node(impl.TermIf, lam("x", anyType, x), lam("x", anyType, x),
			lam("x", anyType, x)),
		"[x,[1,T]]":             node(impl.TermPair, x, node(impl.TermPair, num(1), trueTerm)),
		"$x":                    node(impl.TermFst, x),
		"%12":                   node(impl.TermSnd, num(12)),
		"$%$x":                  node(impl.TermFst, node(impl.TermSnd, node(impl.TermFst, x))),
		"(x:?)":                 as(x, anyType),
		"(!x:I.x:(I>I))":        as(lam("x", intType, x), fun(intType, intType)),
		"((1:?):(((I>I)>I)*B))": as(as(num(1), anyType), pair(fun(fun(intType, intType), intType), boolType)),
	} {
		if e := parseTerm(t, text); !impl.TermSame(e, want) {
			t.Errorf("ParseTerm(%q) = %v", text, e)
		}
		if got := impl.FormatTerm(want); got != text {
			t.Errorf("the text of %q is %q", text, got)
		}
		if got := impl.CountNodes(want); got != nodes(want) {
			t.Errorf("CountNodes(%q) = %d", text, got)
		}
	}
}

func TestTermsAreReadBack(t *testing.T) {
	for _, e := range mixedTerms() {
		text := textOf(e)
		if !impl.TermValid(e) || impl.FormatTerm(e) != text || impl.CountNodes(e) != nodes(e) {
			t.Fatalf("%q: text %q, %d nodes", text, impl.FormatTerm(e), impl.CountNodes(e))
		}
		if back, ok := impl.ParseTerm(text); !ok || !impl.TermSame(back, e) {
			t.Fatalf("ParseTerm(%q) = %v, %v", text, back, ok)
		}
	}
}

func TestTermNumbers(t *testing.T) {
	for _, n := range []int{0, 1, 9, 10, 99, 100, 998, 999} {
		text := strconv.Itoa(n)
		if e := parseTerm(t, text); e.Kind != impl.TermNum || e.Num != n || impl.FormatTerm(num(n)) != text {
			t.Errorf("ParseTerm(%q) = %v", text, e)
		}
	}
	for _, n := range []int{-1000, -1, 1000, 1001, 1 << 40, -1 << 63, 1<<63 - 1} {
		if impl.TermValid(num(n)) || impl.FormatTerm(num(n)) != "" {
			t.Errorf("the number %d is accepted", n)
		}
	}
	texts := []string{
		"00", "01", "007", "0999", "1000", "9990", "0x1", "1x", "-1", "-0", "+1", "1.0", "1e2", "18446744073709551617",
		strings.Repeat("9", 100000), strings.Repeat("0", 100000), "٣",
	}
	for _, digits := range texts {
		for _, text := range []string{digits, "(x " + digits + ")", "$" + digits, "[" + digits + ",1]", "{" + digits + "?1:2}"} {
			if e, ok := impl.ParseTerm(text); ok || !isZeroTerm(e) {
				t.Errorf("ParseTerm(%.40q) = %v, %v", text, e, ok)
			}
		}
	}
}

func TestTextsThatAreNoTerms(t *testing.T) {
	texts := []string{
		"", " ", "A", "X", "I", "B", "?", "n1", "xy", "x ", " x", "x\n", "x\x00", "\x00", "\xff", "ä", "é", "T T",
		"()", "(x)", "(x", "x)", "(x ", "(x y", "( x)", "(x )", "(x  y)", "(x y )", "( x y)", "(x y z)", "(xy)", "(x\ty)",
		"(x-y)", "(x*y)", "(x>y)", "(x=y)", "(x+y+z)", "(+x)", "(x+)", "(x+y", "x+y", "x<y", "x y", "(x<)", "(<x)",
		"!", "!x", "!x.x", "!x:", "!x:I", "!x:I.", "!:I.x", "!X:I.x", "!xy:I.x", "!1:I.x", "!x:i.x", "!x:I>I.x", "!x I.x",
		"!x:(I>I.x", "!x:((((I>I)>I)>I)>I).x", "!x:.x", "!x:I:x", "!x:I,x", "!x: I.x", "!ä:I.x", "!x:I.x y", "(!x:I.)",
		"{}", "{T}", "{T?1}", "{T?1:}", "{T?:1}", "{?1:2}", "{T?1:2", "{T:1?2}", "{T?1:2:3}", "{T?1:2?3}", "T?1:2", "{T?1?2}",
		"[]", "[x]", "[x,]", "[,x]", "[x,y", "[x,y,z]", "[x;y]", "[x y]", "(x,y)", "x,y",
		"$", "%", "$ x", "$$", "x$", "&x", "$(x)", "$x y",
		"(:I)", "(x:)", "(x:I", "x:I", "(x:I:B)", "(x:(I>I)", "(x :I)", "(x: I)", "(x:((((I>I)>I)>I)>I))", "(x:1)", "(x:y)",
		"(x:I~?#1)", "(x:I~?)", "(x:?~I#-1)", "(1:I~?#99)", "{x:I~?#1}", "(x:I#1)", "((x:I~?#1)+1)", "(x~I)",
		strings.Repeat("(", 1000000), strings.Repeat("$", 1000000) + "x", strings.Repeat("!x:I.", 200000) + "x",
		strings.Repeat("(x+", 200000) + "x" + strings.Repeat(")", 200000), strings.Repeat("{T?1:", 200000),
		"!x:" + strings.Repeat("(", 1000000),
	}
	for _, text := range texts {
		if e, ok := impl.ParseTerm(text); ok || !isZeroTerm(e) {
			t.Errorf("ParseTerm(%.40q) = %v, %v", text, e, ok)
		}
	}
}

// textsOfLength returns the texts of this length of terms that mention only some names, digits and types.
func textsOfLength(length int, known map[int][]string) []string {
	list := []string{}
	if length == 1 {
		list = []string{"x", "0", "2", "T"}
	}
	if length == 2 || length == 3 {
		for n := range 1000 {
			if text := strconv.Itoa(n); len(text) == length && strings.Trim(text, "02") == "" {
				list = append(list, text)
			}
		}
	}
	for _, a := range known[length-1] {
		list = append(list, "$"+a)
	}
	for _, a := range known[length-4] {
		list = append(list, "("+a+":I)")
	}
	for _, a := range known[length-5] {
		list = append(list, "!x:I."+a)
	}
	for first := range length {
		for _, a := range known[first] {
			for _, b := range known[length-3-first] {
				list = append(list, "("+a+" "+b+")", "("+a+"+"+b+")", "["+a+","+b+"]")
			}
		}
	}
	return list
}

// Every short text over these signs is accepted exactly if it is the text of a
// term, alone and as the text of an operand of a TermLam or a TermIf.
func TestAllShortTermTexts(t *testing.T) {
	known := map[int][]string{}
	terms := map[string]bool{}
	for length := 1; length <= 5; length++ {
		known[length] = textsOfLength(length, known)
		for _, text := range known[length] {
			terms[text] = true
		}
	}
	found := 0
	var try func(text string)
	try = func(text string) {
		e, ok := impl.ParseTerm(text)
		if ok != terms[text] || ok && impl.FormatTerm(e) != text || !ok && !isZeroTerm(e) {
			t.Errorf("ParseTerm(%q) = %v, %v", text, e, ok)
		}
		if ok {
			found++
		}
		for _, wrapped := range []string{"!x:I." + text, "{" + text + "?1:2}", "{1?" + text + ":2}", "{1?2:" + text + "}"} {
			if _, got := impl.ParseTerm(wrapped); len(text) < 4 && got != ok && !strings.ContainsAny(text, "?:") {
				t.Errorf("ParseTerm(%q) = %v", wrapped, got)
			}
		}
		if len(text) < 5 {
			for _, sign := range "x02T$(I: +)[,]" {
				try(text + string(sign))
			}
		}
	}
	try("")
	if found != len(terms) {
		t.Errorf("%d of %d texts are accepted", found, len(terms))
	}
}

// A text that is accepted is the text of the term that is found, however it came about.
func TestChangedTextsOfTerms(t *testing.T) {
	signs := "xT01?IB(>*)!:.+ <{}[,]$%~#-\x00\xff"
	for i, e := range mixedTerms() {
		if i%10 != 0 {
			continue
		}
		text := textOf(e)
		for at := range len(text) {
			changed := []string{text[:at], text[at:], text[:at] + text[at+1:]}
			for _, sign := range []byte(signs) {
				changed = append(changed, text[:at]+string([]byte{sign})+text[at:], text[:at]+string([]byte{sign})+text[at+1:])
			}
			for _, other := range changed {
				got, ok := impl.ParseTerm(other)
				if ok && (textOf(got) != other || !impl.TermValid(got)) || !ok && !isZeroTerm(got) {
					t.Fatalf("ParseTerm(%q) = %v, %v", other, got, ok)
				}
			}
		}
	}
}

func TestTermNodeLimit(t *testing.T) {
	for count := 1; count <= 30; count++ {
		e := wideTerm(count)
		if !impl.TermValid(e) || impl.CountNodes(e) != count || !impl.TermSame(parseTerm(t, textOf(e)), e) {
			t.Errorf("a term of %d nodes is not accepted", count)
		}
	}
	for _, count := range []int{31, 32, 60, 2000} {
		expectNoTerm(t, strconv.Itoa(count)+" nodes", wideTerm(count))
		if _, ok := impl.ParseTerm(textOf(wideTerm(count))); ok {
			t.Errorf("the text of a term of %d nodes is accepted", count)
		}
	}
	// As wide as the depth allows, so that only the count of nodes stops it.
	e := num(1)
	for range 11 {
		e = node(impl.TermIf, e, e, e)
	}
	expectNoTerm(t, "the widest term", e)
	if _, ok := impl.ParseTerm(textOf(e)); ok {
		t.Error("the text of the widest term is accepted")
	}
}

func TestTermDepthLimit(t *testing.T) {
	for kind := impl.TermLam; kind <= impl.TermAs; kind++ {
		for index := range operands(kind) {
			last, over := deepTerm(kind, index, 12), deepTerm(kind, index, 13)
			if kind == impl.TermIf { // 11 of these would have too many nodes
				last, over = deepTerm(impl.TermFst, 0, 11), deepTerm(impl.TermFst, 0, 12)
				kids := []impl.Term{num(1), num(1), num(1)}
				kids[index] = last
				last = node(kind, kids...)
				kids[index] = over
				over = node(kind, kids...)
			}
			text := textOf(last)
			if !impl.TermValid(last) || !impl.TermSame(parseTerm(t, text), last) || impl.FormatTerm(last) != text {
				t.Errorf("%q is not accepted", text)
			}
			expectNoTerm(t, "a depth of 13", over)
			if e, ok := impl.ParseTerm(textOf(over)); ok || !isZeroTerm(e) {
				t.Errorf("ParseTerm(%q) = %v, %v", textOf(over), e, ok)
			}
		}
	}
}

func TestTypeDepthInTerms(t *testing.T) {
	for _, e := range []impl.Term{lam("x", leftChain(4), name("x")), as(num(1), rightChain(4))} {
		if !impl.TermSame(parseTerm(t, textOf(e)), e) {
			t.Errorf("%q is not accepted", textOf(e))
		}
	}
	expectNoTerm(t, "a deep type of a function", lam("x", leftChain(5), name("x")))
	expectNoTerm(t, "a deep type of a TermAs", as(num(1), rightChain(5)))
}

// expectNoTerm checks the result of every function for a term that is not valid.
func expectNoTerm(t *testing.T, what string, bad impl.Term) {
	t.Helper()
	if impl.TermValid(bad) || impl.FormatTerm(bad) != "" || impl.FreeNames(bad) != "" || impl.CountNodes(bad) != 0 || len(impl.TermTypes(bad)) != 0 {
		t.Errorf("%s: treated as a term", what)
	}
	if e, ok := impl.EraseTerm(bad); ok || !isZeroTerm(e) {
		t.Errorf("%s: EraseTerm = %v, %v", what, e, ok)
	}
	for count := range 3 {
		if e, ok := impl.WithTypes(bad, slices.Repeat([]impl.Type{anyType}, count)); ok || !isZeroTerm(e) {
			t.Errorf("%s: WithTypes = %v, %v", what, e, ok)
		}
	}
	for _, args := range [][2]impl.Term{{bad, num(1)}, {name("x"), bad}, {num(1), bad}, {bad, bad}} {
		if e, ok := impl.SubstTerm(args[0], "x", args[1]); ok || !isZeroTerm(e) {
			t.Errorf("%s: SubstTerm = %v, %v", what, e, ok)
		}
	}
	expectNoTyping(t, what, bad)
	expectNoInsertion(t, what, bad)
	expectNoGuarantee(t, what, bad)
	expectNoMigration(t, what, bad)
	expectNoConfigs(t, what, bad, 0, 300)
	expectNoConfigCasts(t, what, bad)
}

// oneOfEach returns a valid term of each kind from 1 to 13.
func oneOfEach() []impl.Term {
	return []impl.Term{
		name("x"), num(7), trueTerm, falseTerm, lam("y", intType, name("y")), node(impl.TermApp, num(1), num(2)),
		node(impl.TermAdd, num(1), num(2)), node(impl.TermLess, num(1), num(2)), node(impl.TermIf, trueTerm, num(1), num(2)),
		node(impl.TermPair, num(1), num(2)), node(impl.TermFst, num(1)), node(impl.TermSnd, num(1)), as(num(1), boolType),
	}
}

// changesOf returns changes of a node that make it invalid, both as a term and as a term with casts.
func changesOf(good impl.Term) map[string]func(e *impl.Term) {
	changes := map[string]func(e *impl.Term){
		"kind 0":              func(e *impl.Term) { e.Kind = 0 },
		"kind -1":             func(e *impl.Term) { e.Kind = -1 },
		"kind 15":             func(e *impl.Term) { e.Kind = 15 },
		"a large kind":        func(e *impl.Term) { e.Kind = 1<<63 - 1 },
		"source operands":     func(e *impl.Term) { e.From.Kids = []impl.Type{{}} },
		"another operand":     func(e *impl.Term) { e.Kids = append(e.Kids, num(1)) },
		"a negative number":   func(e *impl.Term) { e.Num = -1 },
		"a large number":      func(e *impl.Term) { e.Num = 1000 },
		"operands of no type": func(e *impl.Term) { e.Type = impl.Type{Kids: []impl.Type{anyType, anyType}} },
		"an unknown type":     func(e *impl.Term) { e.Type = impl.Type{Kind: 6} },
		"a long name":         func(e *impl.Term) { e.Name = "xy" },
		"an uppercase name":   func(e *impl.Term) { e.Name = "X" },
		"a name below a":      func(e *impl.Term) { e.Name = "`" },
		"a name above z":      func(e *impl.Term) { e.Name = "{" },
		"a digit as a name":   func(e *impl.Term) { e.Name = "1" },
		"a name of two bytes": func(e *impl.Term) { e.Name = "é" },
		"a zero byte":         func(e *impl.Term) { e.Name = "\x00" },
		"a name with a space": func(e *impl.Term) { e.Name = "x " },
	}
	if n := len(good.Kids); n > 0 {
		changes["an operand less"] = func(e *impl.Term) { e.Kids = e.Kids[:n-1] }
		changes["an invalid operand"] = func(e *impl.Term) { e.Kids[n-1] = impl.Term{} }
	}
	if good.Kind == impl.TermVar || good.Kind == impl.TermLam {
		changes["no name"] = func(e *impl.Term) { e.Name = "" }
	} else {
		changes["a name"] = func(e *impl.Term) { e.Name = "x" }
	}
	if good.Kind == impl.TermLam || good.Kind == impl.TermAs || good.Kind == impl.TermCast {
		changes["no type"] = func(e *impl.Term) { e.Type = impl.Type{} }
		changes["a type that is too deep"] = func(e *impl.Term) { e.Type = leftChain(5) }
		changes["a type that contains itself"] = func(e *impl.Term) { e.Type = selfType(impl.TypeFun, 2) }
	} else {
		changes["a type"] = func(e *impl.Term) { e.Type = anyType }
	}
	if good.Kind != impl.TermNum {
		changes["a number"] = func(e *impl.Term) { e.Num = 1 }
	}
	if good.Kind != impl.TermCast {
		changes["a source type"] = func(e *impl.Term) { e.From = anyType }
		changes["a label"] = func(e *impl.Term) { e.Label = 1 }
		changes["a negative label"] = func(e *impl.Term) { e.Label = -1 }
	}
	return changes
}

// expectInvalid changes a node and calls expect with the result, alone and in other terms.
func expectInvalid(t *testing.T, good impl.Term, changes map[string]func(e *impl.Term), expect func(t *testing.T, what string, bad impl.Term)) {
	t.Helper()
	for what, change := range changes {
		bad := good
		bad.Kids = slices.Clone(good.Kids)
		change(&bad)
		what = "kind " + strconv.Itoa(good.Kind) + ", " + what
		expect(t, what, bad)
		expect(t, what+", below a pair", node(impl.TermPair, num(1), bad))
		expect(t, what+", in a function", lam("x", anyType, node(impl.TermSnd, bad)))
	}
}

func TestInvalidNodes(t *testing.T) {
	for _, good := range oneOfEach() {
		if !impl.TermValid(good) {
			t.Errorf("kind %d is not accepted", good.Kind)
		}
		changes := changesOf(good)
		changes["kind 14"] = func(e *impl.Term) { e.Kind = impl.TermCast }
		changes["a cast"] = func(e *impl.Term) { *e = castOf(*e, intType, anyType, 1) }
		if len(good.Kids) > 0 {
			changes["a cast as an operand"] = func(e *impl.Term) { e.Kids[0] = castOf(num(1), intType, anyType, 1) }
		}
		expectInvalid(t, good, changes, expectNoTerm)
	}
}

func TestInvalidTerms(t *testing.T) {
	expectNoTerm(t, "the zero value", impl.Term{})
	cast := castOf(num(1), intType, anyType, 1)
	expectNoTerm(t, "a cast", cast)
	expectNoTerm(t, "a cast in a sum", node(impl.TermAdd, cast, num(1)))
	for _, kind := range []int{impl.TermFst, impl.TermApp, impl.TermIf} {
		expectNoTerm(t, "a term that contains itself", selfTerm(kind, operands(kind)))
	}
	expectNoTerm(t, "a very deep term", deepTerm(impl.TermFst, 0, 100000))
	expectNoTerm(t, "very many operands", impl.Term{Kind: impl.TermPair, Kids: slices.Repeat([]impl.Term{num(1)}, 1000000)})
	expectNoTerm(t, "a very long name", name(strings.Repeat("x", 1000000)))
}

// Fields that are empty but not nil are as good as nil.
func TestEmptyFieldsOfTerms(t *testing.T) {
	for _, e := range oneOfEach() {
		text := textOf(e)
		if len(e.Kids) == 0 {
			e.Kids = []impl.Term{}
		}
		e.From.Kids = []impl.Type{}
		if e.Type.Kind == 0 {
			e.Type.Kids = []impl.Type{}
		}
		if !impl.TermValid(e) || impl.FormatTerm(e) != text || !impl.TermSame(e, parseTerm(t, text)) {
			t.Errorf("%q with empty fields is not accepted", text)
		}
	}
}

func TestTermSame(t *testing.T) {
	list := smallTerms()
	for i, a := range list {
		for k, b := range list {
			if impl.TermSame(a, b) != (i == k) {
				t.Errorf("TermSame(%s, %s) = %v", textOf(a), textOf(b), i != k)
			}
		}
	}
	// Invalid terms that differ in a single field.
	variants := func() []impl.Term {
		full := impl.Term{Kind: 20, Name: "long", Num: -5, Type: leftChain(6), From: rightChain(6), Label: 7, Kids: []impl.Term{num(1), {}}}
		list := []impl.Term{{}, full}
		for _, change := range []func(e *impl.Term){
			func(e *impl.Term) { e.Kind = 21 },
			func(e *impl.Term) { e.Name = "longer" },
			func(e *impl.Term) { e.Num = 5 },
			func(e *impl.Term) { e.Type = leftChain(7) },
			func(e *impl.Term) { e.From = impl.Type{} },
			func(e *impl.Term) { e.Type, e.From = e.From, e.Type },
			func(e *impl.Term) { e.Label = -7 },
			func(e *impl.Term) { e.Kids = nil },
			func(e *impl.Term) { e.Kids = []impl.Term{num(1), {Label: 1}} },
			func(e *impl.Term) { e.Kids = []impl.Term{{}, num(1)} },
			func(e *impl.Term) { e.Kids = []impl.Term{num(1), {}, {}} },
			func(e *impl.Term) { e.Kids = []impl.Term{num(1), {Type: impl.Type{Kids: []impl.Type{{}}}}} },
			func(e *impl.Term) { e.Kids = []impl.Term{num(1), {From: intType}} },
		} {
			e := full
			change(&e)
			list = append(list, e)
		}
		return list
	}
	first, second := variants(), variants()
	for i, a := range first {
		for k, b := range second {
			if impl.TermSame(a, b) != (i == k) {
				t.Errorf("invalid terms %d and %d: %v", i, k, i != k)
			}
		}
	}
}

// Terms may contain themselves, share operands or be very deep, and TermSame returns for them, too.
func TestTermSameEnds(t *testing.T) {
	if !impl.TermSame(selfTerm(6, 2), selfTerm(6, 2)) || impl.TermSame(selfTerm(6, 2), selfTerm(6, 3)) || impl.TermSame(selfTerm(6, 1), selfTerm(7, 1)) {
		t.Error("terms that contain themselves are compared wrongly")
	}
	typed := func(kind int) impl.Term {
		e := selfTerm(6, 2)
		e.Kids[1].Type, e.Kids[1].From = selfType(4, 2), selfType(kind, 2)
		return e
	}
	if !impl.TermSame(typed(4), typed(4)) || impl.TermSame(typed(4), typed(5)) {
		t.Error("terms with types that contain themselves are compared wrongly")
	}
	x, y := num(1), num(1)
	for range 100 {
		x, y = node(impl.TermIf, x, x, x), node(impl.TermIf, y, y, y)
	}
	if !impl.TermSame(x, y) || impl.TermSame(x, node(impl.TermIf, y, y, num(1))) {
		t.Error("terms with shared operands are compared wrongly")
	}
	deep := deepTerm(impl.TermFst, 0, 300000)
	if !impl.TermSame(deep, deepTerm(impl.TermFst, 0, 300000)) || impl.TermSame(deep, deepTerm(impl.TermFst, 0, 300001)) {
		t.Error("very deep terms are compared wrongly")
	}
}

// freeIn reports whether a variable is free in e.
func freeIn(e impl.Term, variable string) bool {
	if e.Kind == impl.TermVar {
		return e.Name == variable
	}
	if e.Kind == impl.TermLam && e.Name == variable {
		return false
	}
	return slices.ContainsFunc(e.Kids, func(kid impl.Term) bool { return freeIn(kid, variable) })
}

func TestFreeNames(t *testing.T) {
	for text, want := range map[string]string{
		"1":                         "",
		"x":                         "x",
		"!x:I.x":                    "",
		"!x:I.y":                    "y",
		"(x !x:I.x)":                "x",
		"(!x:I.x x)":                "x",
		"!x:I.!x:B.x":               "",
		"!x:I.(!x:B.x x)":           "",
		"(!x:I.!y:I.(x y) y)":       "y",
		"!x:I.!y:B.(x (y z))":       "z",
		"(z (y (x (b a))))":         "abxyz",
		"[[a,a],[a,a]]":             "a",
		"{c?b:a}":                   "abc",
		"$%(q:(I>B))":               "q",
		"((m<n)+!n:?.n)":            "mn",
		"[!a:?.a,!z:?.z]":           "",
		"!a:?.!z:?.[a,[m,z]]":       "m",
		"{!x:?.x?x:!x:?.(x y)}":     "xy",
		"!x:?.{x?!y:?.[x,y]:[y,z]}": "yz",
	} {
		if got := impl.FreeNames(parseTerm(t, text)); got != want {
			t.Errorf("FreeNames(%s) = %q", text, got)
		}
	}
	many := num(0)
	for letter := 'n'; letter >= 'a'; letter-- {
		many = node(impl.TermIf, name(string(letter)), name(string('z'-(letter-'a')/2)), num(0))
		if got := impl.FreeNames(many); len(got) != 2 || got[0] != byte(letter) {
			t.Errorf("FreeNames(%s) = %q", textOf(many), got)
		}
	}
	for _, e := range mixedTerms() {
		want := ""
		for letter := 'a'; letter <= 'z'; letter++ {
			if freeIn(e, string(letter)) {
				want += string(letter)
			}
		}
		if got := impl.FreeNames(e); got != want {
			t.Fatalf("FreeNames(%s) = %q", textOf(e), got)
		}
	}
}

func TestSubstTerm(t *testing.T) {
	for _, c := range [][4]string{
		{"x", "x", "7", "7"},
		{"y", "x", "7", "y"},
		{"1", "x", "7", "1"},
		{"(x+y)", "x", "!z:I.z", "(!z:I.z+y)"},
		{"(x !x:?.(x+y))", "y", "7", "(x !x:?.(x+7))"},
		{"(x !x:?.(x+y))", "x", "7", "(7 !x:?.(x+y))"},
		{"!x:I.x", "x", "7", "!x:I.x"},
		{"!x:I.!y:B.(x z)", "x", "7", "!x:I.!y:B.(x z)"},
		{"!y:I.!x:B.(x y)", "x", "7", "!y:I.!x:B.(x y)"},
		{"!y:I.(x !x:B.x)", "x", "T", "!y:I.(T !x:B.x)"},
		{"!y:I.(!x:B.x x)", "x", "T", "!y:I.(!x:B.x T)"},
		{"(!x:(I>?).!y:B.[x,y] x)", "x", "F", "(!x:(I>?).!y:B.[x,y] F)"},
		{"{x?[x,$x]:%(x:B)}", "x", "!x:?.x", "{!x:?.x?[!x:?.x,$!x:?.x]:%(!x:?.x:B)}"},
		{"(x<(x:I))", "x", "(1:?)", "((1:?)<((1:?):I))"},
		{"!y:I.x", "x", "!z:?.(z z)", "!y:I.!z:?.(z z)"},
	} {
		e, v := parseTerm(t, c[0]), parseTerm(t, c[2])
		if got, ok := impl.SubstTerm(e, c[1], v); !ok || impl.FormatTerm(got) != c[3] {
			t.Errorf("SubstTerm(%s, %s, %s) = %s, %v", c[0], c[1], c[2], impl.FormatTerm(got), ok)
		}
	}
}

// replaced returns e with the free variables of a name replaced.
func replaced(e impl.Term, variable string, v impl.Term) impl.Term {
	if e.Kind == impl.TermVar && e.Name == variable {
		return v
	}
	if !freeIn(e, variable) {
		return e
	}
	kids := []impl.Term{}
	for _, kid := range e.Kids {
		kids = append(kids, replaced(kid, variable, v))
	}
	e.Kids = kids
	return e
}

func depthOf(e impl.Term) int {
	deepest := 0
	for _, kid := range e.Kids {
		deepest = max(deepest, depthOf(kid))
	}
	return 1 + deepest
}

func TestSubstitutionInManyTerms(t *testing.T) {
	values := []impl.Term{num(5), lam("a", fun(intType, anyType), name("a")), wideTerm(9), deepTerm(impl.TermSnd, 0, 8), wideTerm(30)}
	failed := 0
	for _, e := range mixedTerms() {
		for _, variable := range []string{"a", "b", "x", "z"} {
			for _, v := range values {
				want := replaced(e, variable, v)
				got, ok := impl.SubstTerm(e, variable, v)
				if ok != (nodes(want) <= 30 && depthOf(want) <= 12) || ok && !impl.TermSame(got, want) || !ok && !isZeroTerm(got) {
					t.Fatalf("SubstTerm(%s, %s, %s) = %s, %v", textOf(e), variable, textOf(v), impl.FormatTerm(got), ok)
				}
				if !freeIn(e, variable) && !impl.TermSame(got, e) {
					t.Fatalf("SubstTerm(%s, %s, %s) has changed the term", textOf(e), variable, textOf(v))
				}
				if !ok {
					failed++
				}
			}
		}
	}
	if failed == 0 {
		t.Error("no substitution has reached a limit")
	}
}

func TestSubstitutionLimits(t *testing.T) {
	twice := node(impl.TermIf, name("x"), name("x"), num(1))
	for _, c := range []struct {
		e, v impl.Term
		ok   bool
	}{
		{node(impl.TermApp, name("x"), num(1)), wideTerm(28), true},
		{node(impl.TermApp, name("x"), num(1)), wideTerm(29), false},
		{twice, wideTerm(14), true},
		{twice, wideTerm(15), false},
		{name("x"), wideTerm(30), true},
		{name("x"), deepTerm(impl.TermFst, 0, 12), true},
		{node(impl.TermSnd, name("x")), deepTerm(impl.TermFst, 0, 11), true},
		{node(impl.TermSnd, name("x")), deepTerm(impl.TermFst, 0, 12), false},
		{lam("x", intType, name("x")), wideTerm(30), true},
		{lam("x", intType, name("x")), deepTerm(impl.TermFst, 0, 12), true},
	} {
		got, ok := impl.SubstTerm(c.e, "x", c.v)
		if ok != c.ok || ok && !impl.TermSame(got, replaced(c.e, "x", c.v)) || !ok && !isZeroTerm(got) {
			t.Errorf("SubstTerm(%s, x, %s) = %s, %v", textOf(c.e), textOf(c.v), impl.FormatTerm(got), ok)
		}
	}
}

func TestSubstitutionThatIsNotPossible(t *testing.T) {
	for _, bad := range []string{"", "X", "xx", "x ", " x", "1", "T", "?", "\x00", "`", "{", "é", "\xff"} {
		for _, e := range []impl.Term{name("x"), num(1)} {
			if got, ok := impl.SubstTerm(e, bad, num(1)); ok || !isZeroTerm(got) {
				t.Errorf("SubstTerm with the name %q = %v, %v", bad, got, ok)
			}
		}
	}
	for _, open := range []string{"x", "z", "(1+z)", "!y:I.z", "(!x:I.x x)", "[1,{T?1:q}]"} {
		for _, e := range []string{"x", "1", "!x:I.x"} {
			if got, ok := impl.SubstTerm(parseTerm(t, e), "x", parseTerm(t, open)); ok || !isZeroTerm(got) {
				t.Errorf("SubstTerm(%s, x, %s) = %v, %v", e, open, got, ok)
			}
		}
	}
}

func TestTypesOfTerms(t *testing.T) {
	for text, want := range map[string]string{
		"x":                                     "",
		"{T?[1,2]:$(x+y)}":                      "",
		"!x:I.x":                                "I",
		"(x:(I*B))":                             "(I*B)",
		"!x:I.!y:B.(x:?)":                       "I B ?",
		"(!x:I.(x:B):(I>B))":                    "(I>B) I B",
		"((1:I) (2:B))":                         "I B",
		"((1:I)+((2:B):?))":                     "I ? B",
		"{(T:B)?!x:(I>I).x:[(1:I),(!y:?.y:B)]}": "B (I>I) I B ?",
		"(!x:(I>?).{(x<1)?[x,T]:$%(y:(I*B))} 25)": "(I>?) (I*B)",
	} {
		e := parseTerm(t, text)
		list := []string{}
		for _, x := range impl.TermTypes(e) {
			list = append(list, impl.FormatType(x))
		}
		if got := strings.Join(list, " "); got != want {
			t.Errorf("TermTypes(%s) = %s", text, got)
		}
		same, ok := impl.WithTypes(e, impl.TermTypes(e))
		if !ok || !impl.TermSame(same, e) {
			t.Errorf("WithTypes with the types of %s = %s, %v", text, impl.FormatTerm(same), ok)
		}
	}
	for _, c := range [][3]string{
		{"x", "", "x"},
		{"!x:I.x", "(?>B)", "!x:(?>B).x"},
		{"!x:I.!y:B.(x:?)", "? I (B*B)", "!x:?.!y:I.(x:(B*B))"},
		{"(!x:I.(x:B):(I>B))", "I B ?", "(!x:B.(x:?):I)"},
		{"((1:I)+((2:B):?))", "? I B", "((1:?)+((2:B):I))"},
	} {
		list := []impl.Type{}
		for _, x := range strings.Fields(c[1]) {
			list = append(list, parse(t, x))
		}
		if got, ok := impl.WithTypes(parseTerm(t, c[0]), list); !ok || impl.FormatTerm(got) != c[2] {
			t.Errorf("WithTypes(%s, %s) = %s, %v", c[0], c[1], impl.FormatTerm(got), ok)
		}
	}
}

// countTypes returns the number of nodes of e that have a type.
func countTypes(e impl.Term) int {
	count := 0
	if e.Kind == impl.TermLam || e.Kind == impl.TermAs {
		count = 1
	}
	for _, kid := range e.Kids {
		count += countTypes(kid)
	}
	return count
}

func TestTypesOfManyTerms(t *testing.T) {
	r := rand.New(rand.NewSource(3))
	for _, e := range mixedTerms() {
		list := impl.TermTypes(e)
		if len(list) != countTypes(e) {
			t.Fatalf("TermTypes(%s) = %v", textOf(e), list)
		}
		erased, ok := impl.EraseTerm(e)
		unknown, okToo := impl.WithTypes(e, slices.Repeat([]impl.Type{anyType}, len(list)))
		if !ok || !okToo || !impl.TermSame(erased, unknown) {
			t.Fatalf("EraseTerm(%s) = %s, %v", textOf(e), impl.FormatTerm(erased), ok)
		}
		for _, x := range impl.TermTypes(erased) {
			if x.Kind != impl.TypeAny {
				t.Fatalf("EraseTerm(%s) = %s", textOf(e), impl.FormatTerm(erased))
			}
		}
		if back, ok := impl.WithTypes(erased, list); !ok || !impl.TermSame(back, e) {
			t.Fatalf("WithTypes of the erased %s = %s, %v", textOf(e), impl.FormatTerm(back), ok)
		}
		others := make([]impl.Type, len(list))
		for i := range others {
			others[i] = mixedType(r, 4)
		}
		changed, ok := impl.WithTypes(e, others)
		if got := impl.TermTypes(changed); !ok || !slices.EqualFunc(got, others, impl.TypeSame) {
			t.Fatalf("WithTypes(%s, %v) = %s, %v", textOf(e), others, impl.FormatTerm(changed), ok)
		}
	}
}

func TestErase(t *testing.T) {
	for text, want := range map[string]string{
		"1":             "1",
		"!x:I.x":        "!x:?.x",
		"!x:?.x":        "!x:?.x",
		"(x:((I>B)*I))": "(x:?)",
		"(!x:(I>?).{(x<1)?[x,T]:$%(y:(I*B))} 25)": "(!x:?.{(x<1)?[x,T]:$%(y:?)} 25)",
		"((1:I) (!y:B.(y:B):(B>B)))":              "((1:?) (!y:?.(y:?):?))",
	} {
		if got, ok := impl.EraseTerm(parseTerm(t, text)); !ok || impl.FormatTerm(got) != want {
			t.Errorf("EraseTerm(%s) = %s, %v", text, impl.FormatTerm(got), ok)
		}
	}
}

func TestListsOfTypesThatDoNotFit(t *testing.T) {
	e := parseTerm(t, "!x:I.(x:B)")
	lists := map[string][]impl.Type{
		"none":         nil,
		"one":          {intType},
		"three":        {intType, intType, intType},
		"many":         slices.Repeat([]impl.Type{anyType}, 100000),
		"first bad":    {{}, intType},
		"last bad":     {intType, {}},
		"three, a bad": {intType, intType, {}},
	}
	for what, bad := range invalidTypes() {
		lists["first: "+what] = []impl.Type{bad, anyType}
		lists["last: "+what] = []impl.Type{anyType, bad}
	}
	for what, list := range lists {
		if got, ok := impl.WithTypes(e, list); ok || !isZeroTerm(got) {
			t.Errorf("%s: WithTypes = %s, %v", what, impl.FormatTerm(got), ok)
		}
	}
	if got, ok := impl.WithTypes(num(1), []impl.Type{intType}); ok || !isZeroTerm(got) {
		t.Errorf("a type for a term without types: %v, %v", got, ok)
	}
	if got, ok := impl.WithTypes(num(1), []impl.Type{}); !ok || !impl.TermSame(got, num(1)) {
		t.Errorf("an empty list for a term without types: %v, %v", got, ok)
	}
}

// overwriteTerm changes all the memory that a term can reach, with the unused capacity of its slices.
func overwriteTerm(e impl.Term) {
	overwrite(e.Type)
	overwrite(e.From)
	kids := e.Kids[:cap(e.Kids)]
	for i := range kids {
		overwriteTerm(kids[i])
		kids[i] = impl.Term{Kind: 77}
	}
}

// roomyTerm returns e with all slices, even the empty ones, having unused capacity.
func roomyTerm(e impl.Term) impl.Term {
	kids := make([]impl.Term, 0, 5)
	for _, kid := range e.Kids {
		kids = append(kids, roomyTerm(kid))
	}
	e.Kids = kids
	e.Type, e.From = roomyType(e.Type), roomyType(e.From)
	return e
}

func roomyType(t impl.Type) impl.Type {
	kids := make([]impl.Type, 0, 5)
	for _, kid := range t.Kids {
		kids = append(kids, roomyType(kid))
	}
	return impl.Type{Kind: t.Kind, Kids: kids}
}

// marked reports whether memory that roomyTerm left unused has been written to.
func marked(e impl.Term) bool {
	for _, kid := range e.Kids[len(e.Kids):cap(e.Kids)] {
		if !isZeroTerm(kid) {
			return true
		}
	}
	return markedType(e.Type) || markedType(e.From) || slices.ContainsFunc(e.Kids, marked)
}

func markedType(t impl.Type) bool {
	for _, kid := range t.Kids[len(t.Kids):cap(t.Kids)] {
		if !isZero(kid) {
			return true
		}
	}
	return slices.ContainsFunc(t.Kids, markedType)
}

// reused reports whether a slice with capacity occurs twice in the given terms.
func reused(terms ...impl.Term) bool {
	termPlaces, typePlaces := map[*impl.Term]bool{}, map[*impl.Type]bool{}
	var typeAgain func(x impl.Type) bool
	typeAgain = func(x impl.Type) bool {
		kids := x.Kids[:cap(x.Kids)]
		for i := range kids {
			if typePlaces[&kids[i]] {
				return true
			}
			typePlaces[&kids[i]] = true
		}
		return slices.ContainsFunc(kids, typeAgain)
	}
	var termAgain func(e impl.Term) bool
	termAgain = func(e impl.Term) bool {
		kids := e.Kids[:cap(e.Kids)]
		for i := range kids {
			if termPlaces[&kids[i]] {
				return true
			}
			termPlaces[&kids[i]] = true
		}
		return typeAgain(e.Type) || typeAgain(e.From) || slices.ContainsFunc(kids, termAgain)
	}
	return slices.ContainsFunc(terms, termAgain)
}

func TestTermResultsAreNewMemory(t *testing.T) {
	shared := fun(pair(intType, intType), anyType)
	for i, plain := range mixedTerms() {
		if i%3 != 0 {
			continue
		}
		e, v := roomyTerm(plain), roomyTerm(lam("z", shared, as(name("z"), shared)))
		text, valueText := textOf(e), textOf(v)
		types := impl.TermTypes(e)
		list := slices.Repeat([]impl.Type{roomyType(shared)}, len(types))
		results := []impl.Term{e, v}
		for _, variable := range []string{"x", "a"} {
			if result, ok := impl.SubstTerm(e, variable, v); ok {
				results = append(results, result)
			}
		}
		erased, _ := impl.EraseTerm(e)
		changed, _ := impl.WithTypes(e, list)
		parsed, _ := impl.ParseTerm(text)
		results = append(results, erased, changed, parsed)
		for _, x := range types {
			results = append(results, impl.Term{Type: x})
		}
		if reused(results...) || len(list) > 0 && reused(changed, impl.Term{Type: list[0]}) {
			t.Fatalf("results for %s share memory", text)
		}
		for _, result := range results[2:] {
			overwriteTerm(result)
		}
		if textOf(e) != text || textOf(v) != valueText || marked(e) || marked(v) || len(list) > 0 && markedType(list[0]) {
			t.Fatalf("%s has been changed", text)
		}
	}
}

func TestTermArgumentsAreNotChanged(t *testing.T) {
	for _, plain := range oneOfEach() {
		kids := append(slices.Clone(plain.Kids), impl.Term{Kind: 41}, impl.Term{Kind: 42})
		e := plain
		e.Kids = kids[:len(plain.Kids)]
		list := append(impl.TermTypes(e), impl.Type{Kind: 43})
		impl.TermValid(e)
		impl.TermSame(e, e)
		impl.FormatTerm(e)
		impl.FreeNames(e)
		impl.SubstTerm(e, "x", e)
		impl.SubstTerm(e, "x", num(1))
		impl.EraseTerm(e)
		impl.CountNodes(e)
		impl.WithTypes(e, list[:len(list)-1])
		if !impl.TermSame(e, plain) || kids[len(kids)-2].Kind != 41 || kids[len(kids)-1].Kind != 42 || list[len(list)-1].Kind != 43 {
			t.Errorf("%s has been changed", textOf(plain))
		}
	}
}
