package impl

import "strings"

// Type is a node of a type.
type Type struct {
	Kind int
	Kids []Type
}

// Kinds of types, and a limit.
const (
	TypeAny      = 1
	TypeInt      = 2
	TypeBool     = 3
	TypeFun      = 4
	TypePair     = 5
	MaxTypeDepth = 4
)

// typeSigns holds the sign of each kind of type in texts, in the order of the kinds, which begin at 1.
const typeSigns = "?IB>*"

// TypeValid reports whether t is valid.
func TypeValid(t Type) bool { return validWithin(t, MaxTypeDepth) }

// TypeSame reports whether a and b are equal.
func TypeSame(a Type, b Type) bool { return compareTypes().same(&a, &b) }

// FormatType returns the text of t.
func FormatType(t Type) string {
	if !TypeValid(t) {
		return ""
	}
	var out strings.Builder
	writeType(&out, t)
	return out.String()
}

// ParseType parses the text of a type.
func ParseType(text string) (Type, bool) {
	c := cursor{text: text}
	t, ok := c.readType(MaxTypeDepth)
	if !ok || !c.atEnd() {
		return Type{}, false
	}
	return t, true
}

// Consistent reports whether a and b agree where both are known.
func Consistent(a Type, b Type) bool {
	return TypeValid(a) && TypeValid(b) && walkTwo(a, b, eitherUnknown, allHold)
}

// Precise reports whether a is at least as precise as b.
func Precise(a Type, b Type) bool {
	return TypeValid(a) && TypeValid(b) && walkTwo(a, b, secondUnknown, allHold)
}

// MeetTypes returns the least precise type that is at least as precise as a and b.
func MeetTypes(a Type, b Type) (Type, bool) {
	if !Consistent(a, b) {
		return Type{}, false
	}
	return walkTwo(a, b, copyKnown, buildType), true
}

// JoinTypes returns the most precise type that a and b are at least as precise as.
func JoinTypes(a Type, b Type) (Type, bool) {
	if !TypeValid(a) || !TypeValid(b) {
		return Type{}, false
	}
	return walkTwo(a, b, unknownForBoth, buildType), true
}

// GroundOf returns the ground type of a type.
func GroundOf(t Type) (Type, bool) {
	if !TypeValid(t) || t.Kind == TypeAny {
		return Type{}, false
	}
	return groundOfKind(t.Kind), true
}

// IsStatic reports whether a type has no unknown part.
func IsStatic(t Type) bool { return TypeValid(t) && countUnknown(t) == 0 }

// TypeDepth returns the depth of a type.
func TypeDepth(t Type) int {
	if !TypeValid(t) {
		return 0
	}
	return depthOfType(t)
}

// CountAny returns the number of unknown parts of a type.
func CountAny(t Type) int {
	if !TypeValid(t) {
		return 0
	}
	return countUnknown(t)
}

// nodePair is a pair of nodes to be compared, known by their places in memory.
type nodePair[N any] struct{ a, b *N }

// comparison compares nodes with all that is below them. What was found alike
// once is not compared again, by any comparison with the same seen.
type comparison[N any] struct {
	seen  map[nodePair[N]]bool
	kids  func(n *N) []N
	alike func(a, b *N) bool
}

// same reports whether the nodes at a and b have the same operands, at every
// level, and all of them are alike. Invalid nodes may be of any depth and may
// even contain themselves: a list of open pairs in place of recursion, and a
// note of those already compared, make the comparison end for these, too.
func (c comparison[N]) same(a, b *N) bool {
	open := []nodePair[N]{{a, b}}
	for len(open) > 0 {
		p := open[len(open)-1]
		open = open[:len(open)-1]
		if p.a == p.b || c.seen[p] {
			continue
		}
		left, right := c.kids(p.a), c.kids(p.b)
		if len(left) != len(right) || !c.alike(p.a, p.b) {
			return false
		}
		if len(left) > 0 {
			c.seen[p] = true
		}
		for i := range left {
			open = append(open, nodePair[N]{&left[i], &right[i]})
		}
	}
	return true
}

func compareTypes() comparison[Type] {
	return comparison[Type]{
		seen:  map[nodePair[Type]]bool{},
		kids:  func(t *Type) []Type { return t.Kids },
		alike: func(a, b *Type) bool { return a.Kind == b.Kind },
	}
}

// typeOperands returns the number of operands of a kind of type, or -1 for a kind that does not exist.
func typeOperands(kind int) int {
	switch kind {
	case TypeAny, TypeInt, TypeBool:
		return 0
	case TypeFun, TypePair:
		return 2
	}
	return -1
}

// groundOfKind returns the type of a kind all of whose operands are unknown.
func groundOfKind(kind int) Type {
	var kids []Type
	if n := typeOperands(kind); n > 0 {
		kids = make([]Type, n)
	}
	for i := range kids {
		kids[i].Kind = TypeAny
	}
	return Type{Kind: kind, Kids: kids}
}

// validWithin reports whether t is valid with a depth of at most depth.
// The bound also ends the recursion for a type that contains itself.
func validWithin(t Type, depth int) bool {
	if depth < 1 || len(t.Kids) != typeOperands(t.Kind) {
		return false
	}
	for _, kid := range t.Kids {
		if !validWithin(kid, depth-1) {
			return false
		}
	}
	return true
}

// walkTwo goes through two valid types side by side. Where one of them is
// unknown or their kinds differ, the result is that of apart; everywhere else,
// build makes it from the kind and the results for the operands.
func walkTwo[R any](a Type, b Type, apart func(a Type, b Type) R, build func(kind int, parts []R) R) R {
	if a.Kind != b.Kind || a.Kind == TypeAny {
		return apart(a, b)
	}
	var parts []R
	if n := len(a.Kids); n > 0 {
		parts = make([]R, n)
	}
	for i := range parts {
		parts[i] = walkTwo(a.Kids[i], b.Kids[i], apart, build)
	}
	return build(a.Kind, parts)
}

func eitherUnknown(a Type, b Type) bool { return a.Kind == TypeAny || b.Kind == TypeAny }

func secondUnknown(_ Type, b Type) bool { return b.Kind == TypeAny }

func allHold(_ int, parts []bool) bool {
	for _, holds := range parts {
		if !holds {
			return false
		}
	}
	return true
}

// copyKnown returns the one of two consistent types that is known, if either is.
func copyKnown(a Type, b Type) Type {
	if a.Kind == TypeAny {
		return copyType(b)
	}
	return copyType(a)
}

func unknownForBoth(_ Type, _ Type) Type { return Type{Kind: TypeAny} }

func buildType(kind int, parts []Type) Type { return Type{Kind: kind, Kids: parts} }

// copyType returns the valid type t in new memory.
func copyType(t Type) Type { return walkTwo(t, t, unknownForBoth, buildType) }

func countUnknown(t Type) int {
	if t.Kind == TypeAny {
		return 1
	}
	count := 0
	for _, kid := range t.Kids {
		count += countUnknown(kid)
	}
	return count
}

func depthOfType(t Type) int {
	deepest := 0
	for _, kid := range t.Kids {
		deepest = max(deepest, depthOfType(kid))
	}
	return 1 + deepest
}

func writeType(out *strings.Builder, t Type) {
	sign := typeSigns[t.Kind-1]
	if len(t.Kids) == 0 {
		out.WriteByte(sign)
		return
	}
	out.WriteByte('(')
	writeType(out, t.Kids[0])
	out.WriteByte(sign)
	writeType(out, t.Kids[1])
	out.WriteByte(')')
}

// cursor is a place in a text that is read from left to right.
type cursor struct {
	text string
	at   int
}

func (c *cursor) atEnd() bool { return c.at == len(c.text) }

// peek returns the byte at the cursor. At the end it returns 0, which no text
// of this program contains.
func (c *cursor) peek() byte {
	if c.atEnd() {
		return 0
	}
	return c.text[c.at]
}

// next returns what peek does and moves past it, unless the cursor is at the end.
func (c *cursor) next() byte {
	sign := c.peek()
	if !c.atEnd() {
		c.at++
	}
	return sign
}

// readType reads a type with a depth of at most depth. The bound also keeps a
// long text from making the recursion deep.
func (c *cursor) readType(depth int) (Type, bool) {
	if depth < 1 {
		return Type{}, false
	}
	sign := c.next()
	if sign == '(' {
		return c.readOperands(depth - 1)
	}
	kind := kindOfSign(sign)
	if typeOperands(kind) != 0 {
		return Type{}, false
	}
	return Type{Kind: kind}, true
}

// readOperands reads what follows the opening parenthesis of a type.
func (c *cursor) readOperands(depth int) (Type, bool) {
	left, ok := c.readType(depth)
	if !ok {
		return Type{}, false
	}
	kind := kindOfSign(c.next())
	if typeOperands(kind) != 2 {
		return Type{}, false
	}
	right, ok := c.readType(depth)
	if !ok || c.next() != ')' {
		return Type{}, false
	}
	return Type{Kind: kind, Kids: []Type{left, right}}, true
}

// kindOfSign returns the kind of type with a sign in texts, or 0 if there is none.
func kindOfSign(sign byte) int { return strings.IndexByte(typeSigns, sign) + 1 }
