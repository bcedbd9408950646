package expr

import (
	"strings"

	"longstop/api"
	"longstop/datum"
	"longstop/lexer"
)

// maxOpen: how many parentheses, nots and minus signs stand within one another
// at most; it bounds how deep the reader calls itself.
const maxOpen = 64

// Parse gives the expression that s is the text of.
func Parse(s string) ([]Node, api.Errno) {
	l, e := lexer.Split(s)
	if e != api.OK {
		return nil, e
	}
	nodes, size, e := Read(l)
	if e != api.OK {
		return nil, e
	}
	if size < len(l) {
		return nil, api.ErrSyntax
	}
	return nodes, api.OK
}

// Read gives the longest expression that l begins with, and of how many tokens
// that is.
func Read(l []lexer.Token) (nodes []Node, size int, e api.Errno) {
	r := reader{tokens: tokens{list: l}}
	r.look()
	if e := r.expression(); e != api.OK {
		return nil, 0, e
	}
	// What the grammar reads is an expression: it can be too great alone.
	if !Right(r.nodes) {
		return nil, 0, api.ErrDeep
	}
	return r.nodes, r.size, api.OK
}

// tokens: a list that is gone through once.
type tokens struct {
	list []lexer.Token
	size int // how many are passed
	// next: the one behind these. It has no Text at the end, and where the
	// lexer would not tell such a token: that fits nowhere in the grammar.
	next lexer.Token
}

func (t *tokens) look() {
	t.next = lexer.Token{}
	if t.size < len(t.list) && lexer.Right(t.list[t.size]) {
		t.next = t.list[t.size]
	}
}

func (t *tokens) pass() {
	t.size++
	t.look()
}

// took passes the next token, if it is that one.
func (t *tokens) took(text string) bool {
	if t.next.Text != text {
		return false
	}
	t.pass()
	return true
}

// tookOp passes the next token, if it is the sign of an op from first to last,
// and gives the op; else 0.
func (t *tokens) tookOp(first, last int) int {
	for op := first; op <= last; op++ {
		if t.took(signs[op]) {
			return op
		}
	}
	return 0
}

// tookName passes the next token, if it is a word that is not reserved.
func (t *tokens) tookName() (string, bool) {
	if t.next.Kind != lexer.Name || Reserved(t.next.Text) {
		return "", false
	}
	// A copy: what is answered has no memory of what was handed in.
	name := strings.Clone(t.next.Text)
	t.pass()
	return name, true
}

// reader: each of its methods that answers an error reads one part of the
// grammar, from the next token on, and puts the part's nodes.
type reader struct {
	tokens
	nodes []Node
	open  int // how many parentheses, nots and minus signs are around the place
}

// put: one node too many is enough to tell that there are too many.
func (r *reader) put(n Node) {
	if len(r.nodes) <= maxNodes {
		r.nodes = append(r.nodes, n)
	}
}

// steps reads parts, parted by the signs of ops from first to last, which are
// done from the left.
func (r *reader) steps(first, last int, part func() api.Errno) api.Errno {
	op := 0
again:
	if e := part(); e != api.OK {
		return e
	}
	if op != 0 {
		r.put(Node{Op: op})
	}
	op = r.tookOp(first, last)
	if op != 0 {
		goto again
	}
	return api.OK
}

// within reads a part that stands within one more of what can be open.
func (r *reader) within(part func() api.Errno) api.Errno {
	if r.open == maxOpen {
		return api.ErrDeep
	}
	r.open++
	e := part()
	r.open--
	return e
}

func (r *reader) expression() api.Errno { return r.steps(Or, Or, r.andPart) }

func (r *reader) andPart() api.Errno { return r.steps(And, And, r.notPart) }

func (r *reader) sum() api.Errno { return r.steps(Add, Sub, r.term) }

func (r *reader) term() api.Errno { return r.steps(Mul, Rem, r.unit) }

func (r *reader) notPart() api.Errno {
	if !r.took(notWord) {
		return r.comparison()
	}
	e := r.within(r.notPart)
	r.put(Node{Op: Not})
	return e
}

func (r *reader) comparison() api.Errno {
	if e := r.sum(); e != api.OK {
		return e
	}
	if r.took(isWord) {
		return r.nullBehindIs()
	}
	op := r.tookOp(Eq, Ge)
	if op == 0 {
		return api.OK
	}
	e := r.sum()
	r.put(Node{Op: op})
	return e
}

func (r *reader) nullBehindIs() api.Errno {
	turned := r.took(notWord)
	if !r.took(nullWord) {
		return api.ErrSyntax
	}
	r.put(Node{Op: IsNull})
	if turned {
		r.put(Node{Op: Not})
	}
	return api.OK
}

func (r *reader) unit() api.Errno {
	if r.took(minus) {
		e := r.within(r.unit)
		r.put(Node{Op: Neg})
		return e
	}
	if r.took("(") {
		return r.within(r.enclosed)
	}
	// The lexer tells null, true and false as words, but they are values' texts.
	if v, e := datum.Parse(r.next.Text); e == api.OK {
		r.pass()
		r.put(Node{Op: Value, Value: v})
		return api.OK
	}
	return r.columnOrCall()
}

// enclosed reads what stands behind a ( .
func (r *reader) enclosed() api.Errno {
	if e := r.expression(); e != api.OK {
		return e
	}
	return r.ended()
}

func (r *reader) ended() api.Errno {
	if !r.took(")") {
		return api.ErrSyntax
	}
	return api.OK
}

// columnOrCall reads what begins with a name.
func (r *reader) columnOrCall() api.Errno {
	name, ok := r.tookName()
	if !ok {
		return api.ErrSyntax
	}
	if r.took("(") {
		return r.call(name)
	}
	n := Node{Op: Column, Name: name}
	if r.took(".") {
		n.Table = name
		n.Name, ok = r.tookName()
		if !ok {
			return api.ErrSyntax
		}
	}
	r.put(n)
	return api.OK
}

// call reads what stands behind the ( of a call.
func (r *reader) call(name string) api.Errno {
	n := Node{Op: Call, Name: name}
	e := r.within(func() api.Errno { return r.arguments(&n) })
	r.put(n)
	return e
}

// arguments reads and counts those of the call n, and its ) .
func (r *reader) arguments(n *Node) api.Errno {
	if r.took(")") {
		return api.OK
	}
	for n.Args < maxArgs {
		if e := r.expression(); e != api.OK {
			return e
		}
		n.Args++
		if !r.took(",") {
			return r.ended()
		}
	}
	return api.ErrSyntax
}
