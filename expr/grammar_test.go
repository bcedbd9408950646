package expr_test

import (
	"slices"
	"strings"

	"longstop/api"
	"longstop/datum"
	"longstop/expr"
	"longstop/lexer"
)

// grammar tells by the chapter's sentences which pieces of a list are which of
// its parts, trying every place where they can be parted. It knows nothing of
// reading from the left: what Read must answer follows from which lists can be
// ended so that they are expressions.
type grammar struct {
	list []Token
	told map[piece]answer
}

type piece struct {
	part     int
	from, to int
}

type answer struct {
	nodes []Node
	ok    bool
}

// The grammar's parts.
const (
	orParts = iota
	andParts
	notPart
	comparison
	sum
	term
	unit
)

// sentence tells whether a list is one expression, and which.
func sentence(l []Token) ([]Node, bool) {
	g := grammar{list: l, told: map[piece]answer{}}
	a := g.is(orParts, 0, len(l))
	return a.nodes, a.ok
}

func (g *grammar) at(i int) string { return g.list[i].Text }

func (g *grammar) is(part, from, to int) answer {
	if from >= to {
		return answer{}
	}
	p := piece{part, from, to}
	a, ok := g.told[p]
	if !ok {
		a = g.find(part, from, to)
		g.told[p] = a
	}
	return a
}

func (g *grammar) find(part, from, to int) answer {
	switch part {
	case orParts:
		return g.parted(part, "or", from, to)
	case andParts:
		return g.parted(part, "and", from, to)
	case notPart:
		if g.at(from) == "not" {
			return g.done(expr.Not, g.is(notPart, from+1, to))
		}
		return g.is(comparison, from, to)
	case comparison:
		return g.compared(from, to)
	case sum:
		return g.parted(part, "+ -", from, to)
	case term:
		return g.parted(part, "* / %", from, to)
	}
	return g.unit(from, to)
}

// parted: the part that is done last is the one behind the last of the signs.
func (g *grammar) parted(part int, among string, from, to int) answer {
	for k := to - 1; k > from; k-- {
		if slices.Contains(strings.Fields(among), g.at(k)) {
			a := g.done(opOf(g.at(k)), g.is(part, from, k), g.is(part+1, k+1, to))
			if a.ok {
				return a
			}
		}
	}
	return g.is(part+1, from, to)
}

func (g *grammar) compared(from, to int) answer {
	for k := from + 1; k < to; k++ {
		a := answer{}
		switch rest := texts(g.list[k:to]); {
		case rest == "is null":
			a = g.done(expr.IsNull, g.is(sum, from, k))
		case rest == "is not null":
			a = g.done(expr.Not, g.done(expr.IsNull, g.is(sum, from, k)))
		case slices.Contains(strings.Fields("= <> < <= > >="), g.at(k)):
			a = g.done(opOf(g.at(k)), g.is(sum, from, k), g.is(sum, k+1, to))
		}
		if a.ok {
			return a
		}
	}
	return g.is(sum, from, to)
}

func (g *grammar) unit(from, to int) answer {
	size := to - from
	switch {
	case g.at(from) == "-":
		return g.done(expr.Neg, g.is(unit, from+1, to))
	case g.at(from) == "(" && g.at(to-1) == ")":
		return g.is(orParts, from+1, to-1)
	case size == 1 && g.list[from].Kind == lexer.Literal:
		return answer{lit(g.list[from].Value), true}
	case size == 1 && slices.Contains([]string{"null", "true", "false"}, g.at(from)):
		v, _ := datum.Parse(g.at(from))
		return answer{lit(v), true}
	case size == 1 && g.name(from):
		return answer{col(g.at(from)), true}
	case size == 3 && g.name(from) && g.at(from+1) == "." && g.name(from+2):
		return answer{colOf(g.at(from), g.at(from+2)), true}
	case size > 2 && g.name(from) && g.at(from+1) == "(" && g.at(to-1) == ")":
		return g.call(from, to)
	}
	return answer{}
}

func (g *grammar) name(i int) bool {
	return g.list[i].Kind == lexer.Name && !slices.Contains(reserved, g.at(i))
}

func (g *grammar) call(from, to int) answer {
	if to-from == 3 {
		return answer{call(g.at(from)), true}
	}
	l, ok := g.arguments(from+2, to-1)
	if !ok || len(l) > 4 {
		return answer{}
	}
	return answer{call(g.at(from), l...), true}
}

func (g *grammar) arguments(from, to int) ([][]Node, bool) {
	if a := g.is(orParts, from, to); a.ok {
		return [][]Node{a.nodes}, true
	}
	for k := from + 1; k < to-1; k++ {
		a := g.is(orParts, from, k)
		if g.at(k) != "," || !a.ok {
			continue
		}
		if l, ok := g.arguments(k+1, to); ok {
			return append([][]Node{a.nodes}, l...), true
		}
	}
	return nil, false
}

func (g *grammar) done(op int, l ...answer) answer {
	var nodes []Node
	for _, a := range l {
		if !a.ok {
			return answer{}
		}
		nodes = append(nodes, a.nodes...)
	}
	return answer{append(nodes, Node{Op: op}), true}
}

func opOf(sign string) int {
	for op, s := range signs {
		if s == sign {
			return op
		}
	}
	return 0
}

func texts(l []Token) string {
	var out []string
	for _, in := range l {
		out = append(out, in.Text)
	}
	return strings.Join(out, " ")
}

// begins tells whether some expression begins with l: whatever l breaks off in
// can be ended by a word or by null, and by the parentheses that are open.
func begins(l []Token) bool {
	open := 0
	for _, in := range l {
		switch in.Text {
		case "(":
			open++
		case ")":
			open--
		}
	}
	if open < 0 {
		return false
	}
	ends := slices.Repeat([]Token{{Kind: lexer.Sign, Text: ")"}}, open)
	for _, in := range [][]Token{nil, {{Kind: lexer.Name, Text: "x"}}, {{Kind: lexer.Name, Text: "null"}}} {
		if _, ok := sentence(slices.Concat(l, in, ends)); ok {
			return true
		}
	}
	return false
}

// expected gives Read's answer of lists that open few parentheses.
func expected(l []Token) ([]Node, int, api.Errno) {
	size := 0
	for size < len(l) && begins(l[:size+1]) {
		size++
	}
	return ended(l[:size])
}

// ended gives Read's answer where the longest beginning is l.
func ended(l []Token) ([]Node, int, api.Errno) {
	nodes, ok := sentence(l)
	if !ok {
		return nil, 0, api.ErrSyntax
	}
	if in, _, _ := grown(nodes); len(nodes) > 256 || in.depth() > 16 {
		return nil, 0, api.ErrDeep
	}
	return nodes, len(l), api.OK
}
