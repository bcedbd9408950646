package expr

import (
	"strings"

	"longstop/datum"
)

const (
	notWord  = "not"
	isWord   = "is"
	nullWord = "null"
	minus    = "-"
)

// signs: what stands between the operands of an op of two.
var signs = [...]string{
	Mul: "*", Div: "/", Rem: "%",
	Add: "+", Sub: "-",
	Eq: "=", Ne: "<>", Lt: "<", Le: "<=", Gt: ">", Ge: ">=",
	And: "and", Or: "or",
}

// Print gives the text of l.
func Print(l []Node) string {
	if !Right(l) {
		return ""
	}
	var texts []string // of the expressions with which nothing is done yet
	for _, n := range l {
		from := len(texts) - operands(n)
		texts = append(texts[:from], textOf(n, texts[from:]))
	}
	// A copy: a Column's text may be its Name as it was handed in.
	return strings.Clone(texts[0])
}

// textOf gives the text of n, done with expressions of those texts.
func textOf(n Node, of []string) string {
	switch n.Op {
	case Value:
		return datum.Print(n.Value)
	case Column:
		return columnText(n)
	case Neg:
		return inParentheses(minus, of[0])
	case Not:
		return inParentheses(notWord, of[0])
	case IsNull:
		return inParentheses(of[0], isWord, nullWord)
	case Call:
		return n.Name + "(" + strings.Join(of, ", ") + ")"
	}
	return inParentheses(of[0], signs[n.Op], of[1])
}

func columnText(n Node) string {
	if n.Table == "" {
		return n.Name
	}
	return n.Table + "." + n.Name
}

func inParentheses(parts ...string) string {
	return "(" + strings.Join(parts, " ") + ")"
}
