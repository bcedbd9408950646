package expr_test

import (
	"fmt"
	"math"
	"math/rand"
	"slices"
	"strconv"
	"strings"
	"testing"

	"longstop/api"
	"longstop/expr"
	"longstop/lexer"
)

type (
	Node  = expr.Node
	Token = lexer.Token
	Value = api.Value
)

const great = math.MaxInt

// signs: of the ops of two, as the chapter names them.
var signs = map[int]string{
	expr.Mul: "*", expr.Div: "/", expr.Rem: "%", expr.Add: "+", expr.Sub: "-",
	expr.Eq: "=", expr.Ne: "<>", expr.Lt: "<", expr.Le: "<=", expr.Gt: ">", expr.Ge: ">=",
	expr.And: "and", expr.Or: "or",
}

// rank: the higher one is done first.
func rank(op int) int {
	switch {
	case op == expr.Or:
		return 1
	case op == expr.And:
		return 2
	case op >= expr.Eq:
		return 4
	case op >= expr.Add:
		return 5
	}
	return 6
}

const (
	rankNot  = 3
	rankIs   = 4
	rankUnit = 7
)

// reserved: the chapter's sentence.
var reserved = strings.Fields("and or not is null true false select distinct from where group by having order asc desc limit union all join left cross on as insert into values update set delete create table drop primary key unique check begin commit rollback")

func lit(v Value) []Node { return []Node{{Op: expr.Value, Value: v}} }

func null() []Node { return lit(Value{}) }

func whole(n int) []Node { return lit(Value{Kind: api.Int, N: n}) }

func dec(units, scale int) []Node { return lit(Value{Kind: api.Dec, N: units, M: scale}) }

func text(s string) []Node { return lit(Value{Kind: api.Text, B: s}) }

func truth(n int) []Node { return lit(Value{Kind: api.Bool, N: n}) }

func col(name string) []Node { return []Node{{Op: expr.Column, Name: name}} }

func colOf(table, name string) []Node { return []Node{{Op: expr.Column, Table: table, Name: name}} }

func one(op int, a []Node) []Node { return slices.Concat(a, []Node{{Op: op}}) }

func two(op int, a, b []Node) []Node { return slices.Concat(a, b, []Node{{Op: op}}) }

func call(name string, l ...[]Node) []Node {
	return append(slices.Concat(l...), Node{Op: expr.Call, Name: name, Args: len(l)})
}

// times does f that often, one around the other.
func times(n int, in []Node, f func([]Node) []Node) []Node {
	for range n {
		in = f(in)
	}
	return in
}

func neg(in []Node) []Node { return one(expr.Neg, in) }

// full gives an expression of that many nodes, and of a small depth.
func full(nodes int) []Node {
	switch {
	case nodes == 1:
		return col("a")
	case nodes == 2:
		return neg(col("a"))
	}
	left := (nodes - 1) / 2
	return two(expr.Add, full(left), full(nodes-1-left))
}

// short tells x in a line that can be read.
func short(x any) string {
	s := fmt.Sprintf("%+v", x)
	if in, ok := x.(string); ok {
		s = strconv.Quote(in)
	}
	return s[:min(len(s), 300)]
}

// split is of texts that are tokens.
func split(t *testing.T, s string) []Token {
	t.Helper()
	l, e := lexer.Split(s)
	if e != api.OK {
		t.Fatalf("Split of %s: %d", short(s), e)
	}
	return l
}

// read complains unless Read of s begins with just those nodes, and leaves the
// text that is told.
func read(t *testing.T, s, left string, want []Node) {
	t.Helper()
	l := split(t, s)
	nodes, size, e := expr.Read(l)
	if e != api.OK || !slices.Equal(nodes, want) || size != len(l)-len(split(t, left)) {
		t.Errorf("Read of %s: %s, %d, %d, not %s", short(s), short(nodes), size, e, short(want))
	}
}

// parsed complains unless s is the text of just those nodes.
func parsed(t *testing.T, s string, want []Node) {
	t.Helper()
	read(t, s, "", want)
	if nodes, e := expr.Parse(s); e != api.OK || !slices.Equal(nodes, want) {
		t.Errorf("Parse of %s: %s, %d, not %s", short(s), short(nodes), e, short(want))
	}
}

// refused complains unless Read and Parse answer that error, and nothing beside
// it.
func refused(t *testing.T, s string, want api.Errno) {
	t.Helper()
	unread(t, split(t, s), want)
	unparsed(t, s, want)
}

func unread(t *testing.T, l []Token, want api.Errno) {
	t.Helper()
	if nodes, size, e := expr.Read(l); e != want || size != 0 || len(nodes) != 0 {
		t.Errorf("Read of %s: %s, %d, %d, not %d", short(l), short(nodes), size, e, want)
	}
}

func unparsed(t *testing.T, s string, want api.Errno) {
	t.Helper()
	if nodes, e := expr.Parse(s); e != want || len(nodes) != 0 {
		t.Errorf("Parse of %s: %s, %d, not %d", short(s), short(nodes), e, want)
	}
}

// wrongRow complains unless l is no expression to anyone.
func wrongRow(t *testing.T, l []Node) {
	t.Helper()
	if expr.Right(l) || expr.Print(l) != "" || len(expr.Columns(l)) != 0 || expr.Depth(l) != 0 {
		t.Errorf("%s is no expression, but %v, %s, %s, %d", short(l), expr.Right(l), short(expr.Print(l)), short(expr.Columns(l)), expr.Depth(l))
	}
}

// tree: an expression as it grows, for those who would not go by stacks.
type tree struct {
	Node
	of []tree
}

// grown gives the tree at the end of a row, and what stands ahead of it.
func grown(l []Node) (tree, []Node, bool) {
	if len(l) == 0 {
		return tree{}, nil, false
	}
	in, l := tree{Node: l[len(l)-1]}, l[:len(l)-1]
	count := 0
	switch op := in.Op; {
	case op == expr.Call:
		count = in.Args
	case op == expr.Neg || op == expr.Not || op == expr.IsNull:
		count = 1
	case signs[op] != "":
		count = 2
	}
	for range count {
		operand, rest, ok := grown(l)
		if !ok {
			return tree{}, nil, false
		}
		in.of, l = append([]tree{operand}, in.of...), rest
	}
	return in, l, true
}

func (in tree) row() []Node {
	var out []Node
	for _, operand := range in.of {
		out = append(out, operand.row()...)
	}
	return append(out, in.Node)
}

func (in tree) depth() int {
	most := 0
	for _, operand := range in.of {
		most = max(most, operand.depth())
	}
	return 1 + most
}

// literal gives a value's text, by the fourth chapter's sentences.
func literal(v Value) string {
	switch v.Kind {
	case api.Int:
		return strconv.Itoa(v.N)
	case api.Dec:
		digits := strconv.Itoa(v.N)
		for len(digits) <= v.M {
			digits = "0" + digits
		}
		return digits[:len(digits)-v.M] + "." + digits[len(digits)-v.M:]
	case api.Text:
		return "'" + strings.ReplaceAll(v.B, "'", "''") + "'"
	case api.Bool:
		return strconv.FormatBool(v.N == 1)
	}
	return "null"
}

// leaf gives the text of a node alone, and of a call that of its arguments'.
func (in tree) leaf(arguments []string) string {
	switch {
	case in.Op == expr.Value:
		return literal(in.Value)
	case in.Op == expr.Call:
		return in.Name + "(" + strings.Join(arguments, ", ") + ")"
	case in.Table != "":
		return in.Table + "." + in.Name
	}
	return in.Name
}

// text gives the chapter's text.
func (in tree) text() string {
	var of []string
	for _, operand := range in.of {
		of = append(of, operand.text())
	}
	switch in.Op {
	case expr.Neg:
		return "(- " + of[0] + ")"
	case expr.Not:
		return "(not " + of[0] + ")"
	case expr.IsNull:
		return "(" + of[0] + " is null)"
	}
	if signs[in.Op] != "" {
		return "(" + of[0] + " " + signs[in.Op] + " " + of[1] + ")"
	}
	return in.leaf(of)
}

// bare gives a text with parentheses where the grammar needs them, and here and
// there some more; least is the rank that the place asks for.
func (in tree) bare(r *rand.Rand, least int) string {
	s, has := in.unbound(r)
	if has < least || r.Intn(8) == 0 {
		return "(" + s + ")"
	}
	return s
}

func (in tree) unbound(r *rand.Rand) (string, int) {
	switch in.Op {
	case expr.Neg:
		return "-" + in.of[0].bare(r, rankUnit), rankUnit
	case expr.Not:
		if null := in.of[0]; null.Op == expr.IsNull && r.Intn(2) == 0 {
			return null.of[0].bare(r, rank(expr.Add)) + " is not null", rankIs
		}
		return "not " + in.of[0].bare(r, rankNot), rankNot
	case expr.IsNull:
		return in.of[0].bare(r, rank(expr.Add)) + " is null", rankIs
	}
	if signs[in.Op] == "" {
		var of []string
		for _, operand := range in.of {
			of = append(of, operand.bare(r, 0))
		}
		return in.leaf(of), rankUnit
	}
	has := rank(in.Op)
	left := has
	if in.Op >= expr.Eq && in.Op <= expr.Ge {
		left++
	}
	return in.of[0].bare(r, left) + " " + signs[in.Op] + " " + in.of[1].bare(r, has+1), has
}

// leaves: nodes alone, at the edges of what they can be.
func leaves() []Node {
	name := strings.Repeat("n", api.MaxName)
	return slices.Concat(
		col("a"), col("b"), col("_"), col("t1"), col(name), colOf("t", "a"), colOf("t", "b"), colOf("a", "a"), colOf(name, name), col("ands"), col("nul"), colOf("nots", "_or"),
		null(), truth(0), truth(1), whole(0), whole(7), whole(great), dec(0, 0), dec(3, 0), dec(250, 2), dec(1, 6), dec(0, 6), dec(great, 0), dec(great, 6),
		text(""), text("a"), text("it's"), text("'"), text("null"), text("( or )"), text("é日\n\x00"), text(strings.Repeat("'", api.MaxValue)), text(strings.Repeat("x", api.MaxValue)),
		call("f"), call("count"), call(name), call("_"),
	)
}

// wild gives an expression of at most that depth.
func wild(r *rand.Rand, depth int, of []Node) tree {
	if depth <= 1 || r.Intn(5) == 0 {
		return tree{Node: of[r.Intn(len(of))]}
	}
	in := tree{Node: Node{Op: expr.Neg + r.Intn(expr.Call-expr.Neg+1)}}
	count := 2
	switch in.Op {
	case expr.Neg, expr.Not, expr.IsNull:
		count = 1
	case expr.Call:
		count = r.Intn(5)
		in.Name, in.Args = []string{"f", "sum", "a"}[r.Intn(3)], count
	}
	for range count {
		in.of = append(in.of, wild(r, depth-1, of))
	}
	return in
}
