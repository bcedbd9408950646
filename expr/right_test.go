package expr_test

import (
	"math"
	"math/rand"
	"slices"
	"strings"
	"testing"

	"longstop/api"
	"longstop/expr"
	"longstop/lexer"
)

// right complains unless l is an expression of that depth.
func right(t *testing.T, l []Node, depth int) {
	t.Helper()
	if !expr.Right(l) || expr.Depth(l) != depth || expr.Print(l) == "" {
		t.Errorf("%s is an expression of the depth %d, but %v, %d, %s", short(l), depth, expr.Right(l), expr.Depth(l), short(expr.Print(l)))
	}
}

func TestP602NodesAlone(t *testing.T) {
	for _, n := range leaves() {
		right(t, []Node{n}, 1)
	}
	wrongRow(t, nil)
	wrongRow(t, []Node{})
}

func TestP602Operands(t *testing.T) {
	for op := expr.Neg; op <= expr.IsNull; op++ {
		n := Node{Op: op}
		right(t, one(op, a), 2)
		right(t, one(op, two(expr.Add, a, b)), 3)
		wrongRow(t, []Node{n})
		wrongRow(t, []Node{n, a[0]})
		wrongRow(t, []Node{a[0], b[0], n})
		wrongRow(t, []Node{n, n})
	}
	for op := expr.Mul; op <= expr.Or; op++ {
		n := Node{Op: op}
		right(t, two(op, a, b), 2)
		right(t, two(op, a, two(op, b, c)), 3)
		right(t, two(op, two(op, a, b), c), 3)
		right(t, two(op, two(op, a, b), two(op, b, c)), 3)
		right(t, two(op, neg(neg(a)), b), 4)
		right(t, two(op, b, neg(neg(a))), 4)
		wrongRow(t, []Node{n})
		wrongRow(t, []Node{a[0], n})
		wrongRow(t, []Node{n, a[0], b[0]})
		wrongRow(t, []Node{a[0], n, b[0]})
		wrongRow(t, []Node{a[0], b[0], c[0], n})
		wrongRow(t, []Node{a[0], b[0], n, n})
	}
}

func TestP602Calls(t *testing.T) {
	for args := -1; args <= 6; args++ {
		for given := range 7 {
			l := append(slices.Concat(slices.Repeat([][]Node{a}, given)...), Node{Op: expr.Call, Name: "f", Args: args})
			if args == given && args <= 4 {
				right(t, l, min(given, 1)+1)
			} else {
				wrongRow(t, l)
			}
		}
	}
	for place := range 4 {
		l := [][]Node{a, b, c, a}
		l[place] = neg(neg(b))
		right(t, call("f", l...), 4)
	}
	for _, args := range []int{-1, -4, 256, 257, 1 << 32, 1<<32 + 1, math.MinInt, math.MaxInt} {
		wrongRow(t, []Node{{Op: expr.Call, Name: "f", Args: args}})
		wrongRow(t, []Node{a[0], {Op: expr.Call, Name: "f", Args: args}})
	}
}

func TestP602Rows(t *testing.T) {
	right(t, slices.Concat(a, whole(2), b, []Node{{Op: expr.Mul}, {Op: expr.Add}}), 3)
	wrongRow(t, slices.Concat(a, b))
	wrongRow(t, slices.Concat(neg(a), b))
	wrongRow(t, slices.Concat(two(expr.Add, a, b), c))
	wrongRow(t, slices.Concat(a, two(expr.Add, b, c)))
	wrongRow(t, slices.Concat(call("f"), call("f")))
	wrongRow(t, slices.Concat(call("f", a), a))
	wrongRow(t, slices.Repeat(a, 200))
	wrongRow(t, []Node{{Op: expr.Add}, a[0], b[0]})
	wrongRow(t, []Node{a[0], {Op: expr.Add}, b[0]})
	wrongRow(t, append(two(expr.Or, a, b), Node{Op: expr.Or}))
}

func TestP602Depth(t *testing.T) {
	for _, f := range []func([]Node) []Node{
		neg,
		func(in []Node) []Node { return one(expr.Not, in) },
		func(in []Node) []Node { return one(expr.IsNull, in) },
		func(in []Node) []Node { return two(expr.Add, in, a) },
		func(in []Node) []Node { return two(expr.Or, a, in) },
		func(in []Node) []Node { return call("f", in) },
		func(in []Node) []Node { return call("f", a, b, c, in) },
		func(in []Node) []Node { return call("f", a, in, c) },
	} {
		for depth := 1; depth <= api.MaxDepth; depth++ {
			right(t, times(depth-1, a, f), depth)
			right(t, times(depth-1, call("g"), f), depth)
		}
		for depth := api.MaxDepth + 1; depth < 40; depth++ {
			wrongRow(t, times(depth-1, a, f))
			wrongRow(t, times(depth-1, call("g"), f))
		}
	}
	deep := times(api.MaxDepth, a, neg)
	wrongRow(t, two(expr.Add, deep, a))
	wrongRow(t, two(expr.Add, a, deep))
	wrongRow(t, slices.Repeat([]Node{{Op: expr.Neg}}, 1000000))
	wrongRow(t, times(255, a, neg))
}

func TestP602Nodes(t *testing.T) {
	for nodes := 1; nodes <= 256; nodes++ {
		in, _, _ := grown(full(nodes))
		right(t, full(nodes), in.depth())
	}
	for _, nodes := range []int{257, 258, 300, 511, 512, 513, 4096, 100000} {
		wrongRow(t, full(nodes))
	}
	wrongRow(t, slices.Repeat(a, 1000000))
	right(t, call("f", full(63), full(64), full(64), full(64)), 7+1)
	wrongRow(t, call("f", full(64), full(64), full(64), full(64)))
}

// wrongNodes: of Ops that there are not, with parts that may not be, and with
// parts that their Op does not name.
func wrongNodes() []Node {
	var out []Node
	for _, op := range []int{0, -1, -2, 20, 21, 255, 256, 257, 256 + expr.Neg, 1<<32 + expr.Value, 1<<32 + expr.Column, 1<<32 + expr.Neg, math.MinInt, math.MaxInt} {
		out = append(out, Node{Op: op}, Node{Op: op, Name: "a"}, Node{Op: op, Value: Value{Kind: api.Int, N: 1}})
	}
	for _, v := range []Value{
		{Kind: api.Int, N: -1}, {Kind: api.Int, N: math.MinInt}, {Kind: api.Dec, N: -1}, {Kind: api.Dec, N: -1, M: 6}, {Kind: api.Dec, N: math.MinInt, M: 2},
		{Kind: api.Point}, {Kind: api.Point, N: 1, M: 2}, {Kind: api.Point, N: -1}, {Kind: api.Point, N: api.MaxPoint + 1},
		{N: 1}, {M: 1}, {B: "a"}, {Kind: api.Int, M: 1}, {Kind: api.Int, B: "a"}, {Kind: api.Dec, M: 7}, {Kind: api.Dec, M: -1}, {Kind: api.Dec, B: "a"}, {Kind: api.Text, N: 1, B: "a"}, {Kind: api.Text, M: 1}, {Kind: api.Text, B: "\xff"}, {Kind: api.Text, B: strings.Repeat("a", api.MaxValue+1)},
		{Kind: api.Bool, N: 2}, {Kind: api.Bool, N: -1}, {Kind: api.Bool, M: 1}, {Kind: api.Bool, B: "a"}, {Kind: 6}, {Kind: -1}, {Kind: 256}, {Kind: math.MaxInt},
	} {
		out = append(out, Node{Op: expr.Value, Value: v})
	}
	for _, s := range append(slices.Clone(reserved), "", "A", "aB", "1", "1a", " ", "a ", " a", "a b", "a.b", "a(", "(", "'a'", "é", "a\x00", "a\n", "-", "a-b", "*", strings.Repeat("n", api.MaxName+1), strings.Repeat("n", 1<<20)) {
		out = append(out, Node{Op: expr.Column, Name: s}, Node{Op: expr.Column, Table: "t", Name: s}, Node{Op: expr.Call, Name: s})
		if s != "" {
			out = append(out, Node{Op: expr.Column, Table: s, Name: "a"}, Node{Op: expr.Column, Table: s})
		}
	}
	return append(out, unnamed()...)
}

// unnamed: nodes of every Op with something in a part that it does not name.
func unnamed() []Node {
	var out []Node
	for op := expr.Value; op <= expr.Call; op++ {
		n := Node{Op: op}
		if op == expr.Column || op == expr.Call {
			n.Name = "a"
		} else {
			for _, s := range []string{"a", "and", "+", " ", "1"} {
				out = append(out, Node{Op: op, Name: s})
			}
		}
		if op != expr.Column {
			for _, s := range []string{"t", "and", " ", "1"} {
				out = append(out, Node{Op: op, Name: n.Name, Table: s})
			}
		}
		if op != expr.Value {
			for _, v := range []Value{{Kind: api.Int}, {Kind: api.Int, N: 1}, {N: 1}, {M: 1}, {B: "a"}, {Kind: api.Text}, {Kind: api.Bool, N: 1}, {Kind: -1}} {
				out = append(out, Node{Op: op, Name: n.Name, Value: v})
			}
		}
		if op != expr.Call {
			for _, args := range []int{1, 2, -1, 4, 1 << 32, math.MinInt, math.MaxInt} {
				out = append(out, Node{Op: op, Name: n.Name, Args: args})
			}
		}
	}
	return append(out, Node{Op: expr.Value, Name: "null"}, Node{Op: expr.Value, Value: Value{Kind: api.Int, N: 1}, Name: "a"})
}

func TestP602WrongNodes(t *testing.T) {
	for _, n := range wrongNodes() {
		wrongRow(t, []Node{n})
		wrongRow(t, []Node{a[0], n})
		wrongRow(t, []Node{a[0], b[0], n})
		wrongRow(t, []Node{n, {Op: expr.Neg}})
		wrongRow(t, []Node{n, a[0], {Op: expr.Add}})
		wrongRow(t, []Node{a[0], n, {Op: expr.Add}})
		wrongRow(t, []Node{a[0], n, {Op: expr.Call, Name: "f", Args: 2}})
		wrongRow(t, []Node{a[0], n, b[0], {Op: expr.Add}})
	}
}

func TestP602Words(t *testing.T) {
	for _, w := range []string{"a", "_", "a1", "_1", "ands", "selects", "nulls", "tru", "keys", "f", "count", strings.Repeat("n", api.MaxName)} {
		right(t, col(w), 1)
		right(t, colOf(w, w), 1)
		right(t, call(w), 1)
		right(t, call(w, colOf(w, "a")), 2)
	}
}

// expectedRight tells by a tree whether a row is an expression.
func expectedRight(l []Node) bool {
	in, rest, ok := grown(l)
	if !ok || len(rest) != 0 || len(l) > 256 || in.depth() > 16 {
		return false
	}
	for _, n := range l {
		v := n.Value
		n.Value = Value{}
		word := func(s string) bool { return lexer.Word(s) && !slices.Contains(reserved, s) }
		switch {
		case n.Op == expr.Value && (n != Node{Op: expr.Value} || v.N < 0 || literal(v) == ""):
			return false
		case n.Op == expr.Column && (n != Node{Op: expr.Column, Table: n.Table, Name: n.Name} || v != Value{} || !word(n.Name) || n.Table != "" && !word(n.Table)):
			return false
		case n.Op == expr.Call && (n != Node{Op: expr.Call, Name: n.Name, Args: n.Args} || v != Value{} || !word(n.Name) || n.Args < 0 || n.Args > 4):
			return false
		case n.Op != expr.Value && n.Op != expr.Column && n.Op != expr.Call && (n != Node{Op: n.Op} || v != Value{} || n.Op < 1 || n.Op > 19):
			return false
		}
	}
	return true
}

// Rows in which nodes are gone, are others, or have changed their places.
func TestP602AsTheChapterSays(t *testing.T) {
	t.Parallel()
	r := rand.New(rand.NewSource(3))
	of, wrong := leaves(), wrongNodes()
	// A tree knows nothing of which values may be: those are asked for above.
	wrong = slices.DeleteFunc(wrong, func(n Node) bool { return n.Op == expr.Value && n.Name == "" && n.Table == "" && n.Args == 0 })
	count := map[bool]int{}
	for range 60000 {
		l := wild(r, 1+r.Intn(5), of).row()
		for range r.Intn(3) {
			i, j := r.Intn(len(l)), r.Intn(len(l))
			switch r.Intn(6) {
			case 0:
				l[i], l[j] = l[j], l[i]
			case 1:
				l[i] = of[r.Intn(len(of))]
			case 2:
				l = append(l, Node{Op: 1 + r.Intn(19)})
			case 3:
				l = append(slices.Concat(l[:i], l[i+1:]), a...)
			case 4:
				l[i].Args += r.Intn(3) - 1
			default:
				l[i] = wrong[r.Intn(len(wrong))]
			}
		}
		want := expectedRight(l)
		if expr.Right(l) != want {
			t.Fatalf("Right of %s: %v", short(l), !want)
		}
		if !want {
			wrongRow(t, l)
		}
		count[want]++
	}
	if count[true] < 10000 || count[false] < 10000 {
		t.Error("too few of one kind:", count)
	}
}
