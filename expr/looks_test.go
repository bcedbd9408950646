package expr_test

import (
	"math/rand"
	"slices"
	"strings"
	"testing"

	"longstop/api"
	"longstop/expr"
)

func TestP604Print(t *testing.T) {
	for want, l := range map[string][]Node{
		"a": a, "t.a": colOf("t", "a"), "null": null(), "true": truth(1), "false": truth(0), "0": whole(0), "7": whole(7), "3.": dec(3, 0), "2.50": dec(250, 2), "0.000001": dec(1, 6), "''": text(""), "'it''s'": text("it's"),
		"(- a)": neg(a), "(- (- 3.))": neg(neg(dec(3, 0))), "(- 1)": neg(whole(1)), "(not a)": one(expr.Not, a), "(a is null)": one(expr.IsNull, a), "(null is null)": one(expr.IsNull, null()), "(not (t.a is null))": one(expr.Not, one(expr.IsNull, colOf("t", "a"))), "((not a) is null)": one(expr.IsNull, one(expr.Not, a)),
		"(a * b)": two(expr.Mul, a, b), "(a / b)": two(expr.Div, a, b), "(a % b)": two(expr.Rem, a, b), "(a + b)": two(expr.Add, a, b), "(a - b)": two(expr.Sub, a, b),
		"(a = b)": two(expr.Eq, a, b), "(a <> b)": two(expr.Ne, a, b), "(a < b)": two(expr.Lt, a, b), "(a <= b)": two(expr.Le, a, b), "(a > b)": two(expr.Gt, a, b), "(a >= b)": two(expr.Ge, a, b), "(a and b)": two(expr.And, a, b), "(a or b)": two(expr.Or, a, b),
		"(a + (2 * b))": two(expr.Add, a, two(expr.Mul, whole(2), b)), "((a - b) - c)": two(expr.Sub, two(expr.Sub, a, b), c), "(a - (b - c))": two(expr.Sub, a, two(expr.Sub, b, c)), "(a = (- b))": two(expr.Eq, a, neg(b)),
		"f()": call("f"), "f(a)": call("f", a), "f(a, b)": call("f", a, b), "f(a, 'x', null, t.a)": call("f", a, text("x"), null(), colOf("t", "a")), "f((a + b), g(), (- c))": call("f", two(expr.Add, a, b), call("g"), neg(c)), "(f(a) <> g())": two(expr.Ne, call("f", a), call("g")),
		"f(',', '(')": call("f", text(","), text("(")),
	} {
		if got := expr.Print(l); got != want {
			t.Errorf("Print of %s: %q, not %q", short(l), got, want)
		}
	}
}

// Print knows no MaxSource.
func TestP604LongPrint(t *testing.T) {
	long := text(strings.Repeat("'", api.MaxValue))
	in, want := long, "'"+strings.Repeat("''", api.MaxValue)+"'"
	for range 15 {
		in, want = two(expr.Add, in, long), "("+want+" + '"+strings.Repeat("''", api.MaxValue)+"')"
	}
	if got := expr.Print(in); got != want {
		t.Error(len(got), len(want))
	}
}

func TestP604AsTheChapterSays(t *testing.T) {
	t.Parallel()
	r := rand.New(rand.NewSource(4))
	of := leaves()
	count := 0
	for range 30000 {
		in := wild(r, 1+r.Intn(8), of)
		l := in.row()
		if len(l) > 256 {
			wrongRow(t, l)
			continue
		}
		count++
		if !expr.Right(l) || expr.Print(l) != in.text() || expr.Depth(l) != in.depth() || !slices.Equal(expr.Columns(l), in.columns()) {
			t.Fatalf("%s: %s, %d, %s", short(l), short(expr.Print(l)), expr.Depth(l), short(expr.Columns(l)))
		}
	}
	if count < 10000 {
		t.Error("too few expressions:", count)
	}
}

// columns: each once, in the order in which they come first.
func (in tree) columns() []Node {
	var out []Node
	seen := map[string]bool{}
	for _, n := range in.row() {
		if n.Op == expr.Column && !seen[n.Table+"."+n.Name] {
			seen[n.Table+"."+n.Name] = true
			out = append(out, n)
		}
	}
	return out
}

func TestP604Columns(t *testing.T) {
	for s, want := range map[string][]Node{
		"a": a, "1": nil, "f()": nil, "null": nil, "'a'": nil, "a + a": a, "a + b": slices.Concat(a, b), "b + a": slices.Concat(b, a), "b + a * b": slices.Concat(b, a),
		"a + t.a + a": slices.Concat(a, colOf("t", "a")), "t.a = a and t.a = u.a": slices.Concat(colOf("t", "a"), a, colOf("u", "a")), "t.a + t.b": slices.Concat(colOf("t", "a"), colOf("t", "b")), "a(b)": b, "f(c, b, a, c)": slices.Concat(c, b, a), "f(a, g(b, a), -b) is null": slices.Concat(a, b), "t.b + b.t": slices.Concat(colOf("t", "b"), colOf("b", "t")), "t + a.t + t.a + a": slices.Concat(col("t"), colOf("a", "t"), colOf("t", "a"), a),
	} {
		l, e := expr.Parse(s)
		if got := expr.Columns(l); e != api.OK || !slices.Equal(got, want) {
			t.Errorf("Columns of %s: %s, not %s", s, short(got), short(want))
		}
	}
}

func TestP604Depth(t *testing.T) {
	for s, want := range map[string]int{
		"a": 1, "1": 1, "f()": 1, "((a))": 1, "-a": 2, "a + b": 2, "a + b + c": 3, "a + (b + c)": 3, "(a + b) * (b + c)": 3, "f(a)": 2, "f(a, b, c, a)": 2, "f(f())": 2, "f(a, -b)": 3, "f(-b, a)": 3, "f(-b, -(-a), a)": 4, "a is null": 2, "a is not null": 3, "a + 2 * b": 3, "not not a": 3, "a and b or c": 3,
	} {
		l, e := expr.Parse(s)
		if got := expr.Depth(l); e != api.OK || got != want {
			t.Errorf("Depth of %s: %d, not %d", s, got, want)
		}
	}
}

func TestP604Reserved(t *testing.T) {
	if len(reserved) != 41 {
		t.Fatal(len(reserved))
	}
	for _, w := range reserved {
		if !expr.Reserved(w) {
			t.Error(w, "is reserved")
		}
		for _, like := range []string{w + " ", " " + w, w + "s", "_" + w, w + "_", w + "1", strings.ToUpper(w), strings.ToUpper(w[:1]) + w[1:], w[1:], w[:len(w)-1], w + w, w + "\x00", "'" + w + "'", w + "\n", w + "."} {
			if expr.Reserved(like) && !slices.Contains(reserved, like) {
				t.Errorf("%q is not reserved", like)
			}
		}
		for _, v := range reserved {
			if expr.Reserved(w + " " + v) {
				t.Error(w, v)
			}
		}
	}
	for _, s := range []string{"", " ", "a", "count", "sum", "min", "max", "avg", "int", "text", "bool", "point", "dec", "inner", "outer", "right", "in", "like", "between", "exists", "case", "if", "offset", "foreign", "default", "with", "to", "ors", "an", "isnull", "+", "(", "1", strings.Repeat("and", 1<<18)} {
		if expr.Reserved(s) {
			t.Errorf("%s is not reserved", short(s))
		}
	}
}

// Parse of Print is the expression.
func TestP605ThereAndBack(t *testing.T) {
	t.Parallel()
	r := rand.New(rand.NewSource(5))
	of, long := leaves(), text(strings.Repeat("'", api.MaxValue))
	count := map[api.Errno]int{}
	for i := range 40000 {
		l := wild(r, 1+r.Intn(7), of).row()
		if i%20 == 0 {
			l = wild(r, 8, long).row()
		}
		if !expr.Right(l) {
			continue
		}
		s := expr.Print(l)
		got, e := expr.Parse(s)
		if len(s) <= api.MaxSource && (e != api.OK || !slices.Equal(got, l)) {
			t.Fatalf("Parse of %s: %s, %d", short(s), short(got), e)
		}
		if len(s) > api.MaxSource {
			unparsed(t, s, api.ErrSize)
		}
		count[e]++
	}
	if count[api.OK] < 10000 || count[api.ErrSize] < 100 {
		t.Error("too few of one kind:", count)
	}
}

// The deepest expressions of each Op: their texts stay within what can be open.
func TestP605Deepest(t *testing.T) {
	for _, f := range []func([]Node) []Node{
		neg,
		func(in []Node) []Node { return one(expr.Not, in) },
		func(in []Node) []Node { return one(expr.IsNull, in) },
		func(in []Node) []Node { return two(expr.Add, in, b) },
		func(in []Node) []Node { return two(expr.Eq, b, in) },
		func(in []Node) []Node { return call("f", in) },
		func(in []Node) []Node { return call("f", b, null(), in, text("it's")) },
	} {
		l := times(api.MaxDepth-1, a, f)
		parsed(t, expr.Print(l), l)
	}
	parsed(t, expr.Print(full(256)), full(256))
}

// Texts of MaxSource bytes, and of one more.
func TestP605Sizes(t *testing.T) {
	sized := func(size int) []Node {
		l := text("")
		for range 14 {
			l = two(expr.Add, l, text(strings.Repeat("x", api.MaxValue)))
		}
		rest := strings.Repeat("x", size-len(expr.Print(l))-len("( + f('', ''))"))
		return two(expr.Add, l, call("f", text(rest[:api.MaxValue]), text(rest[api.MaxValue:])))
	}
	for _, size := range []int{api.MaxSource - 1, api.MaxSource} {
		l := sized(size)
		s := expr.Print(l)
		if len(s) != size {
			t.Fatal(len(s), size)
		}
		parsed(t, s, l)
	}
	over := expr.Print(sized(api.MaxSource + 1))
	if len(over) != api.MaxSource+1 {
		t.Fatal(len(over))
	}
	unparsed(t, over, api.ErrSize)
}
