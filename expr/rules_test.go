package expr_test

import (
	"slices"
	"strings"
	"testing"
	"unsafe"

	"longstop/api"
	"longstop/expr"
)

const sample = "f(t.abc, 'it''s', name, 2.50) <> -other or not t.abc is null"

// within tells whether two texts have memory in common.
func within(a, b string) bool {
	if a == "" || b == "" {
		return false
	}
	from, to := uintptr(unsafe.Pointer(unsafe.StringData(a))), uintptr(unsafe.Pointer(unsafe.StringData(b)))
	return from < to+uintptr(len(b)) && to < from+uintptr(len(a))
}

// apart complains if a text of a shares its memory with one of b.
func apart(t *testing.T, what string, a, b []string) {
	t.Helper()
	for _, x := range a {
		for _, y := range b {
			// A text of one byte lies in a table of the language's own.
			if len(x) > 1 && within(x, y) {
				t.Errorf("%s: %q shares its memory with %q", what, x, y)
			}
		}
	}
}

func textsOf(l []Node) []string {
	var out []string
	for _, n := range l {
		out = append(out, n.Table, n.Name, n.Value.B)
	}
	return out
}

func TestP601NewMemory(t *testing.T) {
	for _, s := range []string{sample, "name", "tab.name", "'text'", "func()"} {
		s = strings.Clone(s)
		l := split(t, s)
		var given []string
		for _, in := range l {
			given = append(given, in.Text, in.Value.B)
		}
		nodes, _, _ := expr.Read(l)
		again, _, _ := expr.Read(l)
		apart(t, "Read", textsOf(nodes), given)
		apart(t, "Read", textsOf(nodes), textsOf(again))
		parsed, _ := expr.Parse(s)
		apart(t, "Parse", textsOf(parsed), []string{s})
		apart(t, "Print", []string{expr.Print(nodes)}, textsOf(nodes))
		apart(t, "Columns", textsOf(expr.Columns(nodes)), textsOf(nodes))
	}
}

func TestP601AnswersAreApart(t *testing.T) {
	l := split(t, sample)
	x, _, _ := expr.Read(l)
	y, _, _ := expr.Read(l)
	columns := expr.Columns(x)
	want, wantColumns := slices.Clone(x), slices.Clone(columns)
	for _, in := range [][]Node{x, expr.Columns(y)} {
		in = in[:cap(in)]
		for i := range in {
			in[i] = Node{Op: 99, Name: "other"}
		}
	}
	again, _, _ := expr.Read(l)
	if !slices.Equal(y, want) || !slices.Equal(again, want) || !slices.Equal(columns, wantColumns) || !slices.Equal(expr.Columns(y), wantColumns) {
		t.Error("an answer was changed by what was done to another one")
	}
}

func TestP601ArgumentsStay(t *testing.T) {
	l := split(t, sample+" and a")
	was := slices.Clone(l)
	for n := range l {
		expr.Read(l[:n])
	}
	if !slices.Equal(l, was) {
		t.Error("Read changed what it was handed")
	}
	room, _ := expr.Parse(sample)
	nodes := slices.Clone(room)
	for from := range room {
		for to := from; to <= len(room); to++ {
			in := room[from:to]
			expr.Right(in)
			expr.Print(in)
			expr.Columns(in)
			expr.Depth(in)
		}
	}
	if !slices.Equal(room, nodes) {
		t.Error("an argument, or the room behind it, was changed")
	}
}

// What is answered does not hang on what was called before.
func TestP601Again(t *testing.T) {
	for _, s := range []string{sample, "", "a +", "a b", strings.Repeat("(", 65), strings.Repeat("- ", 16) + "a", "?", "a = b = c"} {
		x, e := expr.Parse(s)
		printed, columns, depth := expr.Print(x), expr.Columns(x), expr.Depth(x)
		expr.Parse(strings.Repeat("(", 64))
		expr.Parse("other + 1")
		expr.Print([]Node{{Op: 9}})
		y, f := expr.Parse(strings.Clone(s))
		if e != f || !slices.Equal(x, y) || expr.Print(y) != printed || !slices.Equal(expr.Columns(y), columns) || expr.Depth(y) != depth {
			t.Errorf("%s: not the same again", short(s))
		}
	}
}

// Beside an error there is nothing, not even of what stood ahead of the fault.
func TestP601NothingBesideErrors(t *testing.T) {
	refused(t, sample+" and", api.ErrSyntax)
	refused(t, "("+sample, api.ErrSyntax)
	refused(t, sample+" and "+strings.Repeat("- ", 16)+"a", api.ErrDeep)
	refused(t, sample+" and "+strings.Repeat("(", 65), api.ErrDeep)
	unparsed(t, sample+" a", api.ErrSyntax)
	unparsed(t, sample+strings.Repeat(" ", api.MaxSource), api.ErrSize)
}

func TestP601Ops(t *testing.T) {
	ops := []int{expr.Value, expr.Column, expr.Neg, expr.Not, expr.IsNull, expr.Mul, expr.Div, expr.Rem, expr.Add, expr.Sub, expr.Eq, expr.Ne, expr.Lt, expr.Le, expr.Gt, expr.Ge, expr.And, expr.Or, expr.Call}
	for i, op := range ops {
		if op != i+1 {
			t.Error(op, i+1)
		}
	}
}
