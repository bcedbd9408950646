package eval_test

import (
	"math/rand"
	"slices"
	"testing"

	"longstop/api"
	"longstop/eval"
	"longstop/expr"
)

// What an expression comes to does not depend on columns that it does not name.
func TestP705OtherColumns(t *testing.T) {
	t.Parallel()
	r := rand.New(rand.NewSource(75))
	for range 30000 {
		l := grow(r, 1+r.Intn(4), wildKind(r)).row()
		s, row := wildScope(r)
		other := slices.Clone(row)
		for i := range other {
			if !namesColumn(l, s, i) {
				other[i] = pick(r, mild, wild)(r)
			}
		}
		asWanted(t, l, s, other, of(eval.Eval(l, s, row)))
	}
}

func namesColumn(l []Node, s Scope, place int) bool {
	return slices.ContainsFunc(expr.Columns(l), func(n Node) bool { return slices.Contains(places(s, n.Table, n.Name), place) })
}

// Nor does it depend on columns that are not there.
func TestP705FewerColumns(t *testing.T) {
	s, row := sampleScope(), sampleRow()
	for _, in := range []string{"t.b", "b", "n + 1", "t.b + 'x'", "q and true", "1 / 0", "z"} {
		l := nodes(t, in)
		want := of(eval.Eval(l, s, row))
		few := Scope{}
		var values []Value
		for i := range s.Names {
			if namesColumn(l, s, i) {
				few.Tables, few.Names, values = append(few.Tables, s.Tables[i]), append(few.Names, s.Names[i]), append(values, row[i])
			}
		}
		asWanted(t, l, few, values, want)
	}
}

// turned gives Not of an answer.
func turned(a answer) answer {
	if a.e != api.OK {
		return a
	}
	return of(eval.Unary(expr.Not, a.Value))
}

func TestP705NotOfComparisons(t *testing.T) {
	for op, not := range map[int]int{expr.Eq: expr.Ne, expr.Lt: expr.Ge, expr.Gt: expr.Le} {
		for _, a := range some() {
			for _, b := range some() {
				x, y := of(eval.Binary(op, a, b)), of(eval.Binary(not, a, b))
				same(t, "Not of a comparison", turned(x), y, op, a, b)
				same(t, "Not of a comparison", turned(y), x, not, a, b)
			}
		}
	}
}

func TestP705TurnedRound(t *testing.T) {
	for _, a := range some() {
		for _, b := range some() {
			same(t, "Eq", of(eval.Binary(expr.Eq, a, b)), of(eval.Binary(expr.Eq, b, a)), a, b)
			if isNumber(a) && isNumber(b) {
				same(t, "Add", of(eval.Binary(expr.Add, a, b)), of(eval.Binary(expr.Add, b, a)), a, b)
				same(t, "Mul", of(eval.Binary(expr.Mul, a, b)), of(eval.Binary(expr.Mul, b, a)), a, b)
			}
			for op, back := range map[int]int{expr.Lt: expr.Gt, expr.Le: expr.Ge, expr.Ne: expr.Ne} {
				same(t, "a comparison", of(eval.Binary(op, a, b)), of(eval.Binary(back, b, a)), op, a, b)
			}
		}
	}
}
