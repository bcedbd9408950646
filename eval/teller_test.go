package eval_test

import (
	"math/big"
	"strings"

	"longstop/api"
	"longstop/expr"
)

// What ops and functions come to, told a second time by the chapter's sentences,
// in numbers that know no borders.

func isNumber(v Value) bool { return v.Kind == api.Int || v.Kind == api.Dec }

func tenTo(n int) *big.Int { return new(big.Int).Exp(big.NewInt(10), big.NewInt(int64(n)), nil) }

// number gives an Int's or a Dec's true size.
func number(v Value) *big.Rat {
	return new(big.Rat).SetFrac(big.NewInt(int64(v.N)), tenTo(v.M))
}

var half = big.NewRat(1, 2)

// floor gives the greatest whole number that is not above r.
func floor(r *big.Rat) *big.Int { return new(big.Int).Div(r.Num(), r.Denom()) }

// toInt gives n, if an Int may be so.
func toInt(n *big.Int) answer {
	if !n.IsInt64() {
		return fails(api.ErrOver)
	}
	return is(whole(int(n.Int64())))
}

// toDec gives r, rounded to scale, of two as near the one with even units.
func toDec(r *big.Rat, scale int) answer {
	raised := new(big.Rat).Mul(r, new(big.Rat).SetInt(tenTo(scale)))
	units := floor(raised)
	switch left := new(big.Rat).Sub(raised, new(big.Rat).SetInt(units)); left.Cmp(half) {
	case 1:
		units.Add(units, big.NewInt(1))
	case 0:
		units.Add(units, big.NewInt(int64(units.Bit(0))))
	}
	if !units.IsInt64() {
		return fails(api.ErrOver)
	}
	return is(dec(int(units.Int64()), scale))
}

// toPoint gives the point, if it may be.
func toPoint(x, y int) answer {
	if max(x, y) > most || min(x, y) < -most {
		return fails(api.ErrOver)
	}
	return is(point(x, y))
}

func toldUnary(op int, a Value) answer {
	switch {
	case op == expr.IsNull && a == null:
		return is(truth(1))
	case op == expr.IsNull:
		return is(truth(0))
	case a == null:
		return is(null)
	case op == expr.Not && a.Kind == api.Bool:
		return is(truth(1 - a.N))
	case op == expr.Not:
		return fails(api.ErrType)
	case a.Kind == api.Int:
		return toInt(new(big.Int).Neg(big.NewInt(int64(a.N))))
	case a.Kind == api.Dec:
		return toDec(new(big.Rat).Neg(number(a)), a.M)
	case a.Kind == api.Point:
		return is(point(-a.N, -a.M))
	}
	return fails(api.ErrType)
}

func toldBinary(op int, a, b Value) answer {
	switch {
	case op == expr.And || op == expr.Or:
		return toldTruth(op, a, b)
	case a == null || b == null:
		return is(null)
	case op >= expr.Eq:
		return toldComparison(op, a, b)
	case a.Kind == api.Int && b.Kind == api.Int:
		return toldInts(op, big.NewInt(int64(a.N)), big.NewInt(int64(b.N)))
	case isNumber(a) && isNumber(b):
		return toldDecimals(op, a, b)
	case a.Kind == api.Point && b.Kind == api.Point:
		return toldPoints(op, a, b)
	case op == expr.Add && a.Kind == api.Text && b.Kind == api.Text && len(a.B)+len(b.B) > 256:
		return fails(api.ErrOver)
	case op == expr.Add && a.Kind == api.Text && b.Kind == api.Text:
		return is(text(strings.Join([]string{a.B, b.B}, "")))
	}
	return fails(api.ErrType)
}

// toldTruth: false, unknown and true stand in this order; And is the lesser one
// of two, Or the greater one.
func toldTruth(op int, a, b Value) answer {
	place := func(v Value) int {
		switch v {
		case truth(0):
			return 0
		case null:
			return 1
		case truth(1):
			return 2
		}
		return -1
	}
	x, y := place(a), place(b)
	if x < 0 || y < 0 {
		return fails(api.ErrType)
	}
	if op == expr.And {
		x = min(x, y)
	} else {
		x = max(x, y)
	}
	return is([]Value{truth(0), null, truth(1)}[x])
}

func toldComparison(op int, a, b Value) answer {
	c := 0
	switch {
	case isNumber(a) && isNumber(b):
		c = number(a).Cmp(number(b))
	case a.Kind != b.Kind:
		return fails(api.ErrType)
	case a.Kind == api.Text:
		c = strings.Compare(a.B, b.B)
	case a.N != b.N:
		c = sign(a.N - b.N)
	default:
		c = sign(a.M - b.M)
	}
	if strings.Contains(map[int]string{expr.Eq: "=", expr.Ne: "<>", expr.Lt: "<", expr.Le: "<=", expr.Gt: ">", expr.Ge: ">="}[op], []string{"<", "=", ">"}[c+1]) {
		return is(truth(1))
	}
	return is(truth(0))
}

// sign is of numbers that are far from the borders of ints.
func sign(n int) int { return max(-1, min(1, n)) }

func toldInts(op int, a, b *big.Int) answer {
	n := new(big.Int)
	switch {
	case op == expr.Add:
		n.Add(a, b)
	case op == expr.Sub:
		n.Sub(a, b)
	case op == expr.Mul:
		n.Mul(a, b)
	case b.Sign() == 0:
		return fails(api.ErrZero)
	case op == expr.Div:
		n.Quo(a, b)
	default:
		n.Rem(a, b)
	}
	return toInt(n)
}

func toldDecimals(op int, a, b Value) answer {
	x, y, r := number(a), number(b), new(big.Rat)
	switch {
	case op == expr.Add:
		return toDec(r.Add(x, y), max(a.M, b.M))
	case op == expr.Sub:
		return toDec(r.Sub(x, y), max(a.M, b.M))
	case op == expr.Mul:
		return toDec(r.Mul(x, y), min(a.M+b.M, 6))
	case op == expr.Rem:
		return fails(api.ErrType)
	case y.Sign() == 0:
		return fails(api.ErrZero)
	}
	return toDec(r.Quo(x, y), 6)
}

func toldPoints(op int, a, b Value) answer {
	size := b.N*b.N + b.M*b.M
	switch {
	case op == expr.Add:
		return toPoint(a.N+b.N, a.M+b.M)
	case op == expr.Sub:
		return toPoint(a.N-b.N, a.M-b.M)
	case op == expr.Mul:
		return toPoint(a.N*b.N-a.M*b.M, a.N*b.M+a.M*b.N)
	case size == 0:
		return fails(api.ErrZero)
	}
	x, y := nearest(a.N*b.N+a.M*b.M, size), nearest(a.M*b.N-a.N*b.M, size)
	if op == expr.Div {
		return toPoint(x, y)
	}
	return toPoint(a.N-(b.N*x-b.M*y), a.M-(b.N*y+b.M*x))
}

// nearest gives the whole number nearest to a by b, of two as near the greater.
func nearest(a, b int) int {
	return int(floor(new(big.Rat).Add(big.NewRat(int64(a), int64(b)), half)).Int64())
}

// kinds: of each function's arguments, as the chapter writes them; n is a number.
var kinds = map[string]string{"length": "T", "abs": "n", "norm": "P", "point": "II", "px": "P", "py": "P", "round": "nI"}

func isKind(letter byte, v Value) bool {
	switch letter {
	case 'T':
		return v.Kind == api.Text
	case 'P':
		return v.Kind == api.Point
	case 'I':
		return v.Kind == api.Int
	}
	return isNumber(v)
}

func toldFunction(name string, l ...Value) answer {
	if name == "coalesce" {
		return toldCoalesce(l)
	}
	if kinds[name] == "" || len(l) != len(kinds[name]) {
		return fails(api.ErrName)
	}
	for _, v := range l {
		if v == null {
			return is(null)
		}
	}
	for i, v := range l {
		if !isKind(kinds[name][i], v) {
			return fails(api.ErrType)
		}
	}
	return toldCall(name, l)
}

func toldCoalesce(l []Value) answer {
	if len(l) == 0 || len(l) > 4 {
		return fails(api.ErrName)
	}
	for len(l) > 1 && l[0] == null {
		l = l[1:]
	}
	return is(l[0])
}

func toldCall(name string, l []Value) answer {
	a := l[0]
	switch name {
	case "length":
		return is(whole(len([]byte(a.B))))
	case "norm":
		return is(whole(a.N*a.N + a.M*a.M))
	case "px":
		return is(whole(a.N))
	case "py":
		return is(whole(a.M))
	case "point":
		return toPoint(a.N, l[1].N)
	case "round":
		if l[1].N < 0 || l[1].N > 6 {
			return fails(api.ErrOver)
		}
		return toDec(number(a), l[1].N)
	}
	if a.Kind == api.Int {
		return toInt(new(big.Int).Abs(big.NewInt(int64(a.N))))
	}
	return toDec(new(big.Rat).Abs(number(a)), a.M)
}

// tree: an expression as it grows, for those who would not go by stacks.
type tree struct {
	Node
	of []tree
}

func (in tree) row() []Node {
	var out []Node
	for _, operand := range in.of {
		out = append(out, operand.row()...)
	}
	return append(out, in.Node)
}

// told gives what a tree comes to, of a scope that may be.
func (in tree) told(s Scope, row []Value) answer {
	var with []Value
	for _, operand := range in.of {
		a := operand.told(s, row)
		if a.e != api.OK {
			return a
		}
		with = append(with, a.Value)
	}
	switch in.Op {
	case expr.Value:
		return is(in.Value)
	case expr.Column:
		return toldColumn(s, in.Table, in.Name, row)
	case expr.Call:
		return toldFunction(in.Name, with...)
	case expr.Neg, expr.Not, expr.IsNull:
		return toldUnary(in.Op, with[0])
	}
	return toldBinary(in.Op, with[0], with[1])
}

// places gives all places of columns that are named so.
func places(s Scope, table, name string) []int {
	var out []int
	for i := range s.Names {
		if (table == "" || table == s.Tables[i]) && name == s.Names[i] {
			out = append(out, i)
		}
	}
	return out
}

func toldColumn(s Scope, table, name string, row []Value) answer {
	l := places(s, table, name)
	if len(l) != 1 {
		return fails(api.ErrName)
	}
	return is(row[l[0]])
}
