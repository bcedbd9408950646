package eval_test

import (
	"math/rand"

	"longstop/api"
	"longstop/expr"
)

// Trees that grow by kinds, so that most of their limbs come to something.

func wildKind(r *rand.Rand) int { return 1 + r.Intn(api.Point) }

func node(op int, of ...tree) tree { return tree{Node{Op: op}, of} }

func callOf(name string, of ...tree) tree {
	return tree{Node{Op: expr.Call, Name: name, Args: len(of)}, of}
}

// grow gives a tree of at most that depth, that comes to a value of that kind,
// if all goes well; here and there another one stands in its place.
func grow(r *rand.Rand, depth, kind int) tree {
	if r.Intn(60) == 0 {
		kind = wildKind(r)
	}
	if depth == 1 || r.Intn(8) == 0 {
		return leaf(r, kind)
	}
	limb := func(kind int) tree { return grow(r, depth-1, kind) }
	switch r.Intn(40) {
	case 0, 1, 2:
		return callOf("coalesce", limbs(1+r.Intn(4), kind, limb)...)
	case 3:
		return callOf(pick(r, append(names, "foo")...), limbs(r.Intn(5), kind, limb)...)
	case 4:
		return node(pick(r, binaries...), limb(kind), limb(kind))
	}
	switch kind {
	case api.Int:
		return growInt(r, limb)
	case api.Dec:
		return growDec(r, limb)
	case api.Bool:
		return growBool(r, limb)
	case api.Point:
		return growPoint(r, limb)
	}
	return node(expr.Add, limb(kind), limb(kind))
}

func limbs(count, kind int, limb func(int) tree) []tree {
	var out []tree
	for range count {
		out = append(out, limb(kind))
	}
	return out
}

func growInt(r *rand.Rand, limb func(int) tree) tree {
	switch r.Intn(8) {
	case 0:
		return callOf("length", limb(api.Text))
	case 1:
		return callOf(pick(r, "norm", "px", "py"), limb(api.Point))
	case 2:
		return callOf("abs", limb(api.Int))
	case 3:
		return node(expr.Neg, limb(api.Int))
	}
	return node(pick(r, expr.Add, expr.Sub, expr.Mul, expr.Div, expr.Rem), limb(api.Int), limb(api.Int))
}

func growDec(r *rand.Rand, limb func(int) tree) tree {
	switch r.Intn(8) {
	case 0:
		scale := tree{Node: Node{Op: expr.Value, Value: whole(r.Intn(8))}}
		return callOf("round", limb(pick(r, api.Int, api.Dec)), scale)
	case 1:
		return callOf("abs", limb(api.Dec))
	case 2:
		return node(expr.Neg, limb(api.Dec))
	}
	of := []tree{limb(api.Dec), limb(pick(r, api.Int, api.Dec))}
	if r.Intn(2) == 0 {
		of[0], of[1] = of[1], of[0]
	}
	return node(pick(r, expr.Add, expr.Sub, expr.Mul, expr.Div), of...)
}

func growBool(r *rand.Rand, limb func(int) tree) tree {
	switch r.Intn(6) {
	case 0:
		return node(expr.Not, limb(api.Bool))
	case 1:
		return node(expr.IsNull, limb(wildKind(r)))
	case 2, 3:
		return node(pick(r, expr.And, expr.Or), limb(api.Bool), limb(api.Bool))
	}
	kind := wildKind(r)
	return node(pick(r, expr.Eq, expr.Ne, expr.Lt, expr.Le, expr.Gt, expr.Ge), limb(kind), limb(kind))
}

func growPoint(r *rand.Rand, limb func(int) tree) tree {
	switch r.Intn(8) {
	case 0, 1:
		return callOf("point", limb(api.Int), limb(api.Int))
	case 2:
		return node(expr.Neg, limb(api.Point))
	}
	return node(pick(r, expr.Add, expr.Sub, expr.Mul, expr.Div, expr.Rem), limb(api.Point), limb(api.Point))
}

// leaf gives a literal of that kind, or the column that has values of it.
func leaf(r *rand.Rand, kind int) tree {
	v := ofKind(r, kind, mild)
	if r.Intn(3) == 0 && kind != api.Point && v.N >= 0 {
		return tree{Node: Node{Op: expr.Value, Value: v}}
	}
	if r.Intn(12) == 0 {
		return tree{Node: Node{Op: expr.Column, Table: pick(r, "", "t", "u", "z"), Name: pick(r, "i", "d", "s", "b", "p", "z")}}
	}
	return tree{Node: Node{Op: expr.Column, Table: pick(r, "", "", "t"), Name: string("?idsbp"[kind])}}
}

func ofKind(r *rand.Rand, kind int, give func(*rand.Rand) Value) Value {
	v := give(r)
	for v.Kind != kind {
		v = give(r)
	}
	return v
}

// wildScope gives a scope in which each kind has its column, and a row of it.
func wildScope(r *rand.Rand) (Scope, []Value) {
	s := columns("t.i", "t.d", "t.s", "t.b", "t.p")
	if r.Intn(10) == 0 {
		s = columns("t.i", "t.d", "t.s", "t.b", "t.p", "u.i", "u.d", "b")
	}
	row := make([]Value, len(s.Names))
	for i := range row {
		row[i] = ofKind(r, 1+i%5, pick(r, mild, mild, mild, wild))
		if r.Intn(20) == 0 {
			row[i] = wild(r)
		}
	}
	return s, row
}
