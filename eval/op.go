package eval

import (
	"cmp"
	"strings"

	"longstop/api"
	"longstop/datum"
	"longstop/decimal"
	"longstop/expr"
	"longstop/gauss"
)

// Unary gives what op comes to of a.
func Unary(op int, a api.Value) (api.Value, api.Errno) {
	if op < expr.Neg || op > expr.IsNull || !datum.Right(a) {
		return api.Value{}, api.ErrArg
	}
	switch op {
	case expr.IsNull:
		return truth(a.Kind == api.Null), api.OK
	case expr.Not:
		return notOf(a)
	}
	return negOf(a)
}

// Binary gives what op comes to of a and b. From one kind that they may be of it
// jumps on to the next, till they are of that.
func Binary(op int, a, b api.Value) (api.Value, api.Errno) {
	if op < expr.Mul || op > expr.Or || !datum.Right(a) || !datum.Right(b) {
		return api.Value{}, api.ErrArg
	}
	if op != expr.And && op != expr.Or {
		goto nulls
	}
	return ofTruths(op, a, b)
nulls:
	if a.Kind != api.Null && b.Kind != api.Null {
		goto ints
	}
	return api.Value{}, api.OK
ints:
	if a.Kind != api.Int || b.Kind != api.Int {
		goto numbers
	}
	return ofInts(op, a.N, b.N)
numbers:
	if !isNumber(a) || !isNumber(b) {
		goto points
	}
	return ofNumbers(op, units(a), units(b))
points:
	if a.Kind != api.Point || b.Kind != api.Point {
		goto texts
	}
	return ofPoints(op, a, b)
texts:
	if a.Kind != api.Text || b.Kind != api.Text {
		goto bools
	}
	return ofTexts(op, a, b)
bools:
	if a.Kind != api.Bool || b.Kind != api.Bool {
		goto others
	}
	return compared(op, datum.Compare(a, b))
others:
	return api.Value{}, api.ErrType
}

func notOf(a api.Value) (api.Value, api.Errno) {
	t, ok := datum.Truth(a)
	if !ok {
		return api.Value{}, api.ErrType
	}
	return datum.Of(datum.Not(t)), api.OK
}

// negOf jumps from kind to kind, as Binary does.
func negOf(a api.Value) (api.Value, api.Errno) {
	if a.Kind != api.Null {
		goto ints
	}
	return api.Value{}, api.OK
ints:
	if a.Kind != api.Int {
		goto decimals
	}
	return whole(difference(0, a.N))
decimals:
	if a.Kind != api.Dec {
		goto points
	}
	return exact(decimal.Neg(units(a)))
points:
	if a.Kind != api.Point {
		goto others
	}
	return placed(gauss.Turn(point(a), 2), api.OK)
others:
	return api.Value{}, api.ErrType
}

func ofTruths(op int, a, b api.Value) (api.Value, api.Errno) {
	t, ok := datum.Truth(a)
	u, too := datum.Truth(b)
	if !ok || !too {
		return api.Value{}, api.ErrType
	}
	if op == expr.And {
		return datum.Of(datum.And(t, u)), api.OK
	}
	return datum.Of(datum.Or(t, u)), api.OK
}

func ofInts(op, a, b int) (api.Value, api.Errno) {
	switch op {
	case expr.Add:
		return whole(decimal.AddInt(a, b))
	case expr.Sub:
		return whole(difference(a, b))
	case expr.Mul:
		return whole(decimal.MulInt(a, b))
	case expr.Div:
		return whole(quotient(a, b))
	case expr.Rem:
		return whole(rest(a, b))
	}
	return compared(op, cmp.Compare(a, b))
}

func ofNumbers(op int, a, b decimal.Decimal) (api.Value, api.Errno) {
	switch op {
	case expr.Add:
		return exact(decimal.Add(a, b))
	case expr.Sub:
		return exact(decimal.Sub(a, b))
	case expr.Mul:
		return exact(decimal.Mul(a, b))
	case expr.Div:
		return exact(decimal.Div(a, b, api.MaxScale))
	}
	return compared(op, decimal.Compare(a, b))
}

func ofPoints(op int, a, b api.Value) (api.Value, api.Errno) {
	p, q := point(a), point(b)
	switch op {
	case expr.Add:
		return placed(gauss.Add(p, q))
	case expr.Sub:
		return placed(gauss.Sub(p, q))
	case expr.Mul:
		return placed(gauss.Mul(p, q))
	case expr.Div:
		quo, _, e := gauss.Div(p, q)
		return placed(quo, e)
	case expr.Rem:
		_, rest, e := gauss.Div(p, q)
		return placed(rest, e)
	}
	return compared(op, datum.Compare(a, b))
}

func ofTexts(op int, a, b api.Value) (api.Value, api.Errno) {
	if op != expr.Add {
		return compared(op, datum.Compare(a, b))
	}
	if len(a.B)+len(b.B) > api.MaxValue {
		return api.Value{}, api.ErrOver
	}
	// A sum with an empty text is the other text as it lies.
	return api.Value{Kind: api.Text, B: strings.Clone(a.B + b.B)}, api.OK
}

// compared gives what a comparison comes to of two that stand in that order to
// each other; any other op is one that their kind does not have.
func compared(op, order int) (api.Value, api.Errno) {
	switch op {
	case expr.Eq:
		return truth(order == 0), api.OK
	case expr.Ne:
		return truth(order != 0), api.OK
	case expr.Lt:
		return truth(order < 0), api.OK
	case expr.Le:
		return truth(order <= 0), api.OK
	case expr.Gt:
		return truth(order > 0), api.OK
	case expr.Ge:
		return truth(order >= 0), api.OK
	}
	return api.Value{}, api.ErrType
}

// difference: the least Int can't be turned, so that no sum will do.
func difference(a, b int) (int, api.Errno) {
	d, e := decimal.Sub(decimal.Decimal{Units: a}, decimal.Decimal{Units: b})
	return d.Units, e
}

func quotient(a, b int) (int, api.Errno) {
	switch b {
	case 0:
		return 0, api.ErrZero
	case -1:
		// By -1 alone a quotient may be none: where the product is none.
		return decimal.MulInt(a, b)
	}
	return a / b, api.OK
}

func rest(a, b int) (int, api.Errno) {
	if b == 0 {
		return 0, api.ErrZero
	}
	return a % b, api.OK
}
