package eval

import (
	"slices"

	"longstop/api"
	"longstop/decimal"
	"longstop/expr"
	"longstop/gauss"
)

// Function gives what the function of that name comes to of l.
func Function(name string, l ...api.Value) (api.Value, api.Errno) {
	if !allRight(l) {
		return api.Value{}, api.ErrArg
	}
	if !isFunction(name, len(l)) {
		return api.Value{}, api.ErrName
	}
	if name == "coalesce" {
		return firstKnown(l), api.OK
	}
	if slices.Contains(l, api.Value{}) {
		return api.Value{}, api.OK
	}
	return called(name, l)
}

// isFunction tells whether there is a function of that name and of that many
// arguments.
func isFunction(name string, count int) bool {
	switch name {
	case "length", "abs", "norm", "px", "py":
		return count == 1
	case "point", "round":
		return count == 2
	case "coalesce":
		return 1 <= count && count <= 4
	}
	return false
}

// firstKnown gives the first that is not Null, or Null.
func firstKnown(l []api.Value) api.Value {
	for _, v := range l {
		if v.Kind != api.Null {
			return apart(v)
		}
	}
	return api.Value{}
}

// called gives what a function comes to of as many values as it has, none of
// them Null; those that are not of the kinds that stand beside its name are of
// another kind.
func called(name string, l []api.Value) (api.Value, api.Errno) {
	a, last := l[0], l[len(l)-1]
	switch {
	case name == "length" && a.Kind == api.Text:
		return whole(len(a.B), api.OK)
	case name == "abs" && isNumber(a):
		return size(a)
	case name == "norm" && a.Kind == api.Point:
		return whole(gauss.Norm(point(a)), api.OK)
	case name == "px" && a.Kind == api.Point:
		return whole(a.N, api.OK)
	case name == "py" && a.Kind == api.Point:
		return whole(a.M, api.OK)
	case name == "point" && a.Kind == api.Int && last.Kind == api.Int:
		return pointAt(gauss.Point{X: a.N, Y: last.N})
	case name == "round" && isNumber(a) && last.Kind == api.Int:
		return rounded(units(a), last.N)
	}
	return api.Value{}, api.ErrType
}

// size gives the greater one of a number and its Neg.
func size(a api.Value) (api.Value, api.Errno) {
	b, e := Unary(expr.Neg, a)
	if e != api.OK {
		return api.Value{}, e
	}
	if decimal.Compare(units(a), units(b)) < 0 {
		return b, api.OK
	}
	return a, api.OK
}

func pointAt(p gauss.Point) (api.Value, api.Errno) {
	if !gauss.Right(p) {
		return api.Value{}, api.ErrOver
	}
	return placed(p, api.OK)
}

func rounded(d decimal.Decimal, scale int) (api.Value, api.Errno) {
	// A scale is one that a decimal may have.
	if !decimal.Right(decimal.Decimal{Scale: scale}) {
		return api.Value{}, api.ErrOver
	}
	return exact(decimal.Rescale(d, scale))
}
