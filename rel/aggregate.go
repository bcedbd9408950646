package rel

import (
	"slices"

	"longstop/api"
	"longstop/datum"
	"longstop/decimal"
	"longstop/eval"
	"longstop/expr"
)

const (
	countName = "count"
	sumName   = "sum"
	minName   = "min"
	maxName   = "max"
	avgName   = "avg"
)

// Aggregate gives what the aggregate of that name comes to of l, Nulls left out.
func Aggregate(name string, l []api.Value) (api.Value, api.Errno) {
	var known []api.Value
	for _, v := range l {
		if !datum.Right(v) {
			return api.Value{}, api.ErrArg
		}
		if v.Kind != api.Null {
			known = append(known, v)
		}
	}
	switch {
	case !aggregates(name):
		return api.Value{}, api.ErrName
	case name == countName:
		return whole(len(known)), api.OK
	case len(known) == 0:
		return api.Value{}, api.OK
	case name == sumName:
		return sumOf(known)
	case name == avgName:
		return averageOf(known)
	case name == minName:
		return apart(slices.MinFunc(known, datum.Compare)), api.OK
	}
	return apart(slices.MaxFunc(known, datum.Compare)), api.OK
}

// aggregates tells whether name is that of an aggregate.
func aggregates(name string) bool {
	switch name {
	case countName, sumName, minName, maxName, avgName:
		return true
	}
	return false
}

// sumOf adds one after the other, the first one to a 0: that leaves it as it is,
// its Kind and its scale, too, and is added to numbers alone. (Two Texts, or two
// Points, would have a sum.)
func sumOf(l []api.Value) (api.Value, api.Errno) {
	sum := whole(0)
	for _, v := range l {
		next, e := eval.Binary(expr.Add, sum, v)
		if e != api.OK {
			return api.Value{}, e
		}
		sum = next
	}
	return sum, api.OK
}

func averageOf(l []api.Value) (api.Value, api.Errno) {
	sum, e := sumOf(l)
	if e != api.OK {
		return api.Value{}, e
	}
	// An Int's M is 0, as its scale is.
	d, e := decimal.Div(decimal.Decimal{Units: sum.N, Scale: sum.M}, decimal.Decimal{Units: len(l)}, api.MaxScale)
	if e != api.OK {
		return api.Value{}, e
	}
	return api.Value{Kind: api.Dec, N: d.Units, M: d.Scale}, api.OK
}

func whole(n int) api.Value {
	return api.Value{Kind: api.Int, N: n}
}
