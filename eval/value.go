package eval

import (
	"longstop/api"
	"longstop/datum"
	"longstop/decimal"
	"longstop/gauss"
)

func isNumber(v api.Value) bool {
	return v.Kind == api.Int || v.Kind == api.Dec
}

// units gives a number as a decimal: an Int's M is 0, as its scale is.
func units(v api.Value) decimal.Decimal {
	return decimal.Decimal{Units: v.N, Scale: v.M}
}

func point(v api.Value) gauss.Point {
	return gauss.Point{X: v.N, Y: v.M}
}

func truth(ok bool) api.Value {
	if ok {
		return datum.Of(1)
	}
	return datum.Of(0)
}

// whole gives the Int that a reckoning came to, or its error alone; so do exact
// and placed with a Dec and a Point.
func whole(n int, e api.Errno) (api.Value, api.Errno) {
	if e != api.OK {
		return api.Value{}, e
	}
	return api.Value{Kind: api.Int, N: n}, api.OK
}

func exact(d decimal.Decimal, e api.Errno) (api.Value, api.Errno) {
	if e != api.OK {
		return api.Value{}, e
	}
	return api.Value{Kind: api.Dec, N: d.Units, M: d.Scale}, api.OK
}

func placed(p gauss.Point, e api.Errno) (api.Value, api.Errno) {
	if e != api.OK {
		return api.Value{}, e
	}
	return api.Value{Kind: api.Point, N: p.X, M: p.Y}, api.OK
}
