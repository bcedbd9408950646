package schema

import (
	"slices"
	"strings"

	"longstop/api"
	"longstop/datum"
	"longstop/decimal"
	"longstop/eval"
)

// Fit gives the row that t makes of row.
func Fit(t Table, row []api.Value) ([]api.Value, api.Errno) {
	if !Right(t) || len(row) != len(t.Columns) || !datum.Row(row...) {
		return nil, api.ErrArg
	}
	made := make([]api.Value, len(row))
	for i, v := range row {
		fit, e := fitted(v, t.Columns[i], slices.Contains(t.Key, i))
		if e != api.OK {
			return nil, e
		}
		made[i] = fit
	}
	if e := checked(t, made); e != api.OK {
		return nil, e
	}
	return made, api.OK
}

// Keys gives the keys of the row that t makes of row: that of the Key first.
func Keys(t Table, row []api.Value) ([]string, api.Errno) {
	made, e := Fit(t, row)
	if e != api.OK {
		return nil, e
	}
	keys := []string{keyOf(made, t.Key)}
	for _, u := range t.Uniques {
		keys = append(keys, keyOf(made, u))
	}
	return keys, api.OK
}

// fitted gives what column c makes of v.
func fitted(v api.Value, c Column, inKey bool) (api.Value, api.Errno) {
	switch {
	case v.Kind == api.Null && (c.Must || inKey):
		return api.Value{}, api.ErrNull
	case v.Kind == api.Null:
		return v, api.OK
	case c.Kind == api.Dec && (v.Kind == api.Int || v.Kind == api.Dec):
		return rescaled(v, c.Scale)
	case v.Kind != c.Kind:
		return api.Value{}, api.ErrType
	}
	// A copy: what is answered has no memory of what was handed in.
	v.B = strings.Clone(v.B)
	return v, api.OK
}

// rescaled gives a number as a Dec; an Int's M is 0, as its scale is.
func rescaled(v api.Value, scale int) (api.Value, api.Errno) {
	d, e := decimal.Rescale(decimal.Decimal{Units: v.N, Scale: v.M}, scale)
	if e != api.OK {
		return api.Value{}, e
	}
	return api.Value{Kind: api.Dec, N: d.Units, M: d.Scale}, api.OK
}

// checked tells what keeps a row that was made from being t's: a Check that is
// unknown does not.
func checked(t Table, made []api.Value) api.Errno {
	if len(t.Check) == 0 {
		return api.OK
	}
	v, e := eval.Eval(t.Check, scoped(t, t.Name), made)
	if e != api.OK {
		return e
	}
	switch truth, ok := datum.Truth(v); {
	case !ok:
		return api.ErrType
	case truth == 0:
		return api.ErrCheck
	}
	return api.OK
}

// keyOf gives the key of the values at those places; "" of no places, and where
// a value is Null, so that no two rows are held against each other there.
func keyOf(row []api.Value, places []int) string {
	var l []api.Value
	for _, p := range places {
		if row[p].Kind == api.Null {
			return ""
		}
		l = append(l, row[p])
	}
	if len(l) == 0 {
		return ""
	}
	key, _ := datum.Key(l...) // a row that was made has no value that may not be
	return key
}
