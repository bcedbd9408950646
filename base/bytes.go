package base

import (
	"bytes"

	"longstop/api"
	"longstop/codec"
	"longstop/datum"
	"longstop/schema"
)

// PutChange gives the bytes of x. A row that is not named has bytes, too: those
// of a row without values.
func PutChange(x Change) ([]byte, api.Errno) {
	if !isRight(x) {
		return nil, api.ErrArg
	}
	// Nothing of a change that may be is refused from here on, but the Schema
	// of one that names none, which has the bytes "".
	old, _ := datum.Put(x.Old...)
	now, _ := datum.Put(x.Now...)
	table, _ := schema.Put(x.Schema)
	out := codec.Number(x.Kind)
	for _, part := range [...]string{x.Table, string(old), string(now), string(table)} {
		text, _ := codec.Text(part)
		out = append(out, text...)
	}
	return out, api.OK
}

// GetChange gives the change whose bytes b are. No two changes have the same
// bytes, and none has two forms: so b are a change's, if that is written as b
// again.
func GetChange(b []byte) (Change, api.Errno) {
	r := codec.NewReader(b)
	x := Change{Kind: r.Number(), Table: r.Text()}
	x.Old, _ = datum.Get([]byte(r.Text()))
	x.Now, _ = datum.Get([]byte(r.Text()))
	x.Schema, _ = schema.Get([]byte(r.Text()))
	again, e := PutChange(x)
	if e != api.OK || !bytes.Equal(again, b) {
		return Change{}, api.ErrForm
	}
	return x, api.OK
}
