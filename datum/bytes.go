package datum

import (
	"longstop/api"
	"longstop/codec"
)

// Put gives a row's bytes.
func Put(l ...api.Value) ([]byte, api.Errno) {
	if e := checked(l); e != api.OK {
		return nil, e
	}
	b := codec.Number(len(l))
	for _, v := range l {
		b = appendValue(b, v)
	}
	return b, api.OK
}

// Get gives the row whose bytes b are.
func Get(b []byte) ([]api.Value, api.Errno) {
	r := codec.NewReader(b)
	n := r.Number()
	if n < 0 || n > maxRow {
		return nil, api.ErrForm
	}
	l := make([]api.Value, n)
	for i := range l {
		l[i] = takeValue(r)
	}
	if r.Done() != api.OK || !Row(l...) {
		return nil, api.ErrForm
	}
	return l, api.OK
}

// appendValue puts v, which may be, behind b.
func appendValue(b []byte, v api.Value) []byte {
	b = append(b, codec.Number(v.Kind)...)
	switch v.Kind {
	case api.Int, api.Bool:
		b = append(b, codec.Number(v.N)...)
	case api.Dec, api.Point:
		b = append(b, codec.Number(v.N)...)
		b = append(b, codec.Number(v.M)...)
	case api.Text:
		text, _ := codec.Text(v.B) // a value's text is never too long for codec
		b = append(b, text...)
	}
	return b
}

// takeValue reads one value, of which the caller must ask whether it may be.
func takeValue(r *codec.Reader) api.Value {
	v := api.Value{Kind: r.Number()}
	switch v.Kind {
	case api.Int, api.Bool:
		v.N = r.Number()
	case api.Dec, api.Point:
		v.N = r.Number()
		v.M = r.Number()
	case api.Text:
		v.B = r.Text()
	}
	return v
}
