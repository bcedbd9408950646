package schema

import (
	"bytes"

	"longstop/api"
	"longstop/codec"
	"longstop/expr"
)

// Put gives the table's bytes.
func Put(t Table) ([]byte, api.Errno) {
	if !Right(t) {
		return nil, api.ErrArg
	}
	var out []byte
	write := func(part []byte) { out = append(out, part...) }
	write(textBytes(t.Name))
	write(numberBytes(len(t.Columns)))
	for _, c := range t.Columns {
		write(textBytes(c.Name))
		write(numberBytes(c.Kind, c.Scale, oneIf(c.Must)))
	}
	write(placesBytes(t.Key))
	write(numberBytes(len(t.Uniques)))
	for _, u := range t.Uniques {
		write(placesBytes(u))
	}
	write(textBytes(expr.Print(t.Check)))
	return out, api.OK
}

// Get gives the table whose bytes b are. No two tables have the same bytes, and
// none has two forms: so b are a table's, if that is written as b again.
func Get(b []byte) (Table, api.Errno) {
	t := read(codec.NewReader(b))
	again, e := Put(t)
	if e != api.OK || !bytes.Equal(again, b) {
		return Table{}, api.ErrForm
	}
	return t, api.OK
}

func textBytes(s string) []byte {
	b, _ := codec.Text(s) // no text of a table is too long for codec
	return b
}

func numberBytes(l ...int) []byte {
	var out []byte
	for _, n := range l {
		out = append(out, codec.Number(n)...)
	}
	return out
}

func placesBytes(l []int) []byte {
	return append(codec.Number(len(l)), numberBytes(l...)...)
}

func oneIf(must bool) int {
	if must {
		return 1
	}
	return 0
}

// read gives the table that r tells, if it tells one at all.
func read(r *codec.Reader) Table {
	t := Table{Name: r.Text()}
	for range readCount(r, api.MaxColumns) {
		t.Columns = append(t.Columns, Column{Name: r.Text(), Kind: r.Number(), Scale: r.Number(), Must: r.Number() == 1})
	}
	t.Key = readPlaces(r)
	for range readCount(r, maxUniques) {
		t.Uniques = append(t.Uniques, readPlaces(r))
	}
	t.Check, _ = expr.Parse(r.Text())
	return t
}

func readPlaces(r *codec.Reader) []int {
	var l []int
	for range readCount(r, api.MaxColumns) {
		l = append(l, r.Number())
	}
	return l
}

// readCount reads a count, but for what is above most: nobody goes through more
// than a table may have, as such a count is written by none.
func readCount(r *codec.Reader, most int) int {
	return min(r.Number(), most)
}
