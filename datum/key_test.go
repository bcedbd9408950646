package datum_test

import (
	"math/rand"
	"slices"
	"strings"
	"testing"

	"longstop/api"
	"longstop/datum"
)

func TestP403KeyExamples(t *testing.T) {
	zeros := strings.Repeat("\x00", 13)
	ones := strings.Repeat("\xff", 13)
	for _, x := range []struct {
		want string
		l    []Value
	}{
		{"\x00", nil},
		{"\x01\x00", []Value{null}},
		{"\x01\x01\x00", []Value{null, null}},
		{"\x02\x80" + zeros + "\x00\x00\x01\x00\x00", []Value{whole(0)}},
		{"\x02\x80" + zeros + "\x00\x00\x02\x00\x00", []Value{dec(0, 0)}},
		{"\x02\x80" + zeros + "\x00\x00\x02\x06\x00", []Value{dec(0, 6)}},
		{"\x02\x80" + zeros + "\x00\x01\x02\x06\x00", []Value{dec(1, 6)}},
		{"\x02\x7f" + ones + "\xff\xff\x02\x06\x00", []Value{dec(-1, 6)}},
		{"\x02\x80" + zeros[:12] + "\x0f\x42\x40\x01\x00\x00", []Value{whole(1)}},
		{"\x02\x7f" + ones[:12] + "\xf0\xbd\xc0\x01\x00\x00", []Value{whole(-1)}},
		{"\x02\x80" + zeros[:12] + "\x0f\x42\x40\x02\x02\x00", []Value{dec(100, 2)}},
		{"\x02\x80\x00\x00\x00\x00\x00\x00\x00\x7f\xff\xff\xff\xff\xff\xff\xff\x02\x06\x00", []Value{dec(great, 6)}},
		{"\x02\x7f\xff\xff\xff\xff\xff\xff\xff\x80\x00\x00\x00\x00\x00\x00\x00\x02\x06\x00", []Value{dec(least, 6)}},
		{"\x02\x7f\xff\xff\xff\xff\xf8\x5e\xe0\x00\x00\x00\x00\x00\x00\x00\x00\x01\x00\x00", []Value{whole(least)}},
		{"\x02\x80\x00\x00\x00\x00\x07\xa1\x1f\xff\xff\xff\xff\xff\xf0\xbd\xc0\x01\x00\x00", []Value{whole(great)}},
		{"\x03\x00\x01\x00", []Value{text("")}},
		{"\x03a'\x00\x01\x00", []Value{text("a'")}},
		{"\x03a\x00\xffb\x00\x01\x00", []Value{text("a\x00b")}},
		{"\x03\x00\xff\x00\xff\x00\x01\x00", []Value{text("\x00\x00")}},
		{"\x04\x00\x00", []Value{truth(0)}},
		{"\x04\x01\x00", []Value{truth(1)}},
		{"\x05\x80\x00\x00\x00\x80\x00\x00\x00\x00", []Value{point(0, 0)}},
		{"\x05\x80\x00\x00\x01\x7f\xff\xff\xfe\x00", []Value{point(1, -2)}},
		{"\x05\x7f\xf0\x00\x00\x80\x10\x00\x00\x00", []Value{point(-most, most)}},
		{"\x01\x04\x01\x03a\x00\x01\x00", []Value{null, truth(1), text("a")}},
	} {
		same(t, "Key", of(datum.Key(x.l...)), of(x.want, api.OK), x.l)
	}
}

func TestP403KeyAsTold(t *testing.T) {
	for _, v := range some() {
		same(t, "Key", of(datum.Key(v)), of(keyed([]Value{v}), api.OK), v)
		same(t, "Key", of(datum.Key(v, v)), of(keyed([]Value{v, v}), api.OK), v)
	}
	r := rand.New(rand.NewSource(48))
	for range 20000 {
		l := wildRow(r, 8)
		same(t, "Key", of(datum.Key(l...)), of(keyed(l), api.OK), l)
	}
}

func TestP406KeysStandAsValues(t *testing.T) {
	all := some()
	keys := make([]string, len(all))
	for i, v := range all {
		keys[i] = key(t, v)
	}
	for i, a := range all {
		for j, b := range all {
			same(t, "Key", strings.Compare(keys[i], keys[j]), datum.Rows([]Value{a}, []Value{b}), a, b)
			same(t, "Key", strings.Compare(keys[i], keys[j]), compared(a, b), a, b)
		}
	}
}

// Each row beside such as it begins, such as have one value more or another.
func TestP406KeysStandAsRows(t *testing.T) {
	r := rand.New(rand.NewSource(49))
	for range 200000 {
		a, b := wildRow(r, 4), wildRow(r, 4)
		if r.Intn(2) == 0 {
			b = append(slices.Clone(a), b...)
		}
		if r.Intn(2) == 0 && len(b) > 0 {
			b[r.Intn(len(b))] = wild(r)
		}
		want := comparedRows(a, b)
		same(t, "Key", strings.Compare(key(t, a...), key(t, b...)), want, a, b)
		same(t, "Rows", datum.Rows(a, b), want, a, b)
	}
}

func TestP406KeysOfTextsBesideEachOther(t *testing.T) {
	var rows [][]Value
	parts := []string{"", "\x00", "\x00\x00", "\x01", "\x02", "\x03", "\x04", "\x05", "a", "a\x00", "ÿ"}
	for _, s := range parts {
		rows = append(rows, []Value{text(s)})
		for _, u := range parts {
			rows = append(rows, []Value{text(s), text(u)}, []Value{text(s + u)}, []Value{text(s + u), null}, []Value{text(s), null, text(u)})
		}
	}
	for _, a := range rows {
		for _, b := range rows {
			same(t, "Key", strings.Compare(key(t, a...), key(t, b...)), comparedRows(a, b), a, b)
		}
	}
}
