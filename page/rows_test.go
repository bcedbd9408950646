package page_test

import (
	"bytes"
	"slices"
	"strings"
	"testing"

	"longstop/api"
	"longstop/page"
)

// layout complains unless the pages have these slots.
func layout(t *testing.T, what string, pages [][]byte, want ...[]string) {
	t.Helper()
	if len(pages) != len(want) {
		t.Fatalf("%s: %d pages, not %d", what, len(pages), len(want))
	}
	for i, p := range pages {
		holds(t, what, p, want[i]...)
	}
}

func allKinds() []Value {
	return row(Value{}, whole(0), whole(least), whole(great), dec(-25, 1), dec(great, 6), dec(least, 0), text(""), text("it's\x00 é"), truth(0), truth(1), point(0, 0), point(-api.MaxPoint, api.MaxPoint))
}

func TestP1203Pack(t *testing.T) {
	layout(t, "one row", packed(t, row(whole(7))), []string{"\x02\x02\x0e"})
	a, b, c := row(whole(1), text("a")), row(Value{}, truth(1)), allKinds()
	layout(t, "three rows", packed(t, a, b, c), []string{put(a...), put(b...), put(c...)})
	layout(t, "the same row", packed(t, a, a), []string{put(a...), put(a...)})
	layout(t, "no order", packed(t, b, a), []string{put(b...), put(a...)})
}

func TestP1203PackOfNoRows(t *testing.T) {
	for _, rows := range [][][]Value{nil, {}} {
		l, e := page.Pack(rows)
		if len(l) != 0 || e != api.OK {
			t.Error(len(l), e)
		}
	}
}

func TestP1203PackOfARowWithoutValues(t *testing.T) {
	layout(t, "nil", packed(t, nil), []string{"\x00"})
	layout(t, "empty", packed(t, []Value{}), []string{"\x00"})
	rows := make([][]Value, 201)
	l := slices.Repeat([]string{"\x00"}, 100)
	layout(t, "a hundred a page", packed(t, rows...), l, l, []string{"\x00"})
}

func TestP1203PackFillsPages(t *testing.T) {
	a, b, c := rowOf(200), rowOf(294), rowOf(295)
	x, y, z := put(a...), put(b...), put(c...)
	layout(t, "just one page", packed(t, a, b), []string{x, y})
	layout(t, "a byte more", packed(t, a, c), []string{x}, []string{z})
	layout(t, "just one page, and one more", packed(t, a, b, a), []string{x, y}, []string{x})
	layout(t, "just one page, and a small one more", packed(t, a, b, nil), []string{x, y}, []string{"\x00"})
	layout(t, "two pages", packed(t, a, b, b, a), []string{x, y}, []string{y, x})
	// Only the last page is asked for room.
	layout(t, "an earlier page has room", packed(t, a, c, nil, a), []string{x}, []string{z, "\x00"}, []string{x})
	layout(t, "a page each", packed(t, c, c, c), []string{z}, []string{z}, []string{z})
	d := row(rowOf(5)...)
	rows := slices.Repeat([][]Value{d}, 56)
	l := slices.Repeat([]string{put(d...)}, 55) // 55 * 9 = 495
	layout(t, "small ones", packed(t, rows...), l, []string{put(d...)})
}

func TestP1203PackOfGreatRows(t *testing.T) {
	r := rowOf(498)
	layout(t, "498", packed(t, r), []string{put(r...)})
	layout(t, "498 each", packed(t, r, nil, r, r), []string{put(r...)}, []string{"\x00"}, []string{put(r...)}, []string{put(r...)})
	layout(t, "497", packed(t, rowOf(497)), []string{put(rowOf(497)...)})
	for _, n := range []int{499, 500, 502, 504, 512, 3000} {
		noPack(t, "more", api.ErrSize, rowOf(n))
		noPack(t, "more", api.ErrSize, nil, rowOf(n))
		noPack(t, "more", api.ErrSize, rowOf(n), nil)
		noPack(t, "more", api.ErrSize, r, r, rowOf(n), r)
	}
	// As many and as great ones as a row may have.
	l := slices.Repeat([]Value{text(strings.Repeat("m", api.MaxValue))}, 64)
	noPack(t, "most", api.ErrSize, l)
	layout(t, "64 values", packed(t, make([]Value, 64)), []string{put(make([]Value, 64)...)})
}

// wrongRows: rows that may not be.
func wrongRows() map[string][]Value {
	return map[string][]Value{
		"65 values":                     make([]Value, 65),
		"1000 values":                   make([]Value, 1000),
		"65 values of too many bytes":   slices.Repeat([]Value{text("0123456789")}, 65),
		"a Kind that there is not":      row(Value{Kind: 6}),
		"a Kind below 0":                row(Value{Kind: -1}),
		"a Null with a number":          row(whole(1), Value{N: 1}),
		"an Int with a scale":           row(Value{Kind: api.Int, N: 1, M: 1}),
		"a Bool of 2":                   row(truth(2)),
		"a scale that is too great":     row(dec(1, 7)),
		"a scale below 0":               row(dec(1, -1)),
		"a point beyond":                row(point(api.MaxPoint+1, 0)),
		"a Text that is too long":       row(text(strings.Repeat("a", 257))),
		"a Text far too long":           row(text(strings.Repeat("a", 1<<21))),
		"bad UTF-8":                     row(text("\xff")),
		"a Text with a number":          row(Value{Kind: api.Text, N: 1}),
		"an Int with a text":            row(Value{Kind: api.Int, B: "a"}),
		"a wrong one behind great ones": row(text(repeated(256)), text(repeated(256)), truth(2)),
	}
}

func TestP1203PackOfRowsThatMayNotBe(t *testing.T) {
	for what, r := range wrongRows() {
		noPack(t, what, api.ErrArg, r)
		noPack(t, what, api.ErrArg, nil, r)
		noPack(t, what, api.ErrArg, r, nil)
		noPack(t, what, api.ErrArg, slices.Concat(slices.Repeat([][]Value{rowOf(400)}, 9), [][]Value{r}, [][]Value{nil})...)
		// ErrArg is named ahead of ErrSize.
		noPack(t, what, api.ErrArg, r, rowOf(499))
		noPack(t, what, api.ErrArg, rowOf(499), r)
		noPack(t, what, api.ErrArg, rowOf(499), nil, rowOf(3000), r, rowOf(499))
	}
}

func TestP1203UnpackOfNoPages(t *testing.T) {
	for _, pages := range [][][]byte{nil, {}, {page.New()}, {page.New(), page.New()}} {
		rows, e := page.Unpack(pages)
		if len(rows) != 0 || e != api.OK {
			t.Errorf("%d pages: %s, %d", len(pages), short(rows), e)
		}
	}
}

func TestP1203Unpack(t *testing.T) {
	a, b, c := row(whole(1), text("a")), row(Value{}, truth(1)), allKinds()
	x, y, z := put(a...), put(b...), put(c...)
	for _, k := range []struct {
		pages [][]string
		rows  [][]Value
	}{
		{[][]string{{x}}, [][]Value{a}},
		{[][]string{{x, y, z}}, [][]Value{a, b, c}},
		{[][]string{{z, y}, {x}, {y, x}}, [][]Value{c, b, a, b, a}},
		{[][]string{{empty, x}}, [][]Value{a}},
		{[][]string{{empty, x, empty, empty, y}, nil, {empty, empty, z}}, [][]Value{a, b, c}},
		{[][]string{nil, {x}, nil}, [][]Value{a}},
		{[][]string{{"\x00", empty, "\x00"}}, [][]Value{nil, nil}},
		{[][]string{{x}, {x}}, [][]Value{a, a}},
		{[][]string{{put(rowOf(498)...)}, {x}}, [][]Value{rowOf(498), a}},
	} {
		var pages [][]byte
		for _, l := range k.pages {
			pages = append(pages, pageOf(l...))
		}
		if got := unpacked(t, pages...); !sameRows(got, k.rows) {
			t.Errorf("%q: %s, not %s", k.pages, short(got), short(k.rows))
		}
	}
}

func TestP1203UnpackOfNoPage(t *testing.T) {
	right := pageOf(put(whole(1)))
	for what, p := range map[string][]byte{
		"nil":           nil,
		"too short":     right[:511],
		"too long":      append(slices.Clone(right), 0),
		"another sum":   append(slices.Clone(right[:511]), right[511]+1),
		"another byte":  append([]byte{1}, right[1:]...),
		"wrong fields":  laid(numbers(1, 502, 1), []byte("\x00\x00")),
		"a last empty":  laid(numbers(2, 503, 1, 0, 0), []byte("\x00")),
		"overlaid rows": laid(numbers(2, 503, 1, 503, 1), []byte("\x00")),
	} {
		noUnpack(t, what, p)
		noUnpack(t, what, right, p)
		noUnpack(t, what, p, right)
		noUnpack(t, what, right, page.New(), p, right)
	}
}

func TestP1203UnpackOfNoRowsBytes(t *testing.T) {
	right := put(whole(1), text("abc"), dec(5, 1))
	l := []string{
		"", "a", "\x01", "\x02", "\x02\x02", "\x02\x0c", "\x02\x08\x04", "\x02\x02\x80\x00", "\x02\x06\x02\xff",
		"\x82\x01" + strings.Repeat("\x00", 65), "\x01\x00", right + "\x00", right[:len(right)-1], right[1:], "\x00\x00", repeated(400),
	}
	for i := range right {
		l = append(l, right[:i])
	}
	for _, r := range l {
		noUnpack(t, short(r), pageOf(r))
		noUnpack(t, short(r), pageOf(empty, r))
		noUnpack(t, short(r), pageOf("\x00", r))
		noUnpack(t, short(r), pageOf(right), pageOf(r), pageOf(right))
		noUnpack(t, short(r), pageOf(r, "\x00"))
	}
	// Both faults have one answer.
	noUnpack(t, "both", pageOf("a"), nil)
	noUnpack(t, "both", nil, pageOf("a"))
}

func TestP1205ThereAndBack(t *testing.T) {
	for _, rows := range [][][]Value{
		nil, {nil}, {nil, nil, nil}, {allKinds()}, {row(whole(1)), row(whole(1)), row(dec(1, 0)), row(dec(10, 1)), row(text("1"))},
		{rowOf(498), rowOf(3), rowOf(498)}, {make([]Value, 64)}, make([][]Value, 1000), slices.Repeat([][]Value{rowOf(100), nil, allKinds()}, 700),
	} {
		pages := packed(t, rows...)
		if got := unpacked(t, pages...); !sameRows(got, rows) {
			t.Errorf("%s: %s", short(rows), short(got))
		}
		again := packed(t, unpacked(t, pages...)...)
		if !slices.EqualFunc(pages, again, bytes.Equal) {
			t.Errorf("%s: pages are others", short(rows))
		}
	}
}

// Pages of rows are pages like others.
func TestP1205ChangedBetween(t *testing.T) {
	a, b, c, d := row(whole(1)), row(text("two")), row(dec(3, 1)), row(truth(0))
	p := packed(t, a, b, c)[0]
	p = remove(t, p, 1)
	if got := unpacked(t, p); !sameRows(got, [][]Value{a, c}) {
		t.Error(short(got))
	}
	p = insert(t, p, put(d...), 1)
	if got := unpacked(t, p); !sameRows(got, [][]Value{a, d, c}) {
		t.Error(short(got))
	}
	p = update(t, p, 0, put(b...))
	if got := unpacked(t, p); !sameRows(got, [][]Value{b, d, c}) {
		t.Error(short(got))
	}
	noUnpack(t, "no row", update(t, p, 0, "b"))
}
