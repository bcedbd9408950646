package datum_test

import (
	"bytes"
	"fmt"
	"math"
	"math/big"
	"math/rand"
	"slices"
	"strings"
	"testing"
	"unicode/utf8"

	"longstop/api"
	"longstop/datum"
)

type Value = api.Value

const (
	least = math.MinInt
	great = math.MaxInt
	most  = api.MaxPoint
)

var null = Value{}

func whole(n int) Value { return Value{Kind: api.Int, N: n} }

func dec(units, scale int) Value { return Value{Kind: api.Dec, N: units, M: scale} }

func text(s string) Value { return Value{Kind: api.Text, B: s} }

func truth(n int) Value { return Value{Kind: api.Bool, N: n} }

func point(x, y int) Value { return Value{Kind: api.Point, N: x, M: y} }

// same complains where what a call of that name gave is not what it should.
func same[T comparable](t *testing.T, name string, got, want T, given ...any) {
	t.Helper()
	if got != want {
		t.Fatalf("%s of %s: %s, not %s", name, short(given), short(got), short(want))
	}
}

// short tells x in a line that can be read.
func short(x any) string {
	s := fmt.Sprintf("%+v", x)
	return s[:min(len(s), 300)]
}

// answer holds what a call of two results gave, so that it can be compared;
// bytes are told as a text.
type answer[T comparable] struct {
	a T
	e api.Errno
}

func of[T comparable](a T, e api.Errno) answer[T] { return answer[T]{a, e} }

func ofBytes(b []byte, e api.Errno) answer[string] { return answer[string]{string(b), e} }

// edges: numbers around every border that the reckoning has.
var edges = []int{
	0, 1, -1, 2, -2, 9, 10, -10, 20, 100, -100, 255, 256, 1000, 10000, 100000, 1000000, -1000000, 1000001, 15, 150, 1500, -25, -250,
	1 << 31, 1<<31 - 1, -1 << 31, -1<<31 - 1, 1 << 32, 1 << 43, 1<<44 + 1, -1 << 44, math.MaxInt / 1000000, math.MinInt / 1000000, math.MaxInt/1000000 + 1,
	math.MaxInt / 10, math.MinInt / 10, math.MaxInt/10 + 1, math.MinInt/10 - 1, great - 1, great, least + 1, least,
}

// texts that may be: empty ones, ones with a byte 0, with quotes, with the
// highest bytes that there are, with one beginning another, with MaxValue bytes.
func someTexts() []string {
	return []string{
		"", "a", "ab", "a\x00", "a\x00b", "a\x00\x00", "a\x00\x01", "a\x01", "a\x00\x7f", "a\x00ÿ", "\x00", "\x00\x00", "\x00\x01", "\x01", "\x00\x02",
		"'", "''", "'''", "it's", "'a'", "a'", "''a''", "b", "A", "B", " ", " a ", "null", "true", "1", "1.", "<1,2>", "\n", "\t", "\\", "\"", "a b", "--",
		"é", "ÿ", "\x7f", "\u0080", "\u07ff", "\u0800", "\ufffd", "\uffff", "\U00010000", "\U0010ffff", "a\U0010ffff", "日本",
		strings.Repeat("a", api.MaxValue), strings.Repeat("a", api.MaxValue-1), strings.Repeat("'", api.MaxValue), strings.Repeat("\x00", api.MaxValue),
		strings.Repeat("é", api.MaxValue/2), strings.Repeat("\U0010ffff", api.MaxValue/4), strings.Repeat("a", api.MaxValue-1) + "\x00", strings.Repeat("a", api.MaxValue-1) + "'",
	}
}

var coordinates = []int{0, 1, -1, 2, 255, 256, -256, 65535, 65536, -65536, most - 1, most, -most, -most + 1}

// some gives values that may be, of every Kind at all its edges.
func some() []Value {
	all := []Value{null, truth(0), truth(1)}
	for _, n := range edges {
		all = append(all, whole(n))
		for scale := 0; scale <= api.MaxScale; scale++ {
			all = append(all, dec(n, scale))
		}
	}
	for _, s := range someTexts() {
		all = append(all, text(s))
	}
	for _, x := range coordinates {
		for _, y := range coordinates {
			all = append(all, point(x, y))
		}
	}
	return all
}

// wrongTexts: one too long, and such that are no good UTF-8.
func wrongTexts() []string {
	return []string{
		strings.Repeat("a", api.MaxValue+1), strings.Repeat("é", api.MaxValue/2) + "a", strings.Repeat("é", 129), strings.Repeat("\U0010ffff", 65), strings.Repeat("a", 1<<17),
		"\xff", "\x80", "a\xff", "\xffa", "\xc3", "\xc3a", "\xc0\x80", "\xe0\x80\x80", "\xed\xa0\x80", "\xed\xbf\xbf", "\xf4\x90\x80\x80", "\xf0\x9f\x98", "é\xa9",
	}
}

// wrong gives values that may not be: of Kinds that there are not, with
// something in a part that their Kind does not name, and out of their borders.
func wrong() []Value {
	all := []Value{
		{Kind: -1}, {Kind: 6}, {Kind: 7, N: 1}, {Kind: 255}, {Kind: 256}, {Kind: 257, N: 1}, {Kind: least}, {Kind: great, N: 1, M: 1, B: "a"}, {Kind: 1 << 32}, {Kind: 1<<32 + 3, B: "a"},
		{N: 1}, {N: -1}, {M: 1}, {M: least}, {B: "a"}, {B: "\x00"}, {N: 1, M: 1, B: "a"},
		{Kind: api.Int, N: 5, M: 1}, {Kind: api.Int, M: -1}, {Kind: api.Int, N: 5, B: "a"}, {Kind: api.Int, B: "0"},
		{Kind: api.Dec, N: 5, B: "a"}, {Kind: api.Dec, N: 5, M: 2, B: "5"}, dec(0, -1), dec(5, -1), dec(5, 7), dec(5, 8), dec(0, 7), dec(5, least), dec(5, great), dec(5, 256), dec(5, 1<<32),
		{Kind: api.Text, N: 1, B: "a"}, {Kind: api.Text, M: 1, B: "a"}, {Kind: api.Text, N: 1}, {Kind: api.Text, M: -1},
		truth(2), truth(-1), truth(3), truth(256), truth(257), truth(great), truth(least), {Kind: api.Bool, N: 1, M: 1}, {Kind: api.Bool, M: 1}, {Kind: api.Bool, N: 1, B: "a"},
		{Kind: api.Point, N: 1, M: 1, B: "a"}, point(most+1, 0), point(0, most+1), point(-most-1, 0), point(0, -most-1), point(great, least), point(0, great), point(least, 0), point(1<<32, 1),
	}
	for _, s := range wrongTexts() {
		all = append(all, text(s))
	}
	return all
}

// wild gives a value that may be, near another one often enough that texts
// begin each other and numbers are the same at unlike scales.
func wild(r *rand.Rand) Value {
	switch r.Intn(7) {
	case 0:
		return whole(wildNumber(r))
	case 1:
		return dec(wildNumber(r), r.Intn(api.MaxScale+1))
	case 2:
		scale := r.Intn(api.MaxScale + 1)
		return dec((r.Intn(5)-2)*int(math.Pow10(scale)), scale)
	case 3:
		return text(wildText(r))
	case 4:
		return truth(r.Intn(2))
	case 5:
		return point(r.Intn(5)-2, r.Intn(2*most+1)-most)
	}
	return null
}

func wildNumber(r *rand.Rand) int {
	return int(r.Uint64()) >> r.Intn(64)
}

func wildText(r *rand.Rand) string {
	letters := []string{"\x00", "\x00", "\x01", "a", "'", "\x7f", "é", "ÿ", "\U0010ffff"}
	var s string
	for range r.Intn(6) {
		s += letters[r.Intn(len(letters))]
	}
	return s
}

func wildRow(r *rand.Rand, size int) []Value {
	l := make([]Value, r.Intn(size+1))
	for i := range l {
		l[i] = wild(r)
	}
	return l
}

// spoilt gives bytes or a text with one place of it changed, left out or put in.
func spoilt[T ~[]byte | ~string](r *rand.Rand, in T) T {
	b := append([]byte(nil), in...)
	for range 1 + r.Intn(2) {
		at := r.Intn(len(b) + 1)
		switch r.Intn(3) {
		case 0:
			b = slices.Insert(b, at, byte(r.Intn(256)))
		case 1:
			b = slices.Delete(b, at, min(at+1, len(b)))
		case 2:
			if at < len(b) {
				b[at] = byte(r.Intn(256))
			}
		}
	}
	return T(b)
}

// mayBe is the chapter's paragraph, Kind by Kind.
func mayBe(v Value) bool {
	within := func(n, from, to int) bool { return from <= n && n <= to }
	switch v.Kind {
	case api.Null:
		return v.N == 0 && v.M == 0 && v.B == ""
	case api.Int:
		return v.M == 0 && v.B == ""
	case api.Dec:
		return within(v.M, 0, 6) && v.B == ""
	case api.Text:
		return v.N == 0 && v.M == 0 && len(v.B) <= 256 && utf8.Valid([]byte(v.B))
	case api.Bool:
		return within(v.N, 0, 1) && v.M == 0 && v.B == ""
	case api.Point:
		return within(v.N, -1<<20, 1<<20) && within(v.M, -1<<20, 1<<20) && v.B == ""
	}
	return false
}

func sign(n int) int { return max(-1, min(1, n)) }

func ints(a, b int) int {
	return big.NewInt(int64(a)).Cmp(big.NewInt(int64(b)))
}

func first(l ...int) int {
	for _, n := range l {
		if n != 0 {
			return n
		}
	}
	return 0
}

func parts(a, b Value) int {
	return first(ints(a.Kind, b.Kind), ints(a.N, b.N), ints(a.M, b.M), strings.Compare(a.B, b.B))
}

func number(v Value) *big.Rat {
	ten := new(big.Int).Exp(big.NewInt(10), big.NewInt(int64(v.M)), nil)
	return new(big.Rat).SetFrac(big.NewInt(int64(v.N)), ten)
}

// class is the place of a value's Kind in the order, Ints and Decs at one.
func class(v Value) int {
	return []int{1, 2, 2, 3, 4, 5}[v.Kind]
}

// compared is the chapter's order, class by class.
func compared(a, b Value) int {
	if !mayBe(a) || !mayBe(b) {
		return parts(a, b)
	}
	if class(a) != class(b) {
		return ints(class(a), class(b))
	}
	switch class(a) {
	case 2:
		return first(number(a).Cmp(number(b)), ints(a.Kind, b.Kind), ints(a.M, b.M))
	case 3:
		return bytes.Compare([]byte(a.B), []byte(b.B))
	case 4:
		return ints(a.N, b.N)
	case 5:
		return first(ints(a.N, b.N), ints(a.M, b.M))
	}
	return 0
}

func comparedRows(a, b []Value) int {
	for i := 0; i < len(a) && i < len(b); i++ {
		if c := compared(a[i], b[i]); c != 0 {
			return c
		}
	}
	return sign(len(a) - len(b))
}

// folded gives a number's bytes, by its definition.
func folded(n int) []byte {
	fold := new(big.Int).Lsh(big.NewInt(int64(n)), 1)
	if n < 0 {
		fold.Neg(fold).Sub(fold, big.NewInt(1))
	}
	var b []byte
	for {
		group := byte(new(big.Int).And(fold, big.NewInt(127)).Int64())
		if fold.Rsh(fold, 7).Sign() == 0 {
			return append(b, group)
		}
		b = append(b, group|128)
	}
}

// written gives a row's bytes, by the chapter's sentence.
func written(l []Value) string {
	b := folded(len(l))
	for _, v := range l {
		b = append(b, folded(v.Kind)...)
		switch v.Kind {
		case api.Int:
			b = append(b, folded(v.N)...)
		case api.Dec:
			b = append(b, slices.Concat(folded(v.N), folded(v.M))...)
		case api.Text:
			b = append(b, slices.Concat(folded(len(v.B)), []byte(v.B))...)
		case api.Bool:
			b = append(b, folded(v.N)...)
		case api.Point:
			b = append(b, slices.Concat(folded(v.N), folded(v.M))...)
		}
	}
	return string(b)
}

// raised gives n, with two to the power of bits added, in so many bytes.
func raised(n *big.Int, bits, size int) []byte {
	sum := new(big.Int).Add(n, new(big.Int).Lsh(big.NewInt(1), uint(bits)))
	return sum.FillBytes(make([]byte, size))
}

// keyed gives a row's key, by the chapter's sentence.
func keyed(l []Value) string {
	var b []byte
	for _, v := range l {
		b = append(b, byte(class(v)))
		switch v.Kind {
		case api.Int, api.Dec:
			ten := new(big.Int).Exp(big.NewInt(10), big.NewInt(int64(6-v.M)), nil)
			b = append(b, raised(ten.Mul(ten, big.NewInt(int64(v.N))), 127, 16)...)
			b = append(b, byte(v.Kind), byte(v.M))
		case api.Text:
			b = append(b, strings.ReplaceAll(v.B, "\x00", "\x00\xff")...)
			b = append(b, 0, 1)
		case api.Bool:
			b = append(b, byte(v.N))
		case api.Point:
			b = append(b, raised(big.NewInt(int64(v.N)), 31, 4)...)
			b = append(b, raised(big.NewInt(int64(v.M)), 31, 4)...)
		}
	}
	return string(append(b, 0))
}

// put and key are of rows that may be.
func put(t *testing.T, l ...Value) []byte {
	t.Helper()
	b, e := datum.Put(l...)
	same(t, "Put", e, api.OK, l)
	return b
}

func key(t *testing.T, l ...Value) string {
	t.Helper()
	k, e := datum.Key(l...)
	same(t, "Key", e, api.OK, l)
	return k
}

// copies gives n times v.
func copies(n int, v Value) []Value {
	return slices.Repeat([]Value{v}, n)
}
