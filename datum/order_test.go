package datum_test

import (
	"math/rand"
	"slices"
	"testing"

	"longstop/api"
	"longstop/datum"
)

func TestP402Right(t *testing.T) {
	for _, v := range some() {
		same(t, "Right", datum.Right(v), true, v)
		same(t, "Row", datum.Row(v), true, v)
	}
	for _, v := range wrong() {
		same(t, "Right", datum.Right(v), false, v)
		same(t, "Row", datum.Row(v), false, v)
	}
}

// Every Kind, also those that there are not, with every mix of parts.
func TestP402RightOfAllMixes(t *testing.T) {
	numbers := append([]int{3, 4, 5, 6, 7, 8, -6, -7, most, most + 1, -most, -most - 1}, edges...)
	for kind := -3; kind < 10; kind++ {
		for _, n := range numbers {
			for _, m := range numbers {
				for _, b := range []string{"", "a", "\x00", "\xff"} {
					v := Value{Kind: kind, N: n, M: m, B: b}
					same(t, "Right", datum.Right(v), mayBe(v), v)
				}
			}
		}
	}
}

func TestP402RowsOf64(t *testing.T) {
	same(t, "Row", datum.Row(), true)
	same(t, "Row", datum.Row(nil...), true)
	same(t, "Row", datum.Row([]Value{}...), true)
	for _, v := range []Value{null, whole(1), text("a")} {
		for _, n := range []int{1, 2, 63, 64} {
			same(t, "Row", datum.Row(copies(n, v)...), true, n)
		}
		for _, n := range []int{65, 66, 128, 1 << 16} {
			same(t, "Row", datum.Row(copies(n, v)...), false, n)
		}
	}
	same(t, "Row", datum.Row(copies(64, text(someTexts()[len(someTexts())-1]))...), true)
}

// One wrong value is enough, wherever it stands.
func TestP402RowsWithAWrongValue(t *testing.T) {
	for _, v := range wrong() {
		for _, at := range []int{0, 1, 31, 63} {
			l := copies(64, whole(7))
			l[at] = v
			same(t, "Row", datum.Row(l...), false, v, at)
		}
	}
}

func TestP402Same(t *testing.T) {
	all := append(some(), wrong()...)
	for i, a := range all {
		for j, b := range all {
			same(t, "Same", datum.Same(a, b), i == j, a, b)
		}
	}
	for _, v := range all {
		for _, w := range []Value{
			{Kind: v.Kind + 1, N: v.N, M: v.M, B: v.B}, {Kind: v.Kind, N: v.N + 1, M: v.M, B: v.B},
			{Kind: v.Kind, N: v.N, M: v.M + 1, B: v.B}, {Kind: v.Kind, N: v.N, M: v.M, B: v.B + "a"},
		} {
			same(t, "Same", datum.Same(v, w), false, v, w)
		}
		same(t, "Same", datum.Same(v, Value{Kind: v.Kind, N: v.N, M: v.M, B: string([]byte(v.B))}), true, v)
	}
}

// The order, rising, as the chapter tells it.
func rising() []Value {
	return []Value{
		null,
		whole(least), dec(least, 0), dec(least+1, 0), dec(least, 1), dec(least, 6), dec(-9223372036854, 0), dec(-9223372036854000000, 6), dec(-2500000, 6),
		whole(-2), dec(-2, 0), dec(-20, 1), dec(-200, 2), dec(-2000000, 6), dec(-15, 1), whole(-1), dec(-1, 0), dec(-1, 1), dec(-1, 6),
		whole(0), dec(0, 0), dec(0, 1), dec(0, 6), dec(1, 6), dec(1, 5), dec(10, 6), dec(1, 1), dec(10, 2), dec(100, 3), whole(1), dec(1, 0), dec(10, 1), dec(100, 2), dec(1000000, 6), dec(1000001, 6), dec(15, 1), dec(150, 2),
		whole(2), dec(2, 0), whole(9), whole(10), dec(100, 1), whole(11), dec(great, 6), dec(great, 1), whole(great - 1), dec(great-1, 0), whole(great), dec(great, 0),
		text(""), text("\x00"), text("\x00\x00"), text("\x00a"), text("\x01"), text("A"), text("B"), text("a"), text("a\x00"), text("a\x00b"), text("a\x01"), text("aa"), text("b"), text("z"), text("é"), text("\uffff"), text("\U00010000"),
		truth(0), truth(1),
		point(-most, -most), point(-most, most), point(-2, 5), point(-1, -1), point(-1, 2), point(0, -3), point(0, 0), point(0, 1), point(1, -most), point(1, 0), point(2, -1), point(most, -most), point(most, most),
	}
}

func TestP402CompareByTheOrder(t *testing.T) {
	l := rising()
	for i, a := range l {
		for j, b := range l {
			same(t, "Compare", datum.Compare(a, b), sign(i-j), a, b)
		}
	}
}

func TestP402CompareAsToldAtEveryEdge(t *testing.T) {
	all := some()
	for _, a := range all {
		for _, b := range all {
			same(t, "Compare", datum.Compare(a, b), compared(a, b), a, b)
		}
	}
	r := rand.New(rand.NewSource(41))
	for range 100000 {
		a, b := wild(r), wild(r)
		same(t, "Compare", datum.Compare(a, b), compared(a, b), a, b)
	}
}

// Where one may not be, Kind, N, M, B tell, in that order.
func TestP402CompareOfWrongValues(t *testing.T) {
	all := append(some(), wrong()...)
	for _, a := range wrong() {
		for _, b := range all {
			same(t, "Compare", datum.Compare(a, b), parts(a, b), a, b)
			same(t, "Compare", datum.Compare(b, a), parts(b, a), b, a)
		}
	}
	l := []Value{
		{Kind: least, N: great}, {Kind: -1, B: "a"}, {Kind: api.Int, N: 5, M: -1}, {Kind: api.Int, N: 5, M: 1}, {Kind: api.Int, N: 6, M: -5}, {Kind: api.Int, N: 6, M: 1, B: "a"}, {Kind: api.Int, N: 6, M: 1, B: "b"},
		dec(least, 7), dec(5, -1), dec(50, -2), dec(50, 7), dec(51, -1), {Kind: 6, N: 1}, {Kind: 6, N: 1, M: 1}, {Kind: 6, N: 2}, {Kind: great, B: "a"}, {Kind: great, B: "b"},
	}
	for i, a := range l {
		for j, b := range l {
			same(t, "Compare", datum.Compare(a, b), sign(i-j), a, b)
		}
	}
}

func TestP402Rows(t *testing.T) {
	l := [][]Value{
		{}, {null}, {null, null}, {null, text("")}, {whole(1)}, {whole(1), null}, {whole(1), null, null}, {whole(1), whole(1)}, {dec(1, 0)}, {dec(1, 0), null}, {whole(2)},
		{text("a")}, {text("a"), text("b")}, {text("a"), truth(0)}, {text("a\x00")}, {text("a\x00"), text("b")}, {text("aa")}, {truth(0), truth(1)}, {truth(1)}, {truth(1), truth(0)}, {point(0, 0)},
	}
	for i, a := range l {
		for j, b := range l {
			same(t, "Rows", datum.Rows(a, b), sign(i-j), a, b)
		}
	}
}

func TestP402RowsOfNothingAndOfMany(t *testing.T) {
	same(t, "Rows", datum.Rows(nil, nil), 0)
	same(t, "Rows", datum.Rows(nil, []Value{}), 0)
	same(t, "Rows", datum.Rows([]Value{}, nil), 0)
	same(t, "Rows", datum.Rows(nil, []Value{{}}), -1)
	same(t, "Rows", datum.Rows([]Value{{}}, nil), 1)
	long := copies(1<<12, whole(5))
	same(t, "Rows", datum.Rows(long, long), 0)
	same(t, "Rows", datum.Rows(long, long[:len(long)-1]), 1)
	same(t, "Rows", datum.Rows(long[:64], long[:65]), -1)
	last := slices.Clone(long)
	last[len(last)-1] = whole(4)
	same(t, "Rows", datum.Rows(last, long), -1)
	same(t, "Rows", datum.Rows(long, last), 1)
	same(t, "Rows", datum.Rows([]Value{{Kind: 9}}, []Value{{Kind: 8}, {}}), 1)
	same(t, "Rows", datum.Rows([]Value{{Kind: 9}}, []Value{{Kind: 9}, {}}), -1)
}

func TestP402RowsAsTold(t *testing.T) {
	r := rand.New(rand.NewSource(42))
	all := append(some(), wrong()...)
	for range 100000 {
		a, b := wildRow(r, 4), wildRow(r, 4)
		if r.Intn(2) == 0 {
			b = append(slices.Clone(a), b...)
		}
		if r.Intn(4) == 0 {
			b = append(b, all[r.Intn(len(all))])
		}
		same(t, "Rows", datum.Rows(a, b), comparedRows(a, b), a, b)
		same(t, "Rows", datum.Rows(b, a), -comparedRows(a, b), b, a)
	}
}

func TestP408OneOrder(t *testing.T) {
	all := some()
	slices.SortFunc(all, datum.Compare)
	for i, a := range all {
		for j, b := range all {
			same(t, "Compare", datum.Compare(a, b), sign(i-j), a, b)
			same(t, "Same", datum.Same(a, b), datum.Compare(a, b) == 0, a, b)
		}
	}
	r := rand.New(rand.NewSource(43))
	for range 300000 {
		a, b, c := wild(r), wild(r), wild(r)
		if datum.Compare(a, b) <= 0 && datum.Compare(b, c) <= 0 && datum.Compare(a, c) > 0 {
			t.Fatalf("%v %v %v stand in a ring", a, b, c)
		}
		same(t, "Compare", datum.Compare(a, b), -datum.Compare(b, a), a, b)
		same(t, "Compare", datum.Compare(a, b) == 0, datum.Same(a, b), a, b)
	}
}

// Of wrong values, too, 0 is of the same alone, and turned round is the other.
func TestP408NoneIsTheSameAsAnother(t *testing.T) {
	all := append(some(), wrong()...)
	for i, a := range all {
		for j, b := range all {
			same(t, "Compare", datum.Compare(a, b) == 0, i == j, a, b)
			same(t, "Compare", datum.Compare(a, b), -datum.Compare(b, a), a, b)
		}
	}
	bad := wrong()
	slices.SortFunc(bad, datum.Compare)
	for i, a := range bad {
		for j, b := range bad {
			same(t, "Compare", datum.Compare(a, b), sign(i-j), a, b)
		}
	}
}

func TestP401CompareChangesNothing(t *testing.T) {
	room := []Value{text("a"), dec(15, 1), {Kind: 9}, whole(3)}
	was := slices.Clone(room)
	a, b := room[:2], room[:3]
	for range 2 {
		same(t, "Rows", datum.Rows(a, b), -1)
		same(t, "Row", datum.Row(a...), true)
		same(t, "Row", datum.Row(b...), false)
	}
	if !slices.Equal(room, was) {
		t.Errorf("%v, not %v", room, was)
	}
	same(t, "Compare", datum.Compare(Value{Kind: api.Text, B: "a"}, Value{Kind: api.Text, B: "a"}), 0)
}
