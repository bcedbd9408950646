package decimal_test

import (
	"math/rand"
	"slices"
	"testing"

	"longstop/api"
	"longstop/decimal"
)

func TestP204TurnedRound(t *testing.T) {
	pairs(func(a, b Decimal) {
		same(t, "Add", of(decimal.Add(a, b)), of(decimal.Add(b, a)), a, b)
		same(t, "Mul", of(decimal.Mul(a, b)), of(decimal.Mul(b, a)), a, b)
	})
}

func TestP204SubUndoesAdd(t *testing.T) {
	undone := 0
	pairs(func(a, b Decimal) {
		sum, e := decimal.Add(a, b)
		if e != api.OK {
			return
		}
		back, e := decimal.Sub(sum, b)
		// The difference has the greater Scale, at which a itself may not fit.
		want := of(decimal.Rescale(a, max(a.Scale, b.Scale)))
		same(t, "Sub", answer{back, e}, want, sum, b)
		undone++
	})
	if undone < 10000 {
		t.Errorf("only %d sums", undone)
	}
}

func TestP204DivUndoesMul(t *testing.T) {
	undone := 0
	pairs(func(a, b Decimal) {
		both, e := decimal.Mul(a, b)
		if e != api.OK || b.Units == 0 || a.Scale+b.Scale > api.MaxScale {
			return
		}
		same(t, "Div", of(decimal.Div(both, b, a.Scale)), answer{d: a}, both, b)
		undone++
	})
	if undone < 10000 {
		t.Errorf("only %d products", undone)
	}
}

func TestP205ThereAndBack(t *testing.T) {
	r := rand.New(rand.NewSource(5))
	all := some()
	for range 100000 {
		all = append(all, wild(r))
	}
	for _, d := range all {
		s := decimal.Print(d)
		same(t, "Parse", of(decimal.Parse(s)), answer{d: d}, s)
	}
}

// One order: sorted once, every two of the list stand as Compare says.
func TestP206OneOrder(t *testing.T) {
	all := some()
	slices.SortFunc(all, decimal.Compare)
	for i, a := range all {
		for j, b := range all {
			got := decimal.Compare(a, b)
			if got != -decimal.Compare(b, a) || i < j && got > 0 || i == j && got != 0 {
				t.Errorf("Compare of %v and %v: %d", a, b, got)
			}
		}
	}
	for i := 2; i < len(all); i++ {
		if decimal.Compare(all[i-2], all[i-1]) == 0 && decimal.Compare(all[i-1], all[i]) == 0 && decimal.Compare(all[i-2], all[i]) != 0 {
			t.Errorf("%v %v %v are not equal each to each", all[i-2], all[i-1], all[i])
		}
	}
}

func TestP206RescaleKeepsTheOrder(t *testing.T) {
	r := rand.New(rand.NewSource(6))
	kept := 0
	pairs(func(a, b Decimal) {
		up, e := decimal.Rescale(a, a.Scale+r.Intn(api.MaxScale-a.Scale+1))
		if e != api.OK {
			return
		}
		kept++
		if decimal.Compare(up, a) != 0 || decimal.Compare(up, b) != decimal.Compare(a, b) || decimal.Compare(b, up) != decimal.Compare(b, a) {
			t.Errorf("%v and %v stand otherwise than %v and %v", up, b, a, b)
		}
	})
	if kept < 10000 {
		t.Errorf("only %d were rescaled", kept)
	}
}

// Pure: what was called ahead does not change what a call answers.
func TestP201Pure(t *testing.T) {
	all := func(a, b Decimal) []answer {
		n, e := decimal.AddInt(a.Units, b.Units)
		m, f := decimal.MulInt(a.Units, b.Units)
		return []answer{
			of(decimal.Add(a, b)), of(decimal.Sub(a, b)), of(decimal.Mul(a, b)), of(decimal.Div(a, b, 3)),
			of(decimal.Neg(a)), of(decimal.Rescale(a, b.Scale)), of(decimal.Parse(decimal.Print(b))),
			{Decimal{Units: n}, e}, {Decimal{Units: m}, f}, right(decimal.Compare(a, b), 0),
		}
	}
	r := rand.New(rand.NewSource(7))
	for range 1000 {
		a, b, c := wild(r), wild(r), wild(r)
		first := all(a, b)
		all(b, c)
		all(c, a)
		if !slices.Equal(first, all(a, b)) {
			t.Errorf("%v and %v answer otherwise the second time", a, b)
		}
	}
}
