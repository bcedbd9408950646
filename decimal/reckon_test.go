package decimal_test

import (
	"math"
	"math/big"
	"math/rand"
	"testing"

	"longstop/api"
	"longstop/decimal"
)

const (
	most  = math.MaxInt
	least = math.MinInt
)

// wrongScales: below 0, above MaxScale, and where sums of Scales wrap round.
var wrongScales = []int{-1, api.MaxScale + 1, -7, 12, 1 << 32, least, most}

func TestP201RightDecimals(t *testing.T) {
	for scale := -3; scale < 12; scale++ {
		for _, units := range edges {
			want := scale >= 0 && scale <= 6
			if decimal.Right(Decimal{Units: units, Scale: scale}) != want {
				t.Errorf("Right of %d of the scale %d is not %v", units, scale, want)
			}
		}
	}
	for _, scale := range wrongScales {
		if decimal.Right(Decimal{Units: 1, Scale: scale}) {
			t.Errorf("Right of the scale %d", scale)
		}
	}
}

func TestP201WrongDecimals(t *testing.T) {
	good := Decimal{Units: 15, Scale: 1}
	for _, scale := range wrongScales {
		// A Units of 0 and of -2^63 would be another error if the Scale were right.
		for _, units := range []int{0, 1, least} {
			bad := Decimal{Units: units, Scale: scale}
			for i, got := range []answer{
				of(decimal.Rescale(bad, 0)), of(decimal.Rescale(bad, api.MaxScale)),
				of(decimal.Add(bad, good)), of(decimal.Add(good, bad)), of(decimal.Add(bad, bad)),
				of(decimal.Sub(bad, good)), of(decimal.Sub(good, bad)), of(decimal.Sub(bad, bad)),
				of(decimal.Mul(bad, good)), of(decimal.Mul(good, bad)), of(decimal.Mul(bad, bad)),
				of(decimal.Div(bad, good, 2)), of(decimal.Div(good, bad, 2)), of(decimal.Div(bad, bad, 2)),
				of(decimal.Div(bad, Decimal{}, 2)), of(decimal.Neg(bad)),
			} {
				same(t, "call", got, fault(api.ErrArg), i, bad)
			}
		}
	}
}

func TestP201WrongScales(t *testing.T) {
	for _, scale := range wrongScales {
		same(t, "Rescale", of(decimal.Rescale(Decimal{}, scale)), fault(api.ErrArg), scale)
		same(t, "Rescale", of(decimal.Rescale(Decimal{Units: most}, scale)), fault(api.ErrArg), scale)
		same(t, "Div", of(decimal.Div(Decimal{Units: 1}, Decimal{Units: 3}, scale)), fault(api.ErrArg), scale)
		// ErrArg is named ahead of ErrZero.
		same(t, "Div", of(decimal.Div(Decimal{Units: 1}, Decimal{}, scale)), fault(api.ErrArg), scale)
	}
}

func TestP201JustFits(t *testing.T) {
	one, ten := Decimal{Units: 1}, Decimal{Units: 10}
	low, high := Decimal{Units: least}, Decimal{Units: most}
	for i, c := range []struct{ got, want answer }{
		{of(decimal.Rescale(high, 0)), right(most, 0)},
		{of(decimal.Rescale(low, 0)), right(least, 0)},
		{of(decimal.Rescale(high, 1)), fault(api.ErrOver)},
		{of(decimal.Rescale(low, 6)), fault(api.ErrOver)},
		{of(decimal.Rescale(Decimal{Units: most / 10}, 1)), right(most/10*10, 1)},
		{of(decimal.Rescale(Decimal{Units: least/10 - 1}, 1)), fault(api.ErrOver)},
		{of(decimal.Add(high, one)), fault(api.ErrOver)},
		{of(decimal.Add(Decimal{Units: most - 1}, one)), right(most, 0)},
		{of(decimal.Add(low, low)), fault(api.ErrOver)},
		{of(decimal.Add(high, low)), right(-1, 0)},
		{of(decimal.Sub(low, one)), fault(api.ErrOver)},
		{of(decimal.Sub(Decimal{Units: -1}, low)), right(most, 0)},
		{of(decimal.Sub(Decimal{}, low)), fault(api.ErrOver)},
		{of(decimal.Sub(low, low)), right(0, 0)},
		{of(decimal.Mul(low, one)), right(least, 0)},
		{of(decimal.Mul(low, Decimal{Units: -1})), fault(api.ErrOver)},
		{of(decimal.Mul(Decimal{Units: 1 << 62}, Decimal{Units: -2})), right(least, 0)},
		{of(decimal.Mul(Decimal{Units: 1 << 62}, Decimal{Units: 2})), fault(api.ErrOver)},
		{of(decimal.Mul(low, low)), fault(api.ErrOver)},
		{of(decimal.Div(low, Decimal{Units: -1}, 0)), fault(api.ErrOver)},
		{of(decimal.Div(low, one, 0)), right(least, 0)},
		{of(decimal.Div(high, ten, 1)), right(most, 1)},
		{of(decimal.Div(high, ten, 2)), fault(api.ErrOver)},
		{of(decimal.Neg(low)), fault(api.ErrOver)},
		{of(decimal.Neg(Decimal{Units: least, Scale: 6})), fault(api.ErrOver)},
		{of(decimal.Neg(high)), right(-most, 0)},
		{of(decimal.Neg(Decimal{Units: least + 1, Scale: 3})), right(most, 3)},
	} {
		same(t, "call", c.got, c.want, i)
	}
}

// A summand raised to the other's Scale passes 64 bits here, the sum does not.
func TestP201FitsThoughTheWayDoesNot(t *testing.T) {
	far := Decimal{Units: 9223372036855}
	for i, c := range []struct{ got, want answer }{
		{of(decimal.Add(far, Decimal{Units: least, Scale: 6})), right(9223372036855000000-1<<62-1<<62, 6)},
		{of(decimal.Sub(far, Decimal{Units: most, Scale: 6})), right(9223372036855000000-most, 6)},
		{of(decimal.Sub(Decimal{Units: most, Scale: 6}, far)), right(most-9223372036855000000, 6)},
		{of(decimal.Mul(Decimal{Units: most, Scale: 6}, Decimal{Units: 1000000, Scale: 6})), right(most, 6)},
		{of(decimal.Mul(Decimal{Units: least, Scale: 6}, Decimal{Units: 1000000, Scale: 6})), right(least, 6)},
		{of(decimal.Div(Decimal{Units: most}, Decimal{Units: most, Scale: 6}, 6)), right(1000000000000, 6)},
		{of(decimal.Div(Decimal{Units: least}, Decimal{Units: least, Scale: 6}, 6)), right(1000000000000, 6)},
		{of(decimal.Div(Decimal{Units: most, Scale: 6}, Decimal{Units: most}, 6)), right(1, 6)},
		{of(decimal.Div(Decimal{Units: most, Scale: 6}, Decimal{Units: most}, 0)), right(0, 0)},
		{of(decimal.Div(Decimal{Units: least, Scale: 6}, Decimal{Units: most}, 0)), right(0, 0)},
		// Rounded up this one is 2^64, whose lower 64 bits are 0.
		{of(decimal.Div(Decimal{Units: 7378697629649841343}, Decimal{Units: 400000000009, Scale: 6}, 6)), fault(api.ErrOver)},
		{of(decimal.Div(Decimal{Units: -7378697629649841343}, Decimal{Units: 400000000009, Scale: 6}, 6)), fault(api.ErrOver)},
		// The part's lower number lies between 2^63 and 2^64.
		{of(decimal.Div(Decimal{Units: least, Scale: 1}, Decimal{Units: 922337203685477581}, 0)), right(-1, 0)},
		{of(decimal.Div(Decimal{Units: most - 1, Scale: 1}, Decimal{Units: 1844674407370955161}, 0)), right(1, 0)},
		{of(decimal.Div(Decimal{Units: most - 2, Scale: 1}, Decimal{Units: 1844674407370955161}, 0)), right(0, 0)},
		{of(decimal.Div(Decimal{Units: least, Scale: 1}, Decimal{Units: 1844674407370955161}, 0)), right(-1, 0)},
		{of(decimal.Div(Decimal{Units: least, Scale: 1}, Decimal{Units: 1844674407370955162}, 0)), right(0, 0)},
	} {
		same(t, "call", c.got, c.want, i)
	}
}

func TestP202Examples(t *testing.T) {
	for i, c := range []struct{ got, want answer }{
		{of(decimal.Div(Decimal{Units: 1}, Decimal{Units: 3}, 2)), right(33, 2)},
		{of(decimal.Rescale(Decimal{Units: 25, Scale: 1}, 0)), right(2, 0)},
		{of(decimal.Add(Decimal{Units: 125, Scale: 2}, Decimal{Units: 5, Scale: 1})), right(175, 2)},
		{of(decimal.Sub(Decimal{Units: 125, Scale: 2}, Decimal{Units: 5, Scale: 1})), right(75, 2)},
		{of(decimal.Mul(Decimal{Units: 125, Scale: 2}, Decimal{Units: -5, Scale: 1})), right(-625, 3)},
		{of(decimal.Neg(Decimal{Units: 125, Scale: 2})), right(-125, 2)},
		{of(decimal.Neg(Decimal{Scale: 2})), right(0, 2)},
		{of(decimal.Div(Decimal{Units: 2}, Decimal{Units: -3}, 6)), right(-666667, 6)},
		{of(decimal.Div(Decimal{Units: -1, Scale: 6}, Decimal{Units: most}, 0)), right(0, 0)},
	} {
		same(t, "call", c.got, c.want, i)
	}
}

func TestP202HalvesGoToTheEvenOne(t *testing.T) {
	for units, want := range map[int]int{
		5: 0, 6: 1, 4: 0, 15: 2, 14: 1, 25: 2, 26: 3, 35: 4, 45: 4, 55: 6,
		-5: 0, -6: -1, -15: -2, -25: -2, -26: -3, -35: -4, -45: -4,
	} {
		same(t, "Rescale", of(decimal.Rescale(Decimal{Units: units, Scale: 1}, 0)), right(want, 0), units)
		same(t, "Rescale", of(decimal.Rescale(Decimal{Units: units * 100000, Scale: 6}, 0)), right(want, 0), units)
		same(t, "Mul", of(decimal.Mul(Decimal{Units: units, Scale: 1}, Decimal{Units: 1, Scale: 6})), right(want, 6), units)
		same(t, "Div", of(decimal.Div(Decimal{Units: units, Scale: 6}, Decimal{Units: 10}, 6)), right(want, 6), units)
		same(t, "Div", of(decimal.Div(Decimal{Units: units, Scale: 6}, Decimal{Units: -10}, 6)), right(-want, 6), units)
	}
	// A hair beside the half counts.
	same(t, "Rescale", of(decimal.Rescale(Decimal{Units: 2500001, Scale: 6}, 0)), right(3, 0))
	same(t, "Rescale", of(decimal.Rescale(Decimal{Units: -2500001, Scale: 6}, 0)), right(-3, 0))
	same(t, "Rescale", of(decimal.Rescale(Decimal{Units: 3499999, Scale: 6}, 0)), right(3, 0))
}

func TestP202RescaleIsTheNearest(t *testing.T) {
	for _, d := range some() {
		for scale := 0; scale <= api.MaxScale; scale++ {
			same(t, "Rescale", of(decimal.Rescale(d, scale)), nearest(number(d), scale), d, scale)
		}
	}
}

func TestP202SumsAndProducts(t *testing.T) {
	pairs(func(a, b Decimal) {
		x, y := number(a), number(b)
		scale := max(a.Scale, b.Scale)
		same(t, "Add", of(decimal.Add(a, b)), nearest(new(big.Rat).Add(x, y), scale), a, b)
		same(t, "Sub", of(decimal.Sub(a, b)), nearest(new(big.Rat).Sub(x, y), scale), a, b)
		scale = min(a.Scale+b.Scale, api.MaxScale)
		same(t, "Mul", of(decimal.Mul(a, b)), nearest(new(big.Rat).Mul(x, y), scale), a, b)
	})
}

func TestP202Parts(t *testing.T) {
	r := rand.New(rand.NewSource(3))
	pairs(func(a, b Decimal) {
		scale := r.Intn(api.MaxScale + 1)
		want := fault(api.ErrZero)
		if b.Units != 0 {
			want = nearest(new(big.Rat).Quo(number(a), number(b)), scale)
		}
		same(t, "Div", of(decimal.Div(a, b, scale)), want, a, b, scale)
	})
}

func TestP202Opposites(t *testing.T) {
	for _, d := range some() {
		same(t, "Neg", of(decimal.Neg(d)), nearest(new(big.Rat).Neg(number(d)), d.Scale), d)
	}
}

func TestP202Compare(t *testing.T) {
	pairs(func(a, b Decimal) {
		if got, want := decimal.Compare(a, b), number(a).Cmp(number(b)); got != want {
			t.Errorf("Compare of %v and %v: %d, not %d", a, b, got, want)
		}
	})
	for _, scale := range wrongScales {
		bad, good := Decimal{Units: 7, Scale: scale}, Decimal{Units: 3, Scale: 6}
		if decimal.Compare(bad, good) != 0 || decimal.Compare(good, bad) != 0 || decimal.Compare(bad, bad) != 0 {
			t.Errorf("Compare of a Scale of %d", scale)
		}
	}
}

func TestP202Ints(t *testing.T) {
	check := func(what string, n int, e api.Errno, want *big.Int, a, b int) {
		t.Helper()
		if !want.IsInt64() {
			same(t, what, answer{Decimal{Units: n}, e}, fault(api.ErrOver), a, b)
			return
		}
		same(t, what, answer{Decimal{Units: n}, e}, right(int(want.Int64()), 0), a, b)
	}
	pairs(func(x, y Decimal) {
		a, b := x.Units, y.Units
		wideA, wideB := big.NewInt(int64(a)), big.NewInt(int64(b))
		n, e := decimal.AddInt(a, b)
		check("AddInt", n, e, new(big.Int).Add(wideA, wideB), a, b)
		n, e = decimal.MulInt(a, b)
		check("MulInt", n, e, new(big.Int).Mul(wideA, wideB), a, b)
	})
}
