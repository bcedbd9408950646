package decimal_test

import (
	"math"
	"math/big"
	"math/rand"
	"testing"

	"longstop/api"
	"longstop/decimal"
)

type Decimal = decimal.Decimal

// answer holds what a call of two results gave, so that it can be compared.
type answer struct {
	d Decimal
	e api.Errno
}

func of(d Decimal, e api.Errno) answer { return answer{d, e} }

func right(units, scale int) answer { return answer{d: Decimal{Units: units, Scale: scale}} }

func fault(e api.Errno) answer { return answer{e: e} }

// edges: Units around every border that the reckoning has.
var edges = []int{
	0, 1, -1, 2, -2, 3, 5, -5, 9, 10, -10, 15, 25, -25, 35, 99, 100, 999999, 1000000, 1000001, -2500000,
	math.MaxInt, math.MaxInt - 1, math.MaxInt / 2, math.MaxInt/2 + 1, math.MaxInt / 10, math.MaxInt/10 + 1,
	math.MinInt, math.MinInt + 1, math.MinInt / 2, math.MinInt/2 - 1, math.MinInt / 10, math.MinInt/10 - 1,
	math.MaxInt / 1000000, math.MaxInt/1000000 + 1, math.MinInt / 1000000, math.MinInt/1000000 - 1,
	18446744073709, 18446744073710, -18446744073710, 1844674407370955162, 3037000499, 3037000500, -3037000500, 1 << 32,
}

// some gives right decimals: every edge at every Scale.
func some() []Decimal {
	var all []Decimal
	for _, units := range edges {
		for scale := 0; scale <= api.MaxScale; scale++ {
			all = append(all, Decimal{Units: units, Scale: scale})
		}
	}
	return all
}

// wild gives decimals of all sizes: as many of few bits as of many.
func wild(r *rand.Rand) Decimal {
	units := int(r.Uint64()) >> r.Intn(64)
	return Decimal{Units: units, Scale: r.Intn(api.MaxScale + 1)}
}

// pairs calls f with every two of some's, and with many wild ones.
func pairs(f func(a, b Decimal)) {
	all := some()
	for _, a := range all {
		for _, b := range all {
			f(a, b)
		}
	}
	r := rand.New(rand.NewSource(2))
	for range 100000 {
		f(wild(r), wild(r))
	}
}

func power(n int) *big.Int {
	return new(big.Int).Exp(big.NewInt(10), big.NewInt(int64(n)), nil)
}

func number(d Decimal) *big.Rat {
	return new(big.Rat).SetFrac(big.NewInt(int64(d.Units)), power(d.Scale))
}

// nearest tells what n rounded to scale is, by its definition: the floor and
// the one above it are held against n.
func nearest(n *big.Rat, scale int) answer {
	up := new(big.Rat).Mul(n, new(big.Rat).SetInt(power(scale)))
	floor := new(big.Int).Div(up.Num(), up.Denom())
	rest := new(big.Rat).Sub(up, new(big.Rat).SetInt(floor))
	near := rest.Cmp(big.NewRat(1, 2))
	if near > 0 || near == 0 && floor.Bit(0) == 1 {
		floor.Add(floor, big.NewInt(1))
	}
	if !floor.IsInt64() {
		return fault(api.ErrOver)
	}
	return right(int(floor.Int64()), scale)
}

func same(t *testing.T, what string, got, want answer, args ...any) {
	t.Helper()
	if got != want {
		t.Errorf("%s of %v: got %v, want %v", what, args, got, want)
	}
}
