package decimal_test

import (
	"math/rand"
	"strings"
	"testing"

	"longstop/api"
	"longstop/decimal"
)

// texts: decimals and how they are written.
var texts = []struct {
	d Decimal
	s string
}{
	{Decimal{}, "0"},
	{Decimal{Scale: 1}, "0.0"},
	{Decimal{Scale: 6}, "0.000000"},
	{Decimal{Units: 7}, "7"},
	{Decimal{Units: -7}, "-7"},
	{Decimal{Units: 10}, "10"},
	{Decimal{Units: 10, Scale: 1}, "1.0"},
	{Decimal{Units: 10, Scale: 2}, "0.10"},
	{Decimal{Units: 10, Scale: 3}, "0.010"},
	{Decimal{Units: -5, Scale: 2}, "-0.05"},
	{Decimal{Units: -1, Scale: 6}, "-0.000001"},
	{Decimal{Units: 1000000, Scale: 6}, "1.000000"},
	{Decimal{Units: -123456789, Scale: 4}, "-12345.6789"},
	{Decimal{Units: most}, "9223372036854775807"},
	{Decimal{Units: most, Scale: 6}, "9223372036854.775807"},
	{Decimal{Units: most, Scale: 1}, "922337203685477580.7"},
	{Decimal{Units: least}, "-9223372036854775808"},
	{Decimal{Units: least, Scale: 6}, "-9223372036854.775808"},
}

func TestP203PrintAndParse(t *testing.T) {
	for _, c := range texts {
		if got := decimal.Print(c.d); got != c.s {
			t.Errorf("Print of %v: %q, not %q", c.d, got, c.s)
		}
		same(t, "Parse", of(decimal.Parse(c.s)), answer{d: c.d}, c.s)
	}
}

func TestP203PrintOfWrongOnes(t *testing.T) {
	for _, scale := range wrongScales {
		for _, units := range []int{0, 1, least, most} {
			if got := decimal.Print(Decimal{Units: units, Scale: scale}); got != "" {
				t.Errorf("Print of the scale %d: %q", scale, got)
			}
		}
	}
}

func TestP203NoTexts(t *testing.T) {
	for _, s := range []string{
		"", "-", ".", "-.", "+1", "--1", "- 1", " 1", "1 ", "1\n", "1\x00",
		"00", "01", "-01", "00.5", "-00.5", "01.5", "000000",
		"-0", "-0.0", "-0.00", "-0.000", "-0.0000", "-0.00000", "-0.000000",
		".5", "-.5", "1.", "-1.", "0.", "-0.", "1..5", "1.2.3", "1.-5", "1-", "1-2",
		"1.1234567", "0.0000000", "-0.0000000", "1.00000000000000000000000",
		"1x", "x", "1.x", "1.5x", "x.5", "1e3", "0x10", "1_000", "1,5", "/", ":", "1/", "1:", "1.5/",
		"\xff", "1\xff", "٣", "１", "NaN", "Inf", "-9x",
		// ErrForm is named ahead of ErrOver.
		"9223372036854775808x", "99999999999999999999x", "9223372036854775808.", "99999999999999999999.1234567",
		"099999999999999999999", "--99999999999999999999", "9223372036854.77580800",
	} {
		same(t, "Parse", of(decimal.Parse(s)), fault(api.ErrForm), s)
	}
}

func TestP203TextsOfTooMuch(t *testing.T) {
	long := strings.Repeat("9", 100000)
	for _, s := range []string{
		"9223372036854775808", "-9223372036854775809", "922337203685477580.8", "9223372036854.775808",
		"-9223372036854.775809", "18446744073709551615", "18446744073709551616", "-18446744073709551616",
		"18446744073709551617", "99999999999999999999", "184467440737095516160", "-184467440737095516160",
		"340282366920938463463374607431768211456", "-340282366920938463463374607431768211456",
		"1" + strings.Repeat("0", 64), "-1" + strings.Repeat("0", 64) + ".000000", long, "-" + long, long + ".000000",
	} {
		same(t, "Parse", of(decimal.Parse(s)), fault(api.ErrOver), s[:min(len(s), 50)])
	}
	same(t, "Parse", of(decimal.Parse(long+"x")), fault(api.ErrForm))
	same(t, "Parse", of(decimal.Parse("0"+long)), fault(api.ErrForm))
}

// Texts at random, of the signs that matter: each is refused, or its own text.
func TestP203OneTextEach(t *testing.T) {
	r := rand.New(rand.NewSource(4))
	const signs = "0001259.--x"
	taken := 0
	for range 300000 {
		b := make([]byte, r.Intn(10))
		for i := range b {
			b[i] = signs[r.Intn(len(signs))]
		}
		d, e := decimal.Parse(string(b))
		switch {
		case e == api.OK && decimal.Print(d) == string(b):
			taken++
		case e != api.ErrForm || d != (Decimal{}):
			t.Errorf("Parse of %q: %v %d", b, d, e)
		}
	}
	if taken < 1000 {
		t.Errorf("only %d texts were right", taken)
	}
}
