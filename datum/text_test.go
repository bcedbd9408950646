package datum_test

import (
	"math/rand"
	"strings"
	"testing"

	"longstop/api"
	"longstop/datum"
)

func TestP404Texts(t *testing.T) {
	for s, v := range map[string]Value{
		"null":                  null,
		"0":                     whole(0),
		"7":                     whole(7),
		"-2":                    whole(-2),
		"10":                    whole(10),
		"9223372036854775807":   whole(great),
		"-9223372036854775808":  whole(least),
		"0.":                    dec(0, 0),
		"5.":                    dec(5, 0),
		"-5.":                   dec(-5, 0),
		"10.":                   dec(10, 0),
		"0.0":                   dec(0, 1),
		"0.000000":              dec(0, 6),
		"2.50":                  dec(250, 2),
		"-2.50":                 dec(-250, 2),
		"0.000001":              dec(1, 6),
		"-0.000001":             dec(-1, 6),
		"9223372036854775807.":  dec(great, 0),
		"-9223372036854775808.": dec(least, 0),
		"-922337203685477580.8": dec(least, 1),
		"-9223372036854.775808": dec(least, 6),
		"9223372036854.775807":  dec(great, 6),
		"''":                    text(""),
		"'a'":                   text("a"),
		"'it''s'":               text("it's"),
		"''''":                  text("'"),
		"''''''":                text("''"),
		"'''a'''":               text("'a'"),
		"'a''''b'":              text("a''b"),
		"'null'":                text("null"),
		"'1'":                   text("1"),
		"' a\x00b\n\\n\"é日'":    text(" a\x00b\n\\n\"é日"),
		"true":                  truth(1),
		"false":                 truth(0),
		"<0,0>":                 point(0, 0),
		"<-1,2>":                point(-1, 2),
		"<1048576,-1048576>":    point(most, -most),
	} {
		same(t, "Print", datum.Print(v), s, v)
		same(t, "Parse", of(datum.Parse(s)), of(v, api.OK), s)
	}
}

func TestP404PrintOfWrongValues(t *testing.T) {
	for _, v := range wrong() {
		same(t, "Print", datum.Print(v), "", v)
	}
}

func TestP404WrongTexts(t *testing.T) {
	nines, nothing := strings.Repeat("9", 1<<16), strings.Repeat("0", 1<<16)
	for _, s := range []string{
		"", " ", "a", "NULL", "Null", "nul", "nulll", "null ", " null", "nil", "\x00", "\xff", "'null",
		"TRUE", "True", "FALSE", "tru", "truee", "true ", " true", "t", "f", "falsefalse", "truefalse", "unknown",
		"-", "+", "+1", "--1", "-+1", "- 1", "1 ", " 1", "01", "00", "-0", "-01", "-00", "1-", "1a", "a1", "0x1", "1e3", "1_000", "1,0", "\u0661", "\uff11", "1\n", "1\x00",
		".", "..", "-.", ".5", "-.5", "1..", "1...", "..1", "1.5.", "1.5..", "1.5.5", "1. ", "1 .", "1.a", "1.-5", "1.+5", "1e1.", "01.", "00.", "-0.", "-0.0", "-0.00", "-0.000000", "+1.", "+1.5", "01.5", "-01.5", "1. 5", "1.\x00", "1.\uff15",
		"1.0000000", "0.0000000", "1.1234567", "1." + nothing, "0." + nothing, "1." + nines,
		"9223372036854775808", "-9223372036854775809", "9223372036854775808.", "-9223372036854775809.", "922337203685477580.8", "-922337203685477580.9", "9223372036854.775808", "-9223372036854.775809",
		"18446744073709551616", "18446744073709551617.", "99999999999999999999", nines, "-" + nines, nines + ".", nothing, nothing + "1",
		"'", "'''", "'''''", "'a", "a'", "'a''", "''a'", "'a'b'", "'a'b", "a'b'", "'a' ", " 'a'", "''a", "''''a'", "'a'''b'", "''''''' ", "'a' 'b'", "'a','b'", "\"a\"", "`a`", "'a\"", "'it's'", "'it\\'s'", "’a’",
		"'\xff'", "'a\x80'", "'\xc3'", "'\xed\xa0\x80'", "'a'\xff", "\xff'a'",
		"'" + strings.Repeat("a", api.MaxValue+1) + "'", "'" + strings.Repeat("''", api.MaxValue+1) + "'", "'" + strings.Repeat("é", 128) + "a'", "'" + strings.Repeat("a", 1<<17) + "'",
		strings.Repeat("'", 1<<16), strings.Repeat("'", 1<<16+1), strings.Repeat("'", api.MaxValue+1), "'" + strings.Repeat("a", api.MaxValue),
		"<", ">", "<>", "<1>", "<1,>", "<,1>", "<1,2", "1,2>", "<<1,2>>", "<1,2> ", " <1,2>", "<1, 2>", "<01,2>", "<1,-0>", "<+1,2>", "<1.,2>", "<1.0,2>", "<1,2>.", "<1048577,0>", "<0,-1048577>", "<1,2,3>", "(1,2)", "<'1','2'>", "<" + nines + ",0>",
	} {
		same(t, "Parse", of(datum.Parse(s)), of(null, api.ErrForm), s)
	}
}

func TestP404TextsOfMaxValue(t *testing.T) {
	for _, s := range []string{"a", "'", "\x00"} {
		long := strings.Repeat(s, api.MaxValue)
		told := "'" + strings.ReplaceAll(long, "'", "''") + "'"
		same(t, "Print", datum.Print(text(long)), told)
		same(t, "Parse", of(datum.Parse(told)), of(text(long), api.OK))
		more := "'" + strings.ReplaceAll(long+s, "'", "''") + "'"
		same(t, "Print", datum.Print(text(long+s)), "")
		same(t, "Parse", of(datum.Parse(more)), of(null, api.ErrForm))
	}
}

func TestP407ParseOfPrint(t *testing.T) {
	seen := map[string]Value{}
	back := func(v Value) {
		s := datum.Print(v)
		if was, there := seen[s]; there && was != v {
			t.Fatalf("%q tells %v and %v", s, was, v)
		}
		seen[s] = v
		same(t, "Parse of Print", of(datum.Parse(s)), of(v, api.OK), v)
	}
	for _, v := range some() {
		back(v)
	}
	r := rand.New(rand.NewSource(50))
	for range 100000 {
		back(wild(r))
	}
}

// Whatever is told as a value is what Print writes.
func TestP407NothingElseIsAText(t *testing.T) {
	r := rand.New(rand.NewSource(51))
	told := 0
	for range 300000 {
		s := spoilt(r, datum.Print(wild(r)))
		v, e := datum.Parse(s)
		if e == api.OK {
			told++
			same(t, "Print of Parse", datum.Print(v), s, v)
		} else if e != api.ErrForm || v != null {
			t.Fatalf("Parse of %q: %v %d", s, v, e)
		}
	}
	if told == 0 {
		t.Error("no text was told at all")
	}
}

// Every short text of the letters that texts of values are made of.
func TestP407AllShortTexts(t *testing.T) {
	var all func(s string, left int)
	all = func(s string, left int) {
		if v, e := datum.Parse(s); e == api.OK && datum.Print(v) != s || e != api.OK && (e != api.ErrForm || v != null) {
			t.Fatalf("Parse of %q: %v %d", s, v, e)
		}
		if left > 0 {
			for _, c := range "0159.-+'a<,> " {
				all(s+string(c), left-1)
			}
		}
	}
	all("", 5)
}

func TestP401ParseAgain(t *testing.T) {
	for _, s := range []string{"'it''s'", "2.50", "'", "<1,2>", "null"} {
		a, e := datum.Parse(s)
		datum.Parse("'other'")
		b, f := datum.Parse(string([]byte(s)))
		if a != b || e != f {
			t.Errorf("%q: %v %d, then %v %d", s, a, e, b, f)
		}
	}
}
