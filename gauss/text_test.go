package gauss_test

import (
	"math/rand"
	"strings"
	"testing"

	"longstop/api"
	"longstop/gauss"
)

func TestP303Texts(t *testing.T) {
	for s, p := range map[string]Point{
		"<0,0>":               {},
		"<1,-2>":              {X: 1, Y: -2},
		"<-10,20>":            {X: -10, Y: 20},
		"<100,0>":             {X: 100},
		"<0,-7>":              {Y: -7},
		"<1048576,-1048576>":  {X: most, Y: -most},
		"<-1048576,1048576>":  {X: -most, Y: most},
		"<-1048576,-1048576>": {X: -most, Y: -most},
		"<1048575,9>":         {X: most - 1, Y: 9},
	} {
		same(t, "Print", gauss.Print(p), s, p)
		same(t, "Parse", of(gauss.Parse(s)), answer{p: p}, s)
	}
}

func TestP303WrongTexts(t *testing.T) {
	many := strings.Repeat("9", 1<<16)
	none := strings.Repeat("0", 1<<16)
	for _, s := range []string{
		"", "<", ">", "<>", ",", "<,>", "<1>", "<1,>", "<,1>", "<-,1>", "<1,->", "<1,2,3>", "<1,,2>", "<1;2>", "<1 2>", "<12>",
		"1,2", "<1,2", "1,2>", "<<1,2>", "<1,2>>", "><1,2", ">1,2<", "<1,2<", ">1,2>", "<1<,2>", "<1,>2>", "<1,2>x", "x<1,2>", "<1,2><3,4>", "(1,2)", "[1,2]",
		"<01,2>", "<1,02>", "<00,1>", "<1,00>", "<-01,2>", "<1,-02>", "<-0,1>", "<1,-0>", "<-00,1>",
		"<+1,2>", "<1,+2>", "<+0,0>", "<--1,2>", "<-+1,2>", "<1-,2>",
		" <1,2>", "<1,2> ", "< 1,2>", "<1 ,2>", "<1, 2>", "<1,2 >", "<- 1,2>", "<1,2>\n", "<1,\t2>", "\x00<1,2>", "<1,2>\x00",
		"<1.0,2>", "<1e3,2>", "<0x1,2>", "<1_000,2>", "<a,b>", "<1,2i>", "<\u0661,2>", "<1,\uff12>", "<\xff,1>", "\xef\xbb\xbf<1,2>",
		"<1048577,0>", "<0,1048577>", "<-1048577,0>", "<0,-1048577>", "<2097152,0>", "<9999999,9999999>", "<10485760,1>",
		"<4294967296,0>", "<4294967297,1>", "<9223372036854775807,0>", "<0,-9223372036854775808>", "<9223372036854775808,0>",
		"<18446744073709551616,0>", "<18446744073709551617,1>", "<0,-18446744073709551617>",
		"<" + many + ",0>", "<0,-" + many + ">", "<" + none + ",0>", "<0," + none + "1>", many, "<" + many,
		strings.Repeat("<", 1<<16), strings.Repeat(",", 1<<16), strings.Repeat("<1,2>", 1<<12),
	} {
		same(t, "Parse", of(gauss.Parse(s)), fault(api.ErrForm), s[:min(len(s), 40)])
	}
}

func points() []Point {
	r := rand.New(rand.NewSource(6))
	all := some()
	for range 100000 {
		all = append(all, wild(r))
	}
	return all
}

func TestP306ThereAndBack(t *testing.T) {
	for _, p := range points() {
		s := gauss.Print(p)
		same(t, "Parse", of(gauss.Parse(s)), answer{p: p}, s)
	}
}

// Of any text Parse tells an error, or what is printed as the same.
func TestP306BackAndThere(t *testing.T) {
	const letters = "<>,-+ 0123456789"
	r := rand.New(rand.NewSource(7))
	right := 0
	for range 200000 {
		b := []byte(gauss.Print(wild(r)))
		switch i := r.Intn(len(b)); r.Intn(4) {
		case 0:
			b[i] = letters[r.Intn(len(letters))]
		case 1:
			b = append(b[:i], b[i+1:]...)
		case 2:
			b = append(b[:i], append([]byte{letters[r.Intn(len(letters))]}, b[i:]...)...)
		case 3:
			b[i] = byte(r.Intn(256))
		}
		p, e := gauss.Parse(string(b))
		if e != api.OK {
			same(t, "Parse", answer{p, e}, fault(api.ErrForm), string(b))
			continue
		}
		same(t, "Print", gauss.Print(p), string(b))
		right++
	}
	if right < 1000 {
		t.Errorf("only %d texts that say a point", right)
	}
}

func FuzzP306BackAndThere(f *testing.F) {
	f.Add("<1,-2>")
	f.Add("<-0,01>")
	f.Fuzz(func(t *testing.T, s string) {
		p, e := gauss.Parse(s)
		if e == api.OK {
			same(t, "Print", gauss.Print(p), s)
		} else {
			same(t, "Parse", answer{p, e}, fault(api.ErrForm), s)
		}
	})
}
