package lexer_test

import (
	"math"
	"math/rand"
	"slices"
	"strings"
	"testing"

	"longstop/api"
	"longstop/lexer"
)

// told complains unless Split tells of s just these tokens; their places are
// told by where their texts stand.
func told(t *testing.T, s string, want ...Token) {
	t.Helper()
	got, e := lexer.Split(s)
	if e != api.OK || !slices.Equal(placeless(got), placeless(want)) {
		t.Errorf("Split of %s: %s and %d, not %s", short(s), short(got), e, short(want))
	}
	for _, in := range got {
		if !strings.HasPrefix(s[in.At:], in.Text) {
			t.Errorf("Split of %s: %q is not at %d", short(s), in.Text, in.At)
		}
	}
}

func TestP502Example(t *testing.T) {
	got := split(t, "a1<=2.5")
	want := []Token{at(0, name("a1")), at(2, sign("<=")), at(4, dec("2.5", 25, 1))}
	if !slices.Equal(got, want) {
		t.Error(got)
	}
}

func TestP502Statement(t *testing.T) {
	got := split(t, " select t.a,\n\t'it''s' from t;")
	want := []Token{
		at(1, name("select")), at(8, name("t")), at(9, sign(".")), at(10, name("a")), at(11, sign(",")),
		at(14, text("'it''s'", "it's")), at(22, name("from")), at(27, name("t")), at(28, sign(";")),
	}
	if !slices.Equal(got, want) {
		t.Error(got)
	}
}

func TestP502Nothing(t *testing.T) {
	for _, s := range []string{"", " ", "\t", "\n", " \t\n", "\n\n", strings.Repeat(" ", api.MaxSource), strings.Repeat("\n\t", api.MaxSource/2)} {
		told(t, s)
	}
}

func TestP502Sizes(t *testing.T) {
	const most = api.MaxSource
	told(t, strings.Repeat(" ", most-1)+"a", name("a"))
	told(t, "a"+strings.Repeat(" ", most-1), name("a"))
	told(t, strings.Repeat("(", most), slices.Repeat([]Token{sign("(")}, most)...)
	told(t, strings.Repeat("1.1.", most/4), slices.Repeat([]Token{dec("1.1", 11, 1), sign(".")}, most/4)...)
	for _, s := range []string{
		strings.Repeat(" ", most+1), strings.Repeat("(", most+1), strings.Repeat("a", most+1), strings.Repeat("'", most+1), strings.Repeat("?", most+1),
		strings.Repeat(" ", most) + "a", "a" + strings.Repeat(" ", most), "?" + strings.Repeat(" ", most), strings.Repeat("\xff", most+1), strings.Repeat("a ", 1<<20),
	} {
		refused(t, s, api.ErrSize)
	}
	for _, s := range []string{strings.Repeat("a", most), strings.Repeat("1", most), strings.Repeat("'", most-1), strings.Repeat("'", most), "'" + strings.Repeat("a", most-1)} {
		refused(t, s, api.ErrSyntax)
	}
	refused(t, strings.Repeat(" ", most-1)+"?", api.ErrSyntax)
}

func TestP502Words(t *testing.T) {
	long := strings.Repeat("n", api.MaxName)
	for _, s := range []string{"a", "z", "_", "__", "a1", "a_", "_1", "_0a", "null", "true", "select", "abcdefghijklmnopqrstuvwxyz_", "_0123456789", long, long[1:] + "9", "_" + long[1:]} {
		told(t, s, name(s))
		told(t, " "+s+"\n", name(s))
		told(t, s+","+s, name(s), sign(","), name(s))
		told(t, s+"\t"+s, name(s), name(s))
		told(t, s+"'"+s+"'"+s, name(s), quoted(s), name(s))
	}
	for _, s := range []string{long + "n", long + "1", long + "_", "_" + long, strings.Repeat("n", 2*api.MaxName), strings.Repeat("n", 256)} {
		refused(t, s, api.ErrSyntax)
		refused(t, "a "+s+" b", api.ErrSyntax)
	}
	told(t, long+" n", name(long), name("n"))
	told(t, long+"(", name(long), sign("("))
}

func TestP502Signs(t *testing.T) {
	for _, s := range allSigns {
		told(t, s, sign(s))
		told(t, "a"+s+"b", name("a"), sign(s), name("b"))
		told(t, s+" "+s, sign(s), sign(s))
		told(t, "'a'"+s+"'b'", quoted("a"), sign(s), quoted("b"))
		told(t, s+"1", sign(s), whole("1", 1))
	}
	for s, want := range map[string]string{
		"<>": "<>", "< >": "< >", "<=": "<=", "< =": "< =", ">=": ">=", "> =": "> =", "<\n>": "< >", "<\t=": "< =",
		"<<": "< <", ">>": "> >", "==": "= =", "=<": "= <", "=>": "= >", "><": "> <", "<<>": "< <>", "<<=": "< <=", "<>>": "<> >", "<>=": "<> =", "<=>": "<= >", "<==": "<= =",
		">==": ">= =", ">>=": "> >=", ">=<": ">= <", "><=": "> <=", "><>": "> <>", "=<>": "= <>", "=<=": "= <=", "=>=": "= >=", "<><>": "<> <>", "<=>=": "<= >=", "<>=>": "<> = >", "<": "<", ">": ">", "=": "=",
		"(),.;*+-/%=": "( ) , . ; * + - / % =", "--": "- -", "..": ". .", "...": ". . .", "/*": "/ *", "*/": "* /", "-=": "- =", "()": "( )", "<-": "< -", ">-": "> -", "<.": "< .",
	} {
		var l []Token
		for _, in := range strings.Fields(want) {
			l = append(l, sign(in))
		}
		told(t, s, l...)
	}
	told(t, "<1,2>", sign("<"), whole("1", 1), sign(","), whole("2", 2), sign(">"))
}

func TestP502Numbers(t *testing.T) {
	for _, l := range []Token{
		whole("0", 0), whole("1", 1), whole("9", 9), whole("10", 10), whole("1234567890", 1234567890), whole(great, math.MaxInt),
		dec("0.", 0, 0), dec("1.", 1, 0), dec("10.", 10, 0), dec(great+".", math.MaxInt, 0),
		dec("0.0", 0, 1), dec("0.000000", 0, 6), dec("2.5", 25, 1), dec("2.50", 250, 2), dec("2.05", 205, 2), dec("0.000001", 1, 6), dec("10.10", 1010, 2),
		dec("922337203685477580.7", math.MaxInt, 1), dec("9223372036854.775807", math.MaxInt, 6),
	} {
		told(t, l.Text, l)
		told(t, "\n"+l.Text+" ", l)
		told(t, "-"+l.Text+"+"+l.Text, sign("-"), l, sign("+"), l)
		told(t, l.Text+"a", l, name("a"))
		told(t, l.Text+"_", l, name("_"))
		told(t, l.Text+"'a'", l, quoted("a"))
		told(t, l.Text+" .", l, sign("."))
		told(t, "'a'"+l.Text, quoted("a"), l)
		told(t, "<"+l.Text+">", sign("<"), l, sign(">"))
	}
	nines := strings.Repeat("9", 100)
	for _, s := range []string{
		"00", "01", "000", "007", "010", "00.", "01.", "00.5", "01.5", "00.0", "0000001",
		"9223372036854775808", "9223372036854775808.", "922337203685477580.8", "9223372036854.775808", "9223372036854775807.0", "18446744073709551616", "18446744073709551617", nines, nines + ".", "1." + nines,
		"0.0000000", "1.1234567", "1.0000000", "0.00000000",
	} {
		refused(t, s, api.ErrSyntax)
		refused(t, "a + "+s+" b", api.ErrSyntax)
		refused(t, "-"+s, api.ErrSyntax)
		refused(t, s+".5", api.ErrSyntax)
	}
}

func TestP502Points(t *testing.T) {
	one, dot := dec("1.", 1, 0), sign(".")
	told(t, ".5", dot, whole("5", 5))
	told(t, "1.5", dec("1.5", 15, 1))
	told(t, "1.", one)
	told(t, "1..", one, dot)
	told(t, "1..2", one, dot, whole("2", 2))
	told(t, "1.2.", dec("1.2", 12, 1), dot)
	told(t, "1.2.3", dec("1.2", 12, 1), dot, whole("3", 3))
	told(t, "1.2.3.4", dec("1.2", 12, 1), dot, dec("3.4", 34, 1))
	told(t, "1...2", one, dot, dot, whole("2", 2))
	told(t, "..1", dot, dot, whole("1", 1))
	told(t, "1 .5", whole("1", 1), dot, whole("5", 5))
	told(t, "1. 5", one, whole("5", 5))
	told(t, "1 . 5", whole("1", 1), dot, whole("5", 5))
	told(t, "1.a", one, name("a"))
	told(t, "1.'a'", one, quoted("a"))
	told(t, "1.-5", one, sign("-"), whole("5", 5))
	told(t, "1.)", one, sign(")"))
	told(t, "a.5", name("a"), dot, whole("5", 5))
	told(t, "a.1.5", name("a"), dot, dec("1.5", 15, 1))
	told(t, "a.b", name("a"), dot, name("b"))
	told(t, "a.b.c", name("a"), dot, name("b"), dot, name("c"))
	told(t, ".", dot)
	told(t, ".0", dot, whole("0", 0))
	refused(t, ".00", api.ErrSyntax)
	refused(t, ".05", api.ErrSyntax)
	refused(t, "1..05", api.ErrSyntax)
	refused(t, "a.05", api.ErrSyntax)
}

func TestP502WordsAndNumbers(t *testing.T) {
	told(t, "1a", whole("1", 1), name("a"))
	told(t, "a1", name("a1"))
	told(t, "a 1", name("a"), whole("1", 1))
	told(t, "1e3", whole("1", 1), name("e3"))
	told(t, "0x1", whole("0", 0), name("x1"))
	told(t, "1_000", whole("1", 1), name("_000"))
	told(t, "1.5e3", dec("1.5", 15, 1), name("e3"))
	told(t, "a1.5", name("a1"), sign("."), whole("5", 5))
	told(t, "a1b2", name("a1b2"))
	told(t, "a01", name("a01"))
	told(t, "1a2", whole("1", 1), name("a2"))
	told(t, "a"+great+"9", name("a"+great+"9"))
	refused(t, "01a", api.ErrSyntax)
	refused(t, "1"+strings.Repeat("a", api.MaxName+1), api.ErrSyntax)
}

func TestP502Texts(t *testing.T) {
	most := api.MaxValue
	for _, in := range []string{
		"", "a", "it's", "'", "''", "'''", "'a'", "a''b", " ", " a ", "\n", "\t", "\r", "\x00", "1", "null", "a b", "A", "Z?", "\"", "\\", "\\'", "--", ";", "(", "<1,2>",
		"é", "日本", "\u0080", "\ufffd", "\U0010ffff", "é'é", "\x7f",
		strings.Repeat("a", most), strings.Repeat("'", most), strings.Repeat("é", most/2), strings.Repeat("\x00", most), strings.Repeat("a", most-1) + "'", "'" + strings.Repeat("a", most-1),
	} {
		l := quoted(in)
		told(t, l.Text, l)
		told(t, " "+l.Text+"\n", l)
		told(t, l.Text+" "+l.Text, l, l)
		told(t, l.Text+"\n"+l.Text+",", l, l, sign(","))
		told(t, "a"+l.Text+"1", name("a"), l, whole("1", 1))
	}
	told(t, "'a''b'", text("'a''b'", "a'b"))
	told(t, "'a' 'b'", quoted("a"), quoted("b"))
	told(t, "'a'\t'b'", quoted("a"), quoted("b"))
	told(t, "''''", text("''''", "'"))
	told(t, "'' ''", quoted(""), quoted(""))
	told(t, "''''''", text("''''''", "''"))
	told(t, "''a''", quoted(""), name("a"), quoted(""))
	told(t, "'a'b'c'", quoted("a"), name("b"), quoted("c"))
	told(t, "'a'''b'c'", quoted("a'"), name("b"), quoted("c"))
}

func TestP502WrongTexts(t *testing.T) {
	long := strings.Repeat("a", api.MaxValue+1)
	for _, s := range []string{
		"'", "'''", "'''''", "'a", "a'", "'a''", "''a'", "'a'b'", "'a''b", "'a' '", "'it's'", "' ", "'\n", "'''a''", "'\x00", "'a\"",
		"'" + long + "'", "'" + strings.Repeat("''", api.MaxValue+1) + "'", "'" + strings.Repeat("é", api.MaxValue/2) + "a'", "'" + long, "'a' '" + long + "'", "'" + strings.Repeat("a", api.MaxValue) + "'''",
		"'\xff'", "'a\x80'", "'\xc3'", "'\xc3''\xa9'", "'\xc0\x80'", "'\xed\xa0\x80'", "'\xf4\x90\x80\x80'", "'\xf0\x9f\x98'", "'a' '\xff'", "'\xff", "'é\xa9'",
	} {
		refused(t, s, api.ErrSyntax)
		refused(t, "a, "+s, api.ErrSyntax)
	}
}

// Every byte, alone, within a word, behind a number, and within quotes.
func TestP502AllBytes(t *testing.T) {
	right := "abcdefghijklmnopqrstuvwxyz_0123456789(),.;*+-/%=<> \t\n"
	for c := range 256 {
		s := string([]byte{byte(c)})
		for _, in := range []string{s, "a" + s, s + "a", "a " + s + " b", "1" + s, s + "1", "'a'" + s + " ", s + "<"} {
			if strings.Contains(right, s) {
				held(t, in)
			} else if s != "'" {
				refused(t, in, api.ErrSyntax)
			}
		}
		if c >= 128 {
			refused(t, "'"+s+"'", api.ErrSyntax)
		} else if s != "'" {
			told(t, "'"+s+"'", quoted(s))
		}
	}
}

func TestP502WrongBytes(t *testing.T) {
	for _, s := range []string{"?", "a?", "?a", "a ? b", "A", "aB", "Select", "1A", "!=", "a!", "\"a\"", "`a`", "[1]", "{", "}", "|", "||", "&", "^", "~", "#", "$1", "@a", "\\", ":", "\r", "a\r\n", "\r\n", " \r ", "\v", "\f", "\x00", "a\x00", "\x7f", "é", "aé", "日", "\xff", "\x80", "\u00a0", "a\u00a0b", "\u2028", "\ufeffa", "‘a’", "１"} {
		refused(t, s, api.ErrSyntax)
	}
}

func TestP502AsTheChapterSays(t *testing.T) {
	r := rand.New(rand.NewSource(1))
	all := pieces()
	right := 0
	for range 200000 {
		if l, e := held(t, wild(r, all)); e == api.OK && len(l) > 2 {
			right++
		}
	}
	if right < 20000 {
		t.Error("too few texts were right:", right)
	}
}

// Every short text of the bytes at which tokens begin, go on and end.
func TestP502AllShortTexts(t *testing.T) {
	var all func(s string, left int)
	all = func(s string, left int) {
		held(t, s)
		if left > 0 {
			for _, c := range []byte("01.a_'<>= -?\xc3\xa9") {
				all(s+string([]byte{c}), left-1)
			}
		}
	}
	all("", 5)
}

func TestP505AllOfIt(t *testing.T) {
	r := rand.New(rand.NewSource(2))
	all := pieces()
	for range 100000 {
		s := wild(r, all)
		l, e := lexer.Split(s)
		if e != api.OK {
			continue
		}
		end := 0
		for _, in := range append(l, Token{At: len(s)}) {
			if in.At < end || strings.Trim(s[end:in.At], " \t\n") != "" || !strings.HasPrefix(s[in.At:], in.Text) {
				t.Fatalf("Split of %s: %s", short(s), short(l))
			}
			end = in.At + len(in.Text)
		}
	}
}

func TestP505Places(t *testing.T) {
	l := split(t, " \n\ta\t\t1. 'x'  <>\n")
	want := []Token{at(3, name("a")), at(6, dec("1.", 1, 0)), at(9, quoted("x")), at(14, sign("<>"))}
	if !slices.Equal(l, want) {
		t.Error(l)
	}
}
