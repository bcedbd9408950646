package expr_test

import (
	"math/rand"
	"slices"
	"strings"
	"testing"

	"longstop/api"
	"longstop/expr"
	"longstop/lexer"
)

var a, b, c = col("a"), col("b"), col("c")

func TestP603Units(t *testing.T) {
	for s, want := range map[string][]Node{
		"a": a, "_": col("_"), "t.a": colOf("t", "a"), "t . a": colOf("t", "a"), "a.a": colOf("a", "a"),
		"0": whole(0), "7": whole(7), "9223372036854775807": whole(great), "3.": dec(3, 0), "2.50": dec(250, 2), "0.000001": dec(1, 6),
		"''": text(""), "'a'": text("a"), "'it''s'": text("it's"), "'null'": text("null"), "'('": text("("),
		"null": null(), "true": truth(1), "false": truth(0),
		"f()": call("f"), "f ( )": call("f"), "f(a)": call("f", a), "f(a, b)": call("f", a, b), "f(a,b,c)": call("f", a, b, c), "f(1,2,3,4)": call("f", whole(1), whole(2), whole(3), whole(4)),
		"f(g(), h(a))": call("f", call("g"), call("h", a)), "f(a or b, not c)": call("f", two(expr.Or, a, b), one(expr.Not, c)), "f((a))": call("f", a),
		"f(t.a)": call("f", colOf("t", "a")), "f(null, true)": call("f", null(), truth(1)), "count()": call("count"), "f(-1)": call("f", neg(whole(1))),
		"(a)": a, "((a))": a, "(1)": whole(1), "(f())": call("f"), "(((null)))": null(), "(t.a)": colOf("t", "a"),
		"-a": neg(a), "- a": neg(a), "-1": neg(whole(1)), "- 2.5": neg(dec(25, 1)), "- - a": neg(neg(a)), "--a": neg(neg(a)), "---1": neg(neg(neg(whole(1)))),
		"-'a'": neg(text("a")), "-null": neg(null()), "-true": neg(truth(1)), "-f(a)": neg(call("f", a)), "-(a)": neg(a), "-t.a": neg(colOf("t", "a")), "(-a)": neg(a), "-(-(a))": neg(neg(a)),
		"-9223372036854775807": neg(whole(great)),
	} {
		parsed(t, s, want)
		parsed(t, "("+s+")", want)
		parsed(t, "-"+s, neg(want))
		parsed(t, "not "+s, one(expr.Not, want))
		parsed(t, "f("+s+")", call("f", want))
		parsed(t, "f(a, "+s+")", call("f", a, want))
		parsed(t, s+" + a", two(expr.Add, want, a))
		parsed(t, "a and "+s, two(expr.And, a, want))
		parsed(t, s+" is null", one(expr.IsNull, want))
	}
}

// The chapter's examples, and the shared tests' of another kind.
func TestP603Examples(t *testing.T) {
	parsed(t, "a + 2 * b", slices.Concat(a, whole(2), b, []Node{{Op: expr.Mul}, {Op: expr.Add}}))
	parsed(t, "t.a is not null", slices.Concat(colOf("t", "a"), []Node{{Op: expr.IsNull}, {Op: expr.Not}}))
	parsed(t, "f(a, 'x') <> g()", two(expr.Ne, call("f", a, text("x")), call("g")))
	parsed(t, "not a = 1 and b < 2 or c", two(expr.Or, two(expr.And, one(expr.Not, two(expr.Eq, a, whole(1))), two(expr.Lt, b, whole(2))), c))
}

func TestP603Signs(t *testing.T) {
	for op, s := range signs {
		want := two(op, a, b)
		parsed(t, "a "+s+" b", want)
		parsed(t, "(a "+s+" b)", want)
		parsed(t, "(a)\n"+s+"\t(b)", want)
		parsed(t, "f(a "+s+" b)", call("f", want))
		parsed(t, "1 "+s+" 2", two(op, whole(1), whole(2)))
		parsed(t, "null "+s+" 'x'", two(op, null(), text("x")))
		parsed(t, "a "+s+" -b", two(op, a, neg(b)))
		parsed(t, "-a "+s+" b", two(op, neg(a), b))
		parsed(t, "-(a "+s+" b)", neg(want))
		parsed(t, "not (a "+s+" b)", one(expr.Not, want))
		parsed(t, "a "+s+" (not b)", two(op, a, one(expr.Not, b)))
		parsed(t, "(a "+s+" b) is null", one(expr.IsNull, want))
	}
}

// Every op with every other beside it, on either side.
func TestP603Pairs(t *testing.T) {
	for first, s := range signs {
		for then, u := range signs {
			in := "a " + s + " b " + u + " c"
			left, right := two(then, two(first, a, b), c), two(first, a, two(then, b, c))
			switch {
			case rank(first) == rank(then) && rank(first) == rank(expr.Eq):
				read(t, in, u+" c", two(first, a, b))
				unparsed(t, in, api.ErrSyntax)
				refused(t, "("+in+")", api.ErrSyntax)
			case rank(first) >= rank(then):
				parsed(t, in, left)
			default:
				parsed(t, in, right)
			}
			parsed(t, "(a "+s+" b) "+u+" c", left)
			parsed(t, "a "+s+" (b "+u+" c)", right)
		}
	}
}

func TestP603NotBesideSigns(t *testing.T) {
	for op, s := range signs {
		ahead, behind := "not a "+s+" b", "a "+s+" not b"
		if rank(op) > rankNot {
			parsed(t, ahead, one(expr.Not, two(op, a, b)))
			parsed(t, "not "+ahead, one(expr.Not, one(expr.Not, two(op, a, b))))
			refused(t, behind, api.ErrSyntax)
			refused(t, "("+behind+")", api.ErrSyntax)
		} else {
			parsed(t, ahead, two(op, one(expr.Not, a), b))
			parsed(t, behind, two(op, a, one(expr.Not, b)))
			parsed(t, "not "+behind, two(op, one(expr.Not, a), one(expr.Not, b)))
		}
		parsed(t, "(not a) "+s+" b", two(op, one(expr.Not, a), b))
	}
	for _, s := range []string{"- not a", "-not a", "a + not b", "a + b * not c", "not", "not not", "a not", "not (", "a = not b", "a is not not null", "f(not)"} {
		unparsed(t, s, api.ErrSyntax)
	}
	parsed(t, "not - a", one(expr.Not, neg(a)))
	parsed(t, "not not a", one(expr.Not, one(expr.Not, a)))
	parsed(t, "not a is null", one(expr.Not, one(expr.IsNull, a)))
	parsed(t, "not a is not null", one(expr.Not, one(expr.Not, one(expr.IsNull, a))))
	parsed(t, "(not a) is null", one(expr.IsNull, one(expr.Not, a)))
	read(t, "a not null", "not null", a)
}

func TestP603IsNull(t *testing.T) {
	is := func(in []Node) []Node { return one(expr.IsNull, in) }
	isNot := func(in []Node) []Node { return one(expr.Not, is(in)) }
	for words, f := range map[string]func([]Node) []Node{" is null": is, " is not null": isNot} {
		parsed(t, "a"+words, f(a))
		parsed(t, "(a"+words+")", f(a))
		parsed(t, "null"+words, f(null()))
		parsed(t, "-a"+words, f(neg(a)))
		parsed(t, "(a"+words+")"+words, f(f(a)))
		parsed(t, "f(a"+words+", b"+words+")", call("f", f(a), f(b)))
		read(t, "a"+words+" is null", "is null", f(a))
		read(t, "a"+words+" is not null", "is not null", f(a))
		read(t, "a"+words+" null", "null", f(a))
		for op, s := range signs {
			in, behind := "a "+s+" b"+words, "a"+words+" "+s+" b"
			switch {
			case rank(op) == rankIs:
				read(t, in, words, two(op, a, b))
				read(t, behind, s+" b", f(a))
			case rank(op) > rankIs:
				parsed(t, in, f(two(op, a, b)))
				read(t, behind, s+" b", f(a))
			default:
				parsed(t, in, two(op, a, f(b)))
				parsed(t, behind, two(op, f(a), b))
			}
			parsed(t, "a "+s+" (b"+words+")", two(op, a, f(b)))
		}
	}
	for _, s := range []string{"a is", "a is not", "a is a", "a is 1", "a is true", "a is not true", "a is null null", "a is not not null", "a is (null)", "a is not (null)", "is null", "a is is null", "a is 'null'", "(a is)", "a is and b", "a is from"} {
		unparsed(t, s, api.ErrSyntax)
	}
}

// What is done from the left, and one sign alone behind a sum.
func TestP603FromTheLeft(t *testing.T) {
	for _, among := range []string{"or", "and", "+ -", "* / %"} {
		l := strings.Fields(among)
		for i := range 81 {
			in, want := "a", a
			for j := range 4 {
				s := l[(i/[]int{1, 3, 9, 27}[j])%len(l)]
				in, want = in+" "+s+" b", two(opOf(s), want, b)
			}
			parsed(t, in, want)
		}
	}
	read(t, "a = b = c", "= c", two(expr.Eq, a, b))
	read(t, "a < b + c >= a", ">= a", two(expr.Lt, a, two(expr.Add, b, c)))
	parsed(t, "a = b and b = c", two(expr.And, two(expr.Eq, a, b), two(expr.Eq, b, c)))
	parsed(t, "(a = b) = c", two(expr.Eq, two(expr.Eq, a, b), c))
	parsed(t, "a - b - c", two(expr.Sub, two(expr.Sub, a, b), c))
	parsed(t, "a - - b", two(expr.Sub, a, neg(b)))
	parsed(t, "a--b", two(expr.Sub, a, neg(b)))
	parsed(t, "- a * b", two(expr.Mul, neg(a), b))
	parsed(t, "a * - b - c", two(expr.Sub, two(expr.Mul, a, neg(b)), c))
	parsed(t, "a-1", two(expr.Sub, a, whole(1)))
	parsed(t, "1-1", two(expr.Sub, whole(1), whole(1)))
}

// What is left behind an expression does not belong to it.
func TestP603Left(t *testing.T) {
	for _, s := range []string{"a", "1", "null", "t.a", "f()", "(a)", "a + b", "a = b", "a is null", "not a", "-a", "a or b"} {
		want, e := expr.Parse(s)
		if e != api.OK {
			t.Fatal(s, e)
		}
		for _, left := range []string{"1", "'x'", "null", "true", "not", "not null", ")", ") + a", ",", ", a", ";", "from c", "as b", "asc", "desc", "select", "limit 1", "is_null", "x", "x + y", "like", "'('", "1.5"} {
			read(t, s+" "+left, left, want)
			unparsed(t, s+" "+left, api.ErrSyntax)
			if !strings.HasPrefix(left, ")") {
				refused(t, "("+s+" "+left+")", api.ErrSyntax)
			}
		}
	}
	read(t, "a.b.c", ".c", colOf("a", "b"))
	read(t, "a.b(c)", "(c)", colOf("a", "b"))
	read(t, "f(a)(b)", "(b)", call("f", a))
	read(t, "f(a).b", ".b", call("f", a))
	read(t, "(a)(b)", "(b)", a)
	read(t, "(a).b", ".b", a)
	read(t, "1 (a)", "(a)", whole(1))
	read(t, "1.5.a", ".a", dec(15, 1))
	read(t, "null.a", ".a", null())
	read(t, "true(a)", "(a)", truth(1))
	read(t, "'a'.b", ".b", text("a"))
	read(t, "a, b", ", b", a)
	read(t, "a + b from c", "from c", two(expr.Add, a, b))
}

// An expression is as long as it can be: what could go on must do so.
func TestP603MustGoOn(t *testing.T) {
	for _, s := range []string{"a", "1", "null", "(a)", "f()", "t.a", "a + b", "a and b", "not a"} {
		for _, sign := range signs {
			for _, left := range []string{"", ")", ",", "from", "select", ";", ".", "= a", "is null", "and b", "* b", "as"} {
				refused(t, s+" "+sign+" "+left, api.ErrSyntax)
			}
		}
	}
	for _, s := range []string{"a", "t", "select1"} {
		for _, left := range []string{".", ". 1", ".1", ". 'a'", ". )", ". from", ".null", ". (a)", ". .", ". t .", "(", "( ,", "( a", "( a ,", "( a b", "(a , )", "( , a )", "(a;", "(from)", "(*)"} {
			if left != ". t ." {
				refused(t, s+left, api.ErrSyntax)
			} else {
				read(t, s+left, ".", colOf(s, "t"))
			}
		}
	}
}

func TestP603WrongTexts(t *testing.T) {
	for _, s := range []string{
		"", " ", "\n\t", "+", "+ a", "+a", "* a", "/", "%", "= a", "<>", "a +", "a + + b", "a + * b", "a and", "and a", "or", "a or or b", "a and or b",
		"(", ")", "()", "(a", "a)", "(a))", "((a)", ")a(", "(a b)", "(a,b)", "(,)", "(())", "( ) a", "(a +)", "(a) b", "(not)", "(a or)",
		"f(", "f(a", "f(,)", "f(a,)", "f(,a)", "f(a,,b)", "f(a b)", "f(a;b)", "f(a,b", "f(a))", "f(1,2,3,4,5)", "f(1,2,3,4,)", "f(1,2,3,4 5)", "f(a,b,c,d,e,a)", "f(*)", "1(a)", "f(f(1,2,3,4,5))", "f(distinct a)",
		"t.", ".a", "t.1", "t.'a'", "t..a", "t.a.b", "1.a", "t.(a)", "t.-a", "t.a(", "t .", "..", ".",
		"-", "- -", "-)", "a -", "- + a", "-*a", "--", "- from",
		"a b", "1 2", "a 1", "'a' 'b'", "null null", "a;", ";", ",", "a,b", "a, ",
		"a = ", "a = = b", "a = b = c", "a == b", "a < > b", "a <> <> b", "a < b < c", "a =< b", "= b",
		"a is", "a is b", "not", "select a", "a from", "a in (b)", "a like 'b'", "a between b and c", "case a", "exists (select)",
	} {
		unparsed(t, s, api.ErrSyntax)
	}
	unread(t, nil, api.ErrSyntax)
	unread(t, []Token{}, api.ErrSyntax)
}

func TestP603Arguments(t *testing.T) {
	for n := range 4 {
		in := strings.TrimSuffix(strings.Repeat("a, ", n), ", ")
		parsed(t, "f("+in+")", call("f", slices.Repeat([][]Node{a}, n)...))
	}
	parsed(t, "f(a, a, a, a)", call("f", a, a, a, a))
	parsed(t, "f(a, g(b, b, b, b), a, h(c, c, c, c))", call("f", a, call("g", b, b, b, b), a, call("h", c, c, c, c)))
	refused(t, "f(a, a, a, a, a)", api.ErrSyntax)
	refused(t, "f(a, a, a, a, ", api.ErrSyntax)
	refused(t, "f(a, a, a, a a)", api.ErrSyntax)
	refused(t, "f("+strings.Repeat("a, ", 255)+"a)", api.ErrSyntax)
	refused(t, "f("+strings.Repeat("a, ", 259)+"a)", api.ErrSyntax)
}

func TestP603ReservedWords(t *testing.T) {
	for _, w := range reserved {
		if w != "null" && w != "true" && w != "false" {
			for _, s := range []string{w, w + ".a", w + "()", "(" + w + ")", "f(" + w + ")", "f(a, " + w + ")", "a + " + w, "a and " + w, "a = " + w, "- " + w, "not " + w} {
				refused(t, s, api.ErrSyntax)
			}
		}
		for _, s := range []string{"t." + w, "t." + w + " + a", "f(t." + w + ")", "(t." + w + ")"} {
			refused(t, s, api.ErrSyntax)
		}
		unparsed(t, w+" "+w, api.ErrSyntax)
		unparsed(t, w+".a", api.ErrSyntax)
		unparsed(t, w+"()", api.ErrSyntax)
		if w != "not" {
			unparsed(t, w+"(a)", api.ErrSyntax)
		}
		for _, like := range []string{w + "s", w + "_", "_" + w, w + "1", w + w, w[:len(w)-1] + "x"} {
			parsed(t, like, col(like))
			parsed(t, like+"."+like, colOf(like, like))
			parsed(t, like+"(a)", call(like, a))
		}
	}
}

// enclosing gives s within that many of each opening, and its end.
func enclosing(n int, open, s, end string) string {
	return strings.Repeat(open, n) + s + strings.Repeat(end, n)
}

func TestP603Depth(t *testing.T) {
	most := api.MaxDepth - 1
	plus := func(in []Node) []Node { return two(expr.Add, in, a) }
	parsed(t, strings.Repeat("- ", most)+"a", times(most, a, neg))
	refused(t, strings.Repeat("- ", most+1)+"a", api.ErrDeep)
	parsed(t, strings.Repeat("not ", most)+"a", times(most, a, func(in []Node) []Node { return one(expr.Not, in) }))
	refused(t, strings.Repeat("not ", most+1)+"a", api.ErrDeep)
	parsed(t, "a"+strings.Repeat(" + a", most), times(most, a, plus))
	refused(t, "a"+strings.Repeat(" + a", most+1), api.ErrDeep)
	parsed(t, enclosing(most, "a + (", "a", ")"), times(most, a, func(in []Node) []Node { return two(expr.Add, a, in) }))
	refused(t, enclosing(most+1, "a + (", "a", ")"), api.ErrDeep)
	parsed(t, enclosing(most, "f(", "a", ")"), times(most, a, func(in []Node) []Node { return call("f", in) }))
	refused(t, enclosing(most+1, "f(", "a", ")"), api.ErrDeep)
	parsed(t, enclosing(most+1, "f(", "", ")"), times(most, call("f"), func(in []Node) []Node { return call("f", in) }))
	refused(t, enclosing(most+2, "f(", "", ")"), api.ErrDeep)
	parsed(t, enclosing(most, "(", "a", " is null)"), times(most, a, func(in []Node) []Node { return one(expr.IsNull, in) }))
	refused(t, enclosing(most+1, "(", "a", " is null)"), api.ErrDeep)
	parsed(t, strings.Repeat("- ", most-2)+"a is not null", one(expr.Not, one(expr.IsNull, times(most-2, a, neg))))
	refused(t, strings.Repeat("- ", most-1)+"a is not null", api.ErrDeep)
	for _, deepest := range []string{"f(%, b)", "f(b, %)", "f(b, b, b, %)", "f(b, %, b)", "% = b", "b = %", "b and %", "% or b", "b * %"} {
		in := strings.ReplaceAll(deepest, "%", strings.Repeat("- ", most-1)+"a")
		if _, e := expr.Parse(in); e != api.OK {
			t.Error(in, e)
		}
		refused(t, strings.ReplaceAll(deepest, "%", strings.Repeat("- ", most)+"a"), api.ErrDeep)
	}
}

// tight gives the text of a row of signs, without blanks.
func tight(l []Node) string {
	in, _, _ := grown(l)
	return strings.ReplaceAll(in.text(), " ", "")
}

func TestP603Nodes(t *testing.T) {
	parsed(t, tight(full(255)), full(255))
	parsed(t, tight(full(256)), full(256))
	refused(t, tight(full(257)), api.ErrDeep)
	refused(t, tight(full(258)), api.ErrDeep)
	refused(t, tight(full(512)), api.ErrDeep)
	refused(t, tight(full(513)), api.ErrDeep)
	parsed(t, "f("+tight(full(255))+")", call("f", full(255)))
	refused(t, "f("+tight(full(256))+")", api.ErrDeep)
	parsed(t, tight(full(254))+" is not null", one(expr.Not, one(expr.IsNull, full(254))))
	refused(t, tight(full(255))+" is not null", api.ErrDeep)
	refused(t, tight(full(255))+" and a", api.ErrDeep)
	parsed(t, tight(full(254))+" and a", two(expr.And, full(254), a))
}

// Lists of tokens know no MaxSource.
func TestP603LongLists(t *testing.T) {
	l := split(t, "a"+strings.Repeat(" + a", 200))
	for len(l) < 200000 {
		l = slices.Concat(l, split(t, "-"), l)
	}
	unread(t, l, api.ErrDeep)
	unread(t, append(slices.Clone(l), split(t, "+")...), api.ErrSyntax)
	unread(t, append(slices.Clone(l), split(t, "= b b")...), api.ErrDeep)
	for _, s := range []string{"(", "-", "not", "f(", "a + (", "- (", "f(a, "} {
		unread(t, slices.Repeat(split(t, s), 100000), api.ErrDeep)
	}
	unread(t, slices.Repeat(split(t, "a +"), 100000), api.ErrSyntax)
	many := append(split(t, "a = b"), slices.Repeat(split(t, ") ,"), 100000)...)
	if nodes, size, e := expr.Read(many); size != 3 || e != api.OK || !slices.Equal(nodes, two(expr.Eq, a, b)) {
		t.Error(size, e)
	}
}

// Parentheses, nots and minus signs within one another: 64 and 65 deep.
func TestP603Open(t *testing.T) {
	parsed(t, enclosing(64, "(", "a", ")"), a)
	refused(t, enclosing(65, "(", "a", ")"), api.ErrDeep)
	parsed(t, enclosing(64, "(", "a + b", ")"), two(expr.Add, a, b))
	parsed(t, "f("+enclosing(63, "(", "a", ")")+")", call("f", a))
	parsed(t, enclosing(62, "(", "not f(a)", ")"), one(expr.Not, call("f", a)))
	parsed(t, enclosing(63, "(", "f(a, b)", ")"), call("f", a, b))
	parsed(t, enclosing(63, "(", "f()", ")"), call("f"))
	parsed(t, enclosing(62, "(", "- - a", ")"), neg(neg(a)))
	parsed(t, enclosing(59, "(", "not not (- - a)", ")"), one(expr.Not, one(expr.Not, neg(neg(a)))))
	refused(t, enclosing(60, "(", "not not (- - a)", ")"), api.ErrDeep)
	for _, in := range []string{"(a)", "-a", "not a", "f(a)", "f()", "b + -a", "b + (a)", "a = -b", "a and not b", "f(a, b)"} {
		refused(t, enclosing(64, "(", in, ")"), api.ErrDeep)
	}
	// Ones beside one another do not count together, nor what is no opening.
	side := enclosing(64, "(", "a", ")")
	parsed(t, side+" + "+side, two(expr.Add, a, a))
	parsed(t, side+" - "+side+" is not null", one(expr.Not, one(expr.IsNull, two(expr.Sub, a, a))))
	parsed(t, enclosing(64, "(", "a - b is not null and c - a = b", ")"), two(expr.And, one(expr.Not, one(expr.IsNull, two(expr.Sub, a, b))), two(expr.Eq, two(expr.Sub, c, a), b)))
	parsed(t, enclosing(63, "(", "-a - -b", ")"), two(expr.Sub, neg(a), neg(b)))
	parsed(t, enclosing(63, "(", "not a and not b or (c)", ")"), two(expr.Or, two(expr.And, one(expr.Not, a), one(expr.Not, b)), c))
	parsed(t, enclosing(63, "(", "f(a) = f(b)", ")"), two(expr.Eq, call("f", a), call("f", b)))
	parsed(t, strings.TrimSuffix(strings.Repeat("(a) * ", 15), " * "), times(14, a, func(in []Node) []Node { return two(expr.Mul, in, a) }))
}

// ErrDeep at once, whatever stands behind; what stands ahead was wrong sooner.
func TestP603DeepAtOnce(t *testing.T) {
	for _, open := range []string{
		strings.Repeat("(", 65), strings.Repeat("- ", 65), strings.Repeat("not ", 65), strings.Repeat("f(", 65), strings.Repeat("a + (", 65), strings.Repeat("f(a, ", 65), strings.Repeat("a = (", 65),
		strings.Repeat("- (", 32) + "-", strings.Repeat("not (", 32) + "(", strings.Repeat("not f(", 32) + "not ", strings.Repeat("not - (", 21) + "not -", strings.Repeat("not ", 64) + "-",
	} {
		for _, behind := range []string{"", "a", ")", "from", "+", "a b", "a)", ";", "(((", "t.1"} {
			in := open + behind
			refused(t, in, api.ErrDeep)
			refused(t, "a and ("+in, api.ErrDeep)
			unparsed(t, in+"?", api.ErrSyntax)
			read(t, "a b "+in, "b "+in, a)
			for _, ahead := range []string{"+ ", "a + * ", "t.1 + ", "(a b) + ", "f(a,) + ", "a is b and ", "f(1,2,3,4,", "select + "} {
				refused(t, ahead+in, api.ErrSyntax)
			}
		}
	}
	for _, open := range []string{strings.Repeat("(", 64), strings.Repeat("f(", 64), strings.Repeat("- (", 32), strings.Repeat("not (", 32)} {
		refused(t, open, api.ErrSyntax)
		refused(t, open+"a b)", api.ErrSyntax)
	}
	for _, open := range []string{strings.Repeat("- ", 64), strings.Repeat("not ", 64)} {
		refused(t, open, api.ErrSyntax)
		refused(t, open+"a b)", api.ErrDeep)
	}
	refused(t, strings.Repeat("- ", 64)+"not a", api.ErrSyntax)
	refused(t, strings.Repeat("- ", 65)+"not a", api.ErrDeep)
}

// Both a wrong and a too deep part: wrong counts first, in whichever order.
func TestP603WrongAndDeep(t *testing.T) {
	for _, deep := range []string{strings.Repeat("- ", 16) + "a", strings.Repeat("not ", 16) + "a", "a" + strings.Repeat(" + a", 16), enclosing(16, "f(", "a", ")"), tight(full(257))} {
		refused(t, deep, api.ErrDeep)
		refused(t, "("+deep+")", api.ErrDeep)
		refused(t, deep+" or a", api.ErrDeep)
		refused(t, deep+" b", api.ErrDeep)
		refused(t, deep+" from t", api.ErrDeep)
		refused(t, deep+")", api.ErrDeep)
		for _, wrong := range []string{"", ")", "from", "t.", "t.1", "(a", "f(a,)", "f(1,2,3,4,5)", "a is b", "a +"} {
			refused(t, "("+deep+") and "+wrong, api.ErrSyntax)
			refused(t, "f("+deep+","+wrong, api.ErrSyntax)
		}
		for _, wrong := range []string{"t.1 and ", "(a b) and ", "f(,) and ", "a is and ", "+", ") + "} {
			refused(t, wrong+"("+deep+")", api.ErrSyntax)
		}
		refused(t, "("+deep, api.ErrSyntax)
		refused(t, "("+deep+" b)", api.ErrSyntax)
	}
}

func TestP603Sizes(t *testing.T) {
	room := strings.Repeat(" ", api.MaxSource-1)
	parsed(t, "a"+room, a)
	parsed(t, room+"a", a)
	unparsed(t, "a "+room, api.ErrSize)
	unparsed(t, room+" a", api.ErrSize)
	unparsed(t, strings.Repeat("?", api.MaxSource+1), api.ErrSize)
	unparsed(t, strings.Repeat("(", api.MaxSource+1), api.ErrSize)
	unparsed(t, strings.Repeat("(", api.MaxSource), api.ErrDeep)
	unparsed(t, strings.Repeat(")", api.MaxSource), api.ErrSyntax)
	unparsed(t, strings.Repeat("a", api.MaxSource), api.ErrSyntax)
	unparsed(t, strings.Repeat("a", 1<<20), api.ErrSize)
	for _, s := range []string{"?", "a + ?", "'", "a 'b", "01", "a + 00", "A", "a or B", "n" + strings.Repeat("n", api.MaxName), "1.1234567", "'\xff'", "9223372036854775808", "- 9223372036854775808", "a ! b", "a || b", "\x00"} {
		unparsed(t, s, api.ErrSyntax)
	}
}

// Tokens that the lexer does not tell are none of the grammar: an expression
// ends ahead of one, and where one stands in a part's place that part is missing.
func TestP603WrongTokens(t *testing.T) {
	name := func(s string) Token { return Token{Kind: lexer.Name, Text: s} }
	sign := func(s string) Token { return Token{Kind: lexer.Sign, Text: s} }
	one := Token{Kind: lexer.Literal, Text: "1", Value: Value{Kind: api.Int, N: 1}}
	for _, wrong := range []Token{
		{}, {Kind: lexer.Name}, {Kind: lexer.Sign}, {Kind: lexer.Literal}, {Text: "a"}, {Text: "+"}, {Text: "1"}, {Kind: -1, Text: "a"}, {Kind: 4, Text: "a"}, {Kind: 1 << 32, Text: "("},
		{Kind: lexer.Literal, Text: "a"}, {Kind: lexer.Sign, Text: "a"}, {Kind: lexer.Sign, Text: "null"}, {Kind: lexer.Literal, Text: "null"}, {Kind: lexer.Literal, Text: "true", Value: Value{Kind: api.Bool, N: 1}}, {Kind: lexer.Sign, Text: "is"}, {Kind: lexer.Sign, Text: "or"}, {Kind: lexer.Sign, Text: "and"}, {Kind: lexer.Sign, Text: "not"},
		{Kind: lexer.Name, Text: "("}, {Kind: lexer.Name, Text: "+"}, {Kind: lexer.Name, Text: "-"}, {Kind: lexer.Literal, Text: "-"}, {Kind: lexer.Literal, Text: "="}, {Kind: lexer.Name, Text: "1"}, {Kind: lexer.Sign, Text: "1"}, {Kind: lexer.Name, Text: "."}, {Kind: lexer.Name, Text: ","},
		name("A"), name("1a"), name("a b"), name(" a"), name("a "), name("a.b"), name("a(b)"), name(strings.Repeat("n", api.MaxName+1)), name(strings.Repeat("a", 1<<20)), name("é"), name("a\x00"),
		sign("=="), sign("!="), sign("+ "), sign(" +"), sign("()"), sign("?"), sign("- "), sign("||"), sign("+ a"), sign("is null"),
		{Kind: lexer.Literal, Text: "1"}, {Kind: lexer.Literal, Text: "1", Value: Value{Kind: api.Int, N: 2}}, {Kind: lexer.Literal, Text: "-1", Value: Value{Kind: api.Int, N: -1}}, {Kind: lexer.Literal, Text: "01", Value: Value{Kind: api.Int, N: 1}}, {Kind: lexer.Literal, Text: "1", Value: Value{Kind: api.Dec, N: 1}}, {Kind: lexer.Literal, Text: "1.", Value: Value{Kind: api.Int, N: 1}},
		{Kind: lexer.Literal, Text: "<1,2>", Value: Value{Kind: api.Point, N: 1, M: 2}}, {Kind: lexer.Literal, Text: "'a'", Value: Value{Kind: api.Text, B: "b"}}, {Kind: lexer.Literal, Text: "'a", Value: Value{Kind: api.Text, B: "a"}}, {Kind: lexer.Literal, Text: "'\xff'", Value: Value{Kind: api.Text, B: "\xff"}}, {Kind: lexer.Literal, Text: "'a'", Value: Value{Kind: 9, B: "a"}},
		{Kind: lexer.Name, Text: "a", Value: Value{Kind: api.Int, N: 1}}, {Kind: lexer.Name, Text: "null", Value: Value{Kind: api.Int}}, {Kind: lexer.Sign, Text: "+", Value: Value{N: 1}}, {Kind: lexer.Sign, Text: "(", Value: Value{B: "("}}, {Kind: lexer.Name, Text: "is", Value: Value{M: 1}}, {Kind: lexer.Name, Text: "and", Value: Value{Kind: api.Null, N: 1}}, {Kind: lexer.Sign, Text: ")", Value: Value{Kind: 1}}, {Kind: lexer.Sign, Text: ".", Value: Value{Kind: 1}},
	} {
		if lexer.Right(wrong) {
			t.Fatalf("%+v is right", wrong)
		}
		for _, ahead := range []string{"", "a +", "a = ", "a and", "not", "-", "(", "f(", "f(a,", "t.", "a is", "a is not", "(a", "f(a", "f(a, b"} {
			unread(t, append(split(t, ahead), wrong), api.ErrSyntax)
			unread(t, append(split(t, ahead), wrong, name("b")), api.ErrSyntax)
			unread(t, append(split(t, ahead), wrong, one, sign(")")), api.ErrSyntax)
		}
		for _, in := range []string{"a", "1", "f()", "(a)", "t.a", "a + b", "a = b", "a is null", "not a"} {
			l := split(t, in)
			want, _ := expr.Parse(in)
			for _, behind := range [][]Token{{}, {name("b")}, {name("null")}, {sign(")")}, {wrong}} {
				nodes, size, e := expr.Read(slices.Concat(l, []Token{wrong}, behind))
				if e != api.OK || size != len(l) || !slices.Equal(nodes, want) {
					t.Errorf("Read of %s and %+v: %s, %d, %d", in, wrong, short(nodes), size, e)
				}
			}
		}
	}
}

// Where a token stands in a text is no matter to an expression.
func TestP603Places(t *testing.T) {
	l := split(t, "f(a, 1) + t.b is null")
	want, _, _ := expr.Read(l)
	for _, place := range []int{0, -1, 7, great} {
		for i := range l {
			l[i].At = place
		}
		if nodes, size, e := expr.Read(l); e != api.OK || size != len(l) || !slices.Equal(nodes, want) {
			t.Error(nodes, size, e)
		}
	}
}

// sameRead complains unless Read's answer is that one.
func sameRead(t *testing.T, l []Token, want []Node, size int, f api.Errno) {
	t.Helper()
	nodes, n, e := expr.Read(l)
	if e != f || n != size || !slices.Equal(nodes, want) {
		t.Fatalf("Read of %s: %s, %d, %d, not %s, %d, %d", short(texts(l)), short(nodes), n, e, short(want), size, f)
	}
}

// Every short list of these tokens: those that begin an expression are gone on
// with, and of all others a further token changes nothing.
func TestP603AllShortLists(t *testing.T) {
	t.Parallel()
	all := split(t, "a 1 null not is and or = + * - ( ) , . from")
	lists := 0
	var from func(l []Token, left int)
	from = func(l []Token, left int) {
		nodes, size, e := ended(l)
		sameRead(t, l, nodes, size, e)
		for _, in := range all {
			longer := append(slices.Clone(l), in)
			switch {
			case !begins(longer):
				sameRead(t, longer, nodes, size, e)
				sameRead(t, append(longer, all[0]), nodes, size, e)
			case left > 0:
				from(longer, left-1)
			}
			lists++
		}
	}
	from(nil, 5)
	if lists < 100000 {
		t.Error("too few lists:", lists)
	}
}

// Texts with as few parentheses as the grammar lets them have, and some more.
func TestP603Trees(t *testing.T) {
	t.Parallel()
	r := rand.New(rand.NewSource(1))
	of := leaves()
	right, deep := 0, 0
	for range 20000 {
		in := wild(r, 2+r.Intn(9), of)
		s := in.bare(r, 0)
		if len(s) > api.MaxSource {
			continue
		}
		if l := in.row(); len(l) > 256 {
			refused(t, s, api.ErrDeep)
			deep++
		} else {
			parsed(t, s, l)
			right++
		}
	}
	if right < 10000 || deep < 10 {
		t.Error("too few texts:", right, deep)
	}
}

// Texts of which a token or two are gone, are others, or stand twice.
func TestP603AsTheChapterSays(t *testing.T) {
	t.Parallel()
	r := rand.New(rand.NewSource(2))
	of := slices.Concat(a, b, colOf("t", "a"), whole(1), text("x"), null(), truth(1), call("f"))
	all := split(t, "a 1 'x' null true not is and or = < + - * / ( ) , . ; from")
	answers := map[api.Errno]int{}
	for range 6000 {
		in := wild(r, 2+r.Intn(3), of)
		l := split(t, in.bare(r, 0))
		if len(l) > 40 {
			continue
		}
		for range r.Intn(3) {
			i, other := r.Intn(len(l)+1), all[r.Intn(len(all))]
			switch r.Intn(3) {
			case 0:
				l = slices.Insert(l, i, other)
			case 1:
				l = slices.Concat(l[:i], l[min(i+1, len(l)):])
			default:
				l = slices.Concat(l[:i], []Token{other}, l[min(i+1, len(l)):])
			}
		}
		nodes, size, e := expected(l)
		sameRead(t, l, nodes, size, e)
		answers[e]++
	}
	if answers[api.OK] < 1000 || answers[api.ErrSyntax] < 1000 {
		t.Error("too few of one kind:", answers)
	}
}
