package eval_test

import (
	"math/rand"
	"strings"
	"testing"

	"longstop/api"
	"longstop/eval"
	"longstop/expr"
)

// binary complains unless the op of that sign comes to what the word tells.
func binary(t *testing.T, a Value, sign string, b Value, want answer) {
	t.Helper()
	same(t, "Binary "+sign, of(eval.Binary(ops[sign], a, b)), want, a, b)
}

// table: lines of a value, a sign, a value, a colon, and what that comes to.
func table(t *testing.T, lines string) {
	t.Helper()
	for line := range strings.Lines(lines) {
		w := strings.Fields(line)
		if len(w) == 0 {
			continue
		}
		if len(w) != 5 || ops[w[1]] == 0 || w[3] != ":" {
			t.Fatalf("a line that says nothing: %s", line)
		}
		binary(t, value(t, w[0]), w[1], value(t, w[2]), wanted(t, w[4]))
	}
}

func TestP702Examples(t *testing.T) {
	table(t, `
		1 / 3.0 : 0.333333
		null and false : false
	`)
}

func TestP702Ints(t *testing.T) {
	table(t, `
		2 + 3 : 5
		2 - 3 : -1
		-2 * 3 : -6
		7 / 2 : 3
		-7 / 2 : -3
		7 / -2 : -3
		-7 / -2 : 3
		1 / 2 : 0
		7 % 4 : 3
		-7 % 4 : -3
		7 % -4 : 3
		-7 % -4 : -3
		0 / 5 : 0
		0 % 5 : 0
	`)
}

func TestP702IntsAtTheirEnds(t *testing.T) {
	table(t, `
		9223372036854775807 + 0 : 9223372036854775807
		9223372036854775807 + 1 : over
		1 + 9223372036854775807 : over
		9223372036854775806 + 1 : 9223372036854775807
		9223372036854775807 + 9223372036854775807 : over
		9223372036854775807 + -9223372036854775808 : -1
		-9223372036854775808 + -1 : over
		-9223372036854775807 + -1 : -9223372036854775808
		-9223372036854775808 + -9223372036854775808 : over
		-9223372036854775808 - 1 : over
		-9223372036854775808 - 0 : -9223372036854775808
		-9223372036854775808 - -9223372036854775808 : 0
		0 - -9223372036854775808 : over
		-1 - -9223372036854775808 : 9223372036854775807
		9223372036854775807 - -1 : over
		9223372036854775807 - 9223372036854775807 : 0
		-9223372036854775807 - 1 : -9223372036854775808
		9223372036854775807 * 2 : over
		9223372036854775807 * 1 : 9223372036854775807
		9223372036854775807 * -1 : -9223372036854775807
		-9223372036854775808 * -1 : over
		-1 * -9223372036854775808 : over
		-9223372036854775808 * 1 : -9223372036854775808
		4611686018427387904 * 2 : over
		4611686018427387904 * -2 : -9223372036854775808
		3037000500 * 3037000500 : over
		3037000499 * 3037000499 : 9223372030926249001
		9223372036854775807 * 0 : 0
		-9223372036854775808 / -1 : over
		-9223372036854775808 / 1 : -9223372036854775808
		-9223372036854775808 / 2 : -4611686018427387904
		-9223372036854775807 / -1 : 9223372036854775807
		9223372036854775807 / -1 : -9223372036854775807
		-9223372036854775808 / -9223372036854775808 : 1
		9223372036854775807 / -9223372036854775808 : 0
		-9223372036854775808 / 9223372036854775807 : -1
		5 / -1 : -5
		0 / -1 : 0
		-9223372036854775808 % -1 : 0
		9223372036854775807 % -1 : 0
		5 % -1 : 0
		-9223372036854775808 % 9223372036854775807 : -1
		9223372036854775807 % -9223372036854775808 : 9223372036854775807
		1 / 0 : zero
		1 % 0 : zero
		0 / 0 : zero
		0 % 0 : zero
		-9223372036854775808 / 0 : zero
		-9223372036854775808 % 0 : zero
	`)
}

func TestP702Decimals(t *testing.T) {
	table(t, `
		1.5 + 2.25 : 3.75
		1.50 + 2.5 : 4.00
		1.5 - 2.25 : -0.75
		1.5 - 1.50 : 0.00
		1.5 * 2.25 : 3.375
		0.001 * 0.0005 : 0.000000
		0.001 * 0.0015 : 0.000002
		0.001 * 0.0025 : 0.000002
		-0.001 * 0.0015 : -0.000002
		0.000001 * 0.5 : 0.000000
		0.000003 * 0.5 : 0.000002
		2. * 3. : 6.
		1.0 / 3.0 : 0.333333
		2. / 3. : 0.666667
		-2. / 3. : -0.666667
		0.000001 / 2. : 0.000000
		0.000003 / 2. : 0.000002
		6. / 3. : 2.000000
		1. / 0. : zero
		0.00 / 0.000 : zero
		1.5 % 1. : type
		1.5 % 0. : type
		922337203685477580.7 + 0.1 : over
		922337203685477580.7 + 0.0 : 922337203685477580.7
		922337203685477580.7 + 0.00 : over
		-922337203685477580.8 - 0.1 : over
		-922337203685477580.8 - 0.0 : -922337203685477580.8
		922337203685477580.7 - -0.1 : over
		3037000500. * 3037000500. : over
		3037000499. * 3037000499. : 9223372030926249001.
		9223372036854.775807 / 1. : 9223372036854.775807
		9223372036854775807. / 1000000. : 9223372036854.775807
		9223372036854775807. / 100000. : over
		9223372036854775807. / 1. : over
		-9223372036854.775808 / -1. : over
	`)
}

// Where one of two is a Dec, both are reckoned with as decimals.
func TestP702IntsBesideDecimals(t *testing.T) {
	table(t, `
		1 + 2.5 : 3.5
		2.5 + 1 : 3.5
		1 + 2. : 3.
		1 - 2.50 : -1.50
		2.50 - 1 : 1.50
		2 * 2.5 : 5.0
		2.5 * 2 : 5.0
		2 * 2. : 4.
		7 / 2. : 3.500000
		7. / 2 : 3.500000
		1 / 3. : 0.333333
		1 / 0.00 : zero
		1.5 / 0 : zero
		7 % 2. : type
		7. % 2 : type
		7 % 0. : type
		7. % 0 : type
		9223372036854775807 + 1. : over
		9223372036854775807 + 0. : 9223372036854775807.
		9223372036854775807 + 0.0 : over
		9223372036854775807 * 1.0 : over
		9223372036854775807 / 1. : over
		9223372036854 / 1. : 9223372036854.000000
		9223372036855 / 1. : over
		-9223372036854775808 / -1. : over
		-9223372036854775808 * -1. : over
		0. - -9223372036854775808 : over
	`)
}

func TestP702Points(t *testing.T) {
	table(t, `
		<1,2> + <3,-1> : <4,1>
		<1,2> - <3,-1> : <-2,3>
		<1,2> * <3,-1> : <5,5>
		<30,30> / <2,5> : <7,-3>
		<30,30> % <2,5> : <1,1>
		<1,0> / <2,0> : <1,0>
		<-1,0> / <2,0> : <0,0>
		<1,0> % <2,0> : <-1,0>
		<1,0> / <0,0> : zero
		<1,0> % <0,0> : zero
		<0,0> / <0,0> : zero
		<0,0> % <0,0> : zero
		<1048576,0> + <0,1048576> : <1048576,1048576>
		<1048576,0> + <1,0> : over
		<0,1048576> + <0,1> : over
		<0,-1048576> - <0,1> : over
		<-1048576,-1048576> - <-1048576,-1048576> : <0,0>
		<1048576,1048576> * <1,0> : <1048576,1048576>
		<1048576,1048576> * <0,1> : <-1048576,1048576>
		<1048576,1048576> * <1,1> : over
		<1024,0> * <1024,0> : <1048576,0>
		<1024,0> * <1025,0> : over
		<1048576,1048576> * <1048576,-1048576> : over
		<1048576,-1048576> / <0,-1> : <1048576,1048576>
		<1048576,1048576> / <-1048576,1048576> : <0,-1>
		<1048576,1048576> % <-1048576,1048576> : <0,0>
		<1048576,1048576> % <1048576,0> : <0,0>
		<1048576,1048576> / <1048576,1048575> : <1,0>
		<1048576,1048576> % <1048576,1048575> : <0,1>
	`)
}

func TestP702Texts(t *testing.T) {
	table(t, `
		'a' + 'b' : 'ab'
		'b' + 'a' : 'ba'
		'' + '' : ''
		'a' + '' : 'a'
		'' + 'a' : 'a'
		'it''s' + '''' : 'it''s'''
		'a' - 'b' : type
		'a' * 'b' : type
		'a' / 'b' : type
		'a' % 'b' : type
		'a' - '' : type
	`)
	for n := range api.MaxValue + 1 {
		binary(t, textOf(n), "+", textOf(api.MaxValue-n), is(textOf(api.MaxValue)))
		if n > 0 {
			binary(t, textOf(n), "+", textOf(api.MaxValue+1-n), fails(api.ErrOver))
		}
	}
	binary(t, textOf(api.MaxValue), "+", textOf(api.MaxValue), fails(api.ErrOver))
	// Bytes are counted, not letters.
	binary(t, text(strings.Repeat("é", 64)), "+", text(strings.Repeat("é", 64)), is(text(strings.Repeat("é", 128))))
	binary(t, text(strings.Repeat("é", 64)), "+", text(strings.Repeat("é", 65)), fails(api.ErrOver))
}

// ordered complains unless the three comparisons that hold of a and b do, and
// no other, and likewise the other way round.
func ordered(t *testing.T, a, b Value, order int) {
	t.Helper()
	for sign, want := range map[string]bool{"=": order == 0, "<>": order != 0, "<": order < 0, "<=": order <= 0, ">": order > 0, ">=": order >= 0} {
		n := 0
		if want {
			n = 1
		}
		binary(t, a, sign, b, is(truth(n)))
	}
	if order < 0 {
		ordered(t, b, a, 1)
	}
}

// Numbers of unlike kinds and of unlike scales are compared by size alone.
func TestP702NumbersAsTheyAreInSize(t *testing.T) {
	rising := [][]Value{
		{whole(least), dec(least, 0)}, {whole(least + 1)}, {dec(least, 6)}, {whole(-2), dec(-2, 0), dec(-20, 1), dec(-2000000, 6)}, {dec(-15, 1)},
		{whole(0), dec(0, 0), dec(0, 3), dec(0, 6)}, {dec(1, 6)}, {dec(999999, 6)}, {whole(1), dec(1, 0), dec(10, 1), dec(1000000, 6)}, {dec(1000001, 6)}, {dec(25, 1), dec(250, 2)},
		{dec(great, 6)}, {whole(great / 1000000 * 1000), dec(great/1000000*1000, 0)}, {whole(great - 1)}, {whole(great), dec(great, 0)},
	}
	for i, l := range rising {
		for k, m := range rising {
			for _, a := range l {
				for _, b := range m {
					if i <= k {
						ordered(t, a, b, sign(i-k))
					}
				}
			}
		}
	}
}

func TestP702OthersInTheirOrder(t *testing.T) {
	for _, l := range [][]Value{
		{text(""), text("\x00"), text("A"), text("B"), text("a"), text("aB"), text("ab"), text("b"), text("é"), text("\U0010ffff")},
		{truth(0), truth(1)},
		{point(-most, -most), point(-most, most), point(-1, 5), point(0, -1), point(0, 0), point(0, 1), point(1, -9), point(1, most), point(most, -most), point(most, most)},
	} {
		for i, a := range l {
			for k, b := range l[i:] {
				ordered(t, a, b, -min(k, 1))
			}
		}
	}
}

func TestP702Truth(t *testing.T) {
	table(t, `
		true and true : true
		true and false : false
		false and true : false
		false and false : false
		true and null : null
		null and true : null
		false and null : false
		null and false : false
		null and null : null
		true or true : true
		true or false : true
		false or true : true
		false or false : false
		true or null : true
		null or true : true
		false or null : null
		null or false : null
		null or null : null
		false and 0 : type
		0 and false : type
		true or 1 : type
		1 or true : type
		null and 1 : type
		'a' or null : type
		<0,0> and <0,0> : type
		1. or 1. : type
		true + true : type
		true - false : type
		true * true : type
		true / true : type
		true % true : type
	`)
	for a, want := range map[Value]answer{truth(1): is(truth(0)), truth(0): is(truth(1)), null: is(null), whole(1): fails(api.ErrType), dec(0, 0): fails(api.ErrType), text("true"): fails(api.ErrType), point(0, 1): fails(api.ErrType)} {
		same(t, "Not", of(eval.Unary(expr.Not, a)), want, a)
	}
}

// Of all ops but And and Or a Null makes a Null, whatever stands beside it.
func TestP702Nulls(t *testing.T) {
	for sign, op := range ops {
		if op == expr.And || op == expr.Or {
			continue
		}
		for _, v := range append(few(), some()...) {
			binary(t, null, sign, v, is(null))
			binary(t, v, sign, null, is(null))
		}
	}
	same(t, "Neg", of(eval.Unary(expr.Neg, null)), is(null))
	for _, v := range some() {
		want := is(truth(0))
		if v.Kind == api.Null {
			want = is(truth(1))
		}
		same(t, "IsNull", of(eval.Unary(expr.IsNull, v)), want, v)
	}
}

func TestP702Neg(t *testing.T) {
	for in, want := range map[string]string{
		"5": "-5", "-5": "5", "0": "0", "9223372036854775807": "-9223372036854775807", "-9223372036854775807": "9223372036854775807", "-9223372036854775808": "over",
		"2.50": "-2.50", "-0.001": "0.001", "0.00": "0.00", "5.": "-5.", "-9223372036854775808.": "over", "-9223372036854.775808": "over", "-922337203685477580.7": "922337203685477580.7",
		"<1,-2>": "<-1,2>", "<0,0>": "<0,0>", "<1048576,-1048576>": "<-1048576,1048576>", "<-1048576,0>": "<1048576,0>",
		"'a'": "type", "''": "type", "true": "type", "false": "type",
	} {
		v := value(t, in)
		same(t, "Neg", of(eval.Unary(expr.Neg, v)), wanted(t, want), v)
	}
}

// Every kind beside every other one, of which the chapter names none.
func TestP702UnlikeKinds(t *testing.T) {
	for _, a := range some() {
		for _, b := range some() {
			if a == null || b == null || a.Kind == b.Kind || isNumber(a) && isNumber(b) {
				continue
			}
			for sign := range ops {
				binary(t, a, sign, b, fails(api.ErrType))
			}
		}
	}
}

func TestP702EveryOpAtEveryEdge(t *testing.T) {
	t.Parallel()
	all := some()
	for _, a := range all {
		for _, op := range unaries {
			same(t, "Unary", of(eval.Unary(op, a)), toldUnary(op, a), op, a)
		}
		for _, b := range all {
			for _, op := range binaries {
				same(t, "Binary", of(eval.Binary(op, a, b)), toldBinary(op, a, b), op, a, b)
			}
		}
	}
}

func TestP702OpsOfRandomValues(t *testing.T) {
	t.Parallel()
	r := rand.New(rand.NewSource(7))
	for range 100000 {
		a, b := wild(r), wild(r)
		switch r.Intn(4) {
		case 0:
			a, b = mild(r), mild(r)
		case 1:
			for b.Kind != a.Kind {
				b = wild(r)
			}
		}
		op := pick(r, binaries...)
		same(t, "Binary", of(eval.Binary(op, a, b)), toldBinary(op, a, b), op, a, b)
		op = pick(r, unaries...)
		same(t, "Unary", of(eval.Unary(op, a)), toldUnary(op, a), op, a)
	}
}

func TestP702WrongOps(t *testing.T) {
	for _, a := range few() {
		for _, op := range append(opless, binaries...) {
			same(t, "Unary", of(eval.Unary(op, a)), fails(api.ErrArg), op, a)
		}
		for _, b := range few() {
			for _, op := range append(opless, unaries...) {
				same(t, "Binary", of(eval.Binary(op, a, b)), fails(api.ErrArg), op, a, b)
			}
		}
	}
}

// A value that may not be is told ahead of all else: of kinds that do not fit, a
// division by 0, and a Null that would make a Null of it.
func TestP702WrongValues(t *testing.T) {
	for _, a := range wrong() {
		for _, op := range append(unaries, opless...) {
			same(t, "Unary", of(eval.Unary(op, a)), fails(api.ErrArg), op, a)
		}
		for _, b := range append(few(), wrong()...) {
			for _, op := range append(binaries, opless...) {
				same(t, "Binary", of(eval.Binary(op, a, b)), fails(api.ErrArg), op, a, b)
				same(t, "Binary", of(eval.Binary(op, b, a)), fails(api.ErrArg), op, b, a)
			}
		}
	}
}
