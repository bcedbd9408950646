package stmt_test

import (
	"fmt"
	"slices"
	"strings"

	"longstop/api"
	"longstop/expr"
	"longstop/lexer"
	"longstop/schema"
)

// chapter: the chapter's grammar as it stands there, but for the parts that have
// names of their own here, alternatives being lines, and [ ] a { } that comes
// once at most.
const chapter = `
STATEMENT create table NAME ( COLUMN {, COLUMN} [, primary key ( NAMES )] {, unique ( NAMES )} [, check ( EXPR )] )
STATEMENT drop table NAME
STATEMENT insert into NAME [( NAMES )] values ROW {, ROW}
STATEMENT update NAME set NAME = EXPR {, NAME = EXPR} [where EXPR]
STATEMENT delete from NAME [where EXPR]
STATEMENT CORE {union [all] CORE} [order by ORDER {, ORDER}] [limit INT]
STATEMENT begin
STATEMENT commit
STATEMENT rollback
COLUMN NAME TYPE [not null]
TYPE int
TYPE text
TYPE bool
TYPE point
TYPE dec ( INT )
NAMES NAME {, NAME}
ROW ( EXPR {, EXPR} )
ORDER EXPR [ASCENDING]
ORDER EXPR desc
ASCENDING asc
CORE select [distinct] SHOWN [from SOURCE {JOINED}] [where EXPR] [group by EXPR {, EXPR}] [having EXPR]
SHOWN *
SHOWN ITEM {, ITEM}
ITEM EXPR [as NAME]
SOURCE NAME [as NAME]
JOINED COMMA SOURCE
JOINED cross join SOURCE
JOINED [left] join SOURCE on EXPR
COMMA ,
`

// rewritten: what Print writes in the place of what stands there.
var rewritten = map[string][]string{"ASCENDING": nil, "COMMA": {"cross", "join"}}

// part: a word or sign, the name of a part, or parts that may come once or
// often.
type part struct {
	is    string
	in    []part
	often bool
}

var rules = rulesOf(chapter)

func rulesOf(s string) map[string][][]part {
	rules := map[string][][]part{}
	for _, line := range strings.Split(strings.TrimSpace(s), "\n") {
		name, rest, _ := strings.Cut(line, " ")
		for _, sign := range []string{"[", "]", "{", "}", ","} {
			rest = strings.ReplaceAll(rest, sign, " "+sign+" ")
		}
		parts, left := partsOf(strings.Fields(rest))
		if len(left) > 0 {
			panic(line)
		}
		rules[name] = append(rules[name], parts)
	}
	return rules
}

func partsOf(l []string) (out []part, left []string) {
	for len(l) > 0 {
		is := l[0]
		l = l[1:]
		switch is {
		case "]", "}":
			return out, l
		case "[", "{":
			var in []part
			in, l = partsOf(l)
			out = append(out, part{in: in, often: is == "{"})
		default:
			out = append(out, part{is: is})
		}
	}
	return out, nil
}

// way: one way to go through tokens up to a place, and the pieces that Print
// would write of that.
type way struct {
	to     int
	pieces []string
}

// walk goes every way through tokens that the chapter's grammar allows. An
// expression that has the literal tooDeep in it stands for one that is too deep.
type walk struct {
	list []Token
	deep bool // whether a way came to an expression that is too deep
}

const tooDeep = "'too deep'"

// all goes each of the ways on by these parts.
func (w *walk) all(ways []way, l []part) []way {
	for _, p := range l {
		var further []way
		for _, x := range ways {
			further = append(further, w.one(x, p)...)
		}
		ways = further
	}
	return ways
}

func (w *walk) one(x way, p part) []way {
	switch {
	case p.in != nil:
		return w.optional(x, p)
	case p.is == "EXPR":
		return w.expression(x)
	case p.is == strings.ToLower(p.is):
		if w.text(x.to) == p.is {
			return []way{x.on(1, p.is)}
		}
		return nil
	case p.is == "NAME" && w.isName(x.to), p.is == "INT" && w.isInt(x.to):
		return []way{x.on(1, w.text(x.to))}
	}
	var out []way
	for _, l := range rules[p.is] {
		for _, further := range w.all([]way{x}, l) {
			if pieces, ok := rewritten[p.is]; ok {
				further.pieces = append(slices.Clone(x.pieces), pieces...)
			}
			out = append(out, further)
		}
	}
	return out
}

func (w *walk) optional(x way, p part) []way {
	out := []way{x}
	from := out
	for {
		from = w.all(from, p.in)
		out = append(out, from...)
		if len(from) == 0 || !p.often {
			return out
		}
	}
}

func (w *walk) expression(x way) []way {
	nodes, size, e := expr.Read(w.list[x.to:])
	if e == api.ErrDeep || slices.ContainsFunc(nodes, func(n Node) bool { return n.Value.B == strings.Trim(tooDeep, "'") }) {
		w.deep = true
		return nil
	}
	if e != api.OK {
		return nil
	}
	return []way{x.on(size, expr.Print(nodes))}
}

func (x way) on(size int, piece string) way {
	return way{x.to + size, append(slices.Clone(x.pieces), piece)}
}

func (w *walk) text(at int) string {
	if at < len(w.list) {
		return w.list[at].Text
	}
	return ""
}

func (w *walk) isName(at int) bool {
	return at < len(w.list) && w.list[at].Kind == lexer.Name && !slices.Contains(strings.Fields(reserved), w.list[at].Text)
}

func (w *walk) isInt(at int) bool {
	return at < len(w.list) && w.list[at].Kind == lexer.Literal && w.list[at].Value.Kind == api.Int
}

// told gives what Parse must answer of tokens, and the text that Print must
// write of it.
func told(l []Token) (string, api.Errno) {
	w := walk{list: l}
	var whole []way
	for _, x := range w.one(way{}, part{is: "STATEMENT"}) {
		if x.to == len(l) {
			whole = append(whole, x)
		}
	}
	switch {
	case w.deep:
		return "", api.ErrDeep
	case len(whole) == 0:
		return "", api.ErrSyntax
	case len(whole) > 1:
		panic(fmt.Sprintf("two ways through %v", l))
	case whole[0].pieces[0] == "create" && !schema.Right(toldTable(whole[0].pieces)):
		return "", api.ErrName
	}
	return spaced(whole[0].pieces), api.OK
}

// toldTable gives the table of the pieces of a create; one that may not be, if
// there is a name that is no column's.
func toldTable(l []string) Table {
	t := Table{Name: l[2]}
	names := map[string]int{}
	for l = l[3:]; l[0] != ")"; {
		l = l[1:] // ( or a comma
		size := 1
		for depth := 0; depth > 0 || l[size] != "," && l[size] != ")"; size++ {
			switch l[size] {
			case "(":
				depth++
			case ")":
				depth--
			}
		}
		piece := l[:size]
		l = l[size:]
		switch piece[0] {
		case "primary":
			t.Key = placesIn(names, piece[3:])
		case "unique":
			t.Uniques = append(t.Uniques, placesIn(names, piece[2:]))
		case "check":
			t.Check = nodes(piece[2])
		default:
			names[piece[0]] = len(t.Columns)
			t.Columns = append(t.Columns, columnOf(piece))
		}
	}
	return t
}

func placesIn(names map[string]int, l []string) []int {
	var out []int
	for i := 0; i < len(l); i += 2 {
		place, ok := names[l[i]]
		if !ok {
			place = -1
		}
		out = append(out, place)
	}
	return out
}

func columnOf(l []string) Column {
	c := Column{Name: l[0], Kind: 1 + slices.Index([]string{"int", "dec", "text", "bool", "point"}, l[1]), Must: l[len(l)-1] == "null"}
	if c.Kind == api.Dec {
		c.Scale = split(l[3])[0].Value.N
	}
	return c
}

// spaced gives pieces as Print parts them.
func spaced(l []string) string {
	s := strings.Builder{}
	for i, piece := range l {
		if i > 0 && l[i-1] != "(" && piece != ")" && piece != "," {
			s.WriteByte(' ')
		}
		s.WriteString(piece)
	}
	return s.String()
}
