package schema_test

import (
	"encoding/binary"
	"fmt"
	"math/big"
	"math/rand"
	"regexp"
	"slices"
	"strings"

	"longstop/api"
	"longstop/datum"
	"longstop/eval"
	"longstop/expr"
)

// The chapter told a second time, by other means.

var word = regexp.MustCompile(`\A[a-z_][a-z0-9_]{0,31}\z`)

func toldName(s string) bool {
	return word.MatchString(s) && !slices.Contains(strings.Fields(reserved), s)
}

func toldRight(t Table) bool {
	places := map[string]int{}
	for i, c := range t.Columns {
		if _, there := places[c.Name]; there || !toldName(c.Name) {
			return false
		}
		places[c.Name] = i
		switch c.Kind {
		case api.Dec:
			if c.Scale < 0 || c.Scale > 6 {
				return false
			}
		case api.Int, api.Text, api.Bool, api.Point:
			if c.Scale != 0 {
				return false
			}
		default:
			return false
		}
	}
	if !toldName(t.Name) || len(places) < 1 || len(places) > 16 || len(t.Uniques) > 4 || !toldPlaces(t.Key, len(places)) {
		return false
	}
	for _, u := range t.Uniques {
		if len(u) == 0 || !toldPlaces(u, len(places)) {
			return false
		}
	}
	for _, n := range t.Check {
		if _, there := places[n.Name]; n.Op == expr.Column && (!there || n.Table != "" && n.Table != t.Name) {
			return false
		}
	}
	return len(t.Check) == 0 || expr.Right(t.Check)
}

func toldPlaces(l []int, columns int) bool {
	sorted := slices.Sorted(slices.Values(l))
	once := len(slices.Compact(slices.Clone(sorted))) == len(l)
	return once && (len(l) == 0 || sorted[0] >= 0 && sorted[len(l)-1] < columns)
}

// toldFit is of tables that may be.
func toldFit(t Table, given []Value) ([]Value, api.Errno) {
	if len(given) != len(t.Columns) || !datum.Row(given...) {
		return nil, api.ErrArg
	}
	var made []Value
	scope := eval.Scope{}
	for i, c := range t.Columns {
		v := given[i]
		number := v.Kind == api.Int || v.Kind == api.Dec
		if v == null && (c.Must || slices.Index(t.Key, i) >= 0) {
			return nil, api.ErrNull
		}
		if v != null && c.Kind == api.Dec && number {
			units := roundedTo(v, c.Scale)
			if !units.IsInt64() {
				return nil, api.ErrOver
			}
			v = dec(int(units.Int64()), c.Scale)
		}
		if v != null && v.Kind != c.Kind {
			return nil, api.ErrType
		}
		made = append(made, v)
		scope.Tables, scope.Names = append(scope.Tables, t.Name), append(scope.Names, c.Name)
	}
	if len(t.Check) == 0 {
		return made, api.OK
	}
	switch v, e := eval.Eval(t.Check, scope, made); {
	case e != api.OK:
		return nil, e
	case v != null && v.Kind != api.Bool:
		return nil, api.ErrType
	case v == truth(0):
		return nil, api.ErrCheck
	}
	return made, api.OK
}

// roundedTo gives a number's units at that scale, of two as near the even one.
func roundedTo(v Value, scale int) *big.Int {
	tenTo := func(n int) *big.Int { return new(big.Int).Exp(big.NewInt(10), big.NewInt(int64(n)), nil) }
	raised := new(big.Int).Mul(big.NewInt(int64(v.N)), tenTo(scale))
	by := tenTo(v.M)
	units, left := new(big.Int).DivMod(raised, by, new(big.Int))
	switch left.Lsh(left, 1).Cmp(by) {
	case 1:
		units.Add(units, big.NewInt(1))
	case 0:
		units.Add(units, big.NewInt(int64(units.Bit(0))))
	}
	return units
}

// toldKeys is of rows that Fit made.
func toldKeys(t Table, made []Value) []string {
	var keys []string
	for _, places := range slices.Concat([][]int{t.Key}, t.Uniques) {
		var l []Value
		for _, p := range places {
			l = append(l, made[p])
		}
		key, _ := datum.Key(l...)
		if len(l) == 0 || slices.Contains(l, null) {
			key = ""
		}
		keys = append(keys, key)
	}
	return keys
}

// toldBytes writes whatever it is given, also what is no table's: numbers as
// ints, texts as strings.
func toldBytes(l ...any) []byte {
	var b []byte
	for _, x := range l {
		switch x := x.(type) {
		case int:
			b = binary.AppendVarint(b, int64(x))
		case bool:
			b = append(b, map[bool]byte{true: 2}[x])
		case string:
			b = append(binary.AppendVarint(b, int64(len(x))), x...)
		case []int:
			b = binary.AppendVarint(b, int64(len(x)))
			for _, n := range x {
				b = binary.AppendVarint(b, int64(n))
			}
		case Column:
			b = append(b, toldBytes(x.Name, x.Kind, x.Scale, x.Must)...)
		case Table:
			b = append(b, toldBytes(x.Name, len(x.Columns))...)
			for _, c := range x.Columns {
				b = append(b, toldBytes(c)...)
			}
			b = append(b, toldBytes(x.Key, len(x.Uniques))...)
			for _, u := range x.Uniques {
				b = append(b, toldBytes(u)...)
			}
			b = append(b, toldBytes(expr.Print(x.Check))...)
		default:
			panic("toldBytes of something else")
		}
	}
	return b
}

// wildTable gives a table that may be.
func wildTable(r *rand.Rand) Table {
	t := Table{Name: pick(r, "t", "u", "a", "i0"), Columns: make([]Column, 1+r.Intn(pick(r, 3, 6, api.MaxColumns)))}
	for i, n := range r.Perm(20)[:len(t.Columns)] {
		c := Column{Name: fmt.Sprintf("%c%d", 'a'+r.Intn(3), n), Kind: 1 + r.Intn(5), Must: r.Intn(4) == 0}
		if c.Kind == api.Dec {
			c.Scale = r.Intn(api.MaxScale + 1)
		}
		t.Columns[i] = c
	}
	places := func(fewest int) []int {
		l := r.Perm(len(t.Columns))
		return l[:min(len(l), fewest+r.Intn(3))]
	}
	if r.Intn(3) > 0 {
		t.Key = places(0)
	}
	for range r.Intn(5) {
		t.Uniques = append(t.Uniques, places(1))
	}
	if r.Intn(3) > 0 {
		check := wildCheck(r, t)
		for r.Intn(4) == 0 && len(check) < 100 {
			check += pick(r, " or ", " and ") + wildCheck(r, t)
		}
		t.Check = nodes(check)
	}
	return t
}

// wildCheck gives a Check's text, that mostly is a Bool, and mostly true.
func wildCheck(r *rand.Rand, t Table) string {
	c := pick(r, t.Columns...)
	name := pick(r, "", t.Name+".") + c.Name
	if r.Intn(6) == 0 {
		return pick(r, "true", "null", "false", "7", "'a'", "1 / 0 = 1", "foo()", name, name+" = 'a'", name+" > 0", "1.5", "length("+name+") > 0")
	}
	switch c.Kind {
	case api.Int:
		return name + pick(r, " > 0", " <> 0", " + 1 > 0", " / "+name+" = 1", " is null", " >= -5")
	case api.Dec:
		return name + pick(r, " > 0", " <> 0.5", " / 2 > 0.25", " is not null", " = 2.2", " = round("+name+", 1)")
	case api.Text:
		return name + pick(r, " <> ''", " is not null", " = 'a'", " + "+name+" <> 'aa'", " >= ''")
	case api.Bool:
		return pick(r, name, "not "+name, name+" = true", name+" is null")
	}
	return pick(r, "px("+name+") > 0", "norm("+name+") < 100", name+" = "+name, name+" is null")
}

var (
	all      = someValues()
	allNames = append(nameless(), nameable()...)
)

// wildRow gives a row for t, that mostly fits.
func wildRow(r *rand.Rand, t Table) []Value {
	l := make([]Value, len(t.Columns))
	for i, c := range t.Columns {
		l[i] = pick(r, all...)
		for l[i].Kind != c.Kind && !(c.Kind == api.Dec && l[i].Kind == api.Int) {
			l[i] = pick(r, all...)
		}
		// Small numbers, so that few are ErrOver.
		if (l[i].Kind == api.Int || l[i].Kind == api.Dec) && r.Intn(20) > 0 {
			l[i].N %= 1000
		}
		if l[i].Kind == api.Point && r.Intn(4) > 0 {
			l[i].N, l[i].M = r.Intn(5), r.Intn(5)
		}
		switch r.Intn(40) {
		case 0, 1, 2:
			l[i] = null
		case 3:
			l[i] = pick(r, all...)
		}
	}
	switch r.Intn(60) {
	case 0:
		return append(l, pick(r, all...))
	case 1:
		return l[:len(l)-1]
	case 2:
		l[r.Intn(len(l))] = pick(r, wrongValues()...)
	}
	return l
}

// spoiled gives t with one thing changed, so that it often may not be.
func spoiled(r *rand.Rand, t Table) Table {
	t = copied(t)
	c := &t.Columns[r.Intn(len(t.Columns))]
	n := pick(r, -1, 0, 1, 2, len(t.Columns)-1, len(t.Columns), 16, least, great)
	switch r.Intn(14) {
	case 0:
		t.Name = pick(r, allNames...)
	case 1:
		c.Name = pick(r, allNames...)
	case 2:
		c.Name = pick(r, t.Columns...).Name
	case 3:
		c.Kind = pick(r, -1, 0, 1, 2, 3, 4, 5, 6, 7, 258, least, great)
	case 4:
		c.Scale = pick(r, -1, 0, 1, 6, 7, least, great)
	case 5:
		c.Must = !c.Must
	case 6:
		t.Key = append(t.Key, n)
	case 7:
		t.Uniques = append(t.Uniques, []int{n})
	case 8:
		t.Uniques = append(t.Uniques, nil)
	case 9:
		if len(t.Uniques) > 0 {
			u := &t.Uniques[r.Intn(len(t.Uniques))]
			*u = append(*u, n)
		}
	case 10:
		t.Columns = t.Columns[:r.Intn(len(t.Columns))]
	case 11:
		t.Columns = append(t.Columns, columnsOf(pick(r, 1, api.MaxColumns-len(t.Columns), api.MaxColumns+1-len(t.Columns)))...)
	case 12:
		t.Check = append(t.Check, pick(r, Node{Op: expr.Not}, Node{Op: expr.And}, Node{Op: expr.Value}, Node{Op: 20}, Node{}, Node{Op: expr.Column, Name: c.Name}, Node{Op: expr.Neg, Name: "a"}))
	case 13:
		t.Check = []Node{{Op: expr.Column, Table: pick(r, "", "", "t", "u", "T"), Name: pick(r, c.Name, t.Name, "z")}}
	}
	return t
}
