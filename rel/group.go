package rel

import (
	"slices"

	"longstop/api"
	"longstop/datum"
	"longstop/eval"
	"longstop/expr"
	"longstop/stmt"
)

// hasGroups tells whether c is told of groups of rows, not of rows.
func hasGroups(c stmt.Core) bool {
	return len(c.Group) > 0 ||
		slices.ContainsFunc(append(itemsOf(c), c.Having), func(l []expr.Node) bool { return slices.ContainsFunc(l, isAggregate) })
}

func isAggregate(n expr.Node) bool {
	return n.Op == expr.Call && aggregates(n.Name)
}

// shownOfGroups gives what the Items of c come to, of the groups of v's rows of
// which Having is true.
func (v view) shownOfGroups(c stmt.Core) ([][]api.Value, api.Errno) {
	groups, e := v.groups(c.Group)
	if e != api.OK {
		return nil, e
	}
	if len(c.Having) > 0 {
		groups, e = kept(groups, func(tell teller) (bool, api.Errno) { return isTrue(tell(c.Having)) })
	}
	switch {
	case e != api.OK:
		return nil, e
	case c.Star:
		return nil, api.ErrName
	}
	items := itemsOf(c)
	return each(groups, func(tell teller) ([]api.Value, api.Errno) { return each(items, tell) })
}

// groups gives what tells of each group, these standing as their first rows do.
func (v view) groups(by [][]expr.Node) ([]teller, api.Errno) {
	if len(by) == 0 {
		return []teller{v.tellerOfGroup(v.rows)}, api.OK
	}
	var groups [][][]api.Value
	places := map[string]int{} // where a group stands, by the key of what by comes to
	for _, row := range v.rows {
		values, e := each(by, v.tellerOf(row))
		if e != api.OK {
			return nil, e
		}
		key := keyOf(values)
		place, there := places[key]
		if !there {
			place = len(groups)
			places[key] = place
			groups = append(groups, nil)
		}
		groups[place] = append(groups[place], row)
	}
	var tellers []teller
	for _, rows := range groups {
		tellers = append(tellers, v.tellerOfGroup(rows))
	}
	return tellers, api.OK
}

// tellerOfGroup gives what tells of the group of those rows: expressions within
// others are told by the very same.
func (v view) tellerOfGroup(rows [][]api.Value) teller {
	first := make([]api.Value, len(v.Names)) // Nulls, where there is no row
	if len(rows) > 0 {
		first = rows[0]
	}
	var tell teller
	tell = func(l []expr.Node) (api.Value, api.Errno) {
		last := l[len(l)-1]
		switch {
		case isAggregate(last):
			return v.aggregated(last, l[:len(l)-1], rows)
		case len(l) == 1:
			return eval.Eval(l, v.Scope, first)
		}
		values, e := each(operands(l), tell)
		if e != api.OK {
			return api.Value{}, e
		}
		return done(last, values)
	}
	return tell
}

// aggregated gives what the aggregate n comes to, of the rows of a group; given
// is its argument, if it has just one.
func (v view) aggregated(n expr.Node, given []expr.Node, rows [][]api.Value) (api.Value, api.Errno) {
	switch {
	case n.Args == 0 && n.Name == countName:
		return whole(len(rows)), api.OK
	case n.Args != 1:
		return api.Value{}, api.ErrName
	}
	values, e := each(rows, func(row []api.Value) (api.Value, api.Errno) { return eval.Eval(given, v.Scope, row) })
	if e != api.OK {
		return api.Value{}, e
	}
	return Aggregate(n.Name, values)
}

// operands gives the expressions with which the last node of l is done.
func operands(l []expr.Node) [][]expr.Node {
	var starts []int // of the expressions with which nothing is done yet
	last := len(l) - 1
	for i, n := range l[:last] {
		// The start of n's first operand, if it has one, is that of the whole.
		starts = append(starts, i)
		starts = starts[:len(starts)-operandCount(n)]
	}
	var parts [][]expr.Node
	for i, start := range starts {
		end := last
		if i+1 < len(starts) {
			end = starts[i+1]
		}
		parts = append(parts, l[start:end])
	}
	return parts
}

func operandCount(n expr.Node) int {
	switch {
	case n.Op == expr.Call:
		return n.Args
	case n.Op >= expr.Mul:
		return 2
	case n.Op >= expr.Neg:
		return 1
	}
	return 0
}

// done gives what n, that is no aggregate, comes to of its operands.
func done(n expr.Node, with []api.Value) (api.Value, api.Errno) {
	switch {
	case n.Op == expr.Call:
		return eval.Function(n.Name, with...)
	case len(with) == 1:
		return eval.Unary(n.Op, with[0])
	}
	return eval.Binary(n.Op, with[0], with[1])
}

// isTrue tells whether what an expression came to is true.
func isTrue(v api.Value, e api.Errno) (bool, api.Errno) {
	if e != api.OK {
		return false, e
	}
	truth, ok := datum.Truth(v)
	if !ok {
		return false, api.ErrType
	}
	return truth == 1, api.OK
}
