package datum

import "longstop/api"

// Truths of three kinds; every other number is unknown, too.
const (
	isFalse = 0
	isTrue  = 1
	unknown = 2
)

// And is false, if one is false, else unknown, if one is unknown.
func And(a, b int) int {
	if a == isFalse || b == isFalse {
		return isFalse
	}
	if a == isTrue && b == isTrue {
		return isTrue
	}
	return unknown
}

// Or is true, if one is true, else unknown, if one is unknown.
func Or(a, b int) int {
	return Not(And(Not(a), Not(b)))
}

// Not turns true and false round.
func Not(a int) int {
	switch a {
	case isFalse:
		return isTrue
	case isTrue:
		return isFalse
	}
	return unknown
}

// Truth gives the truth that v stands for, and whether it stands for one.
func Truth(v api.Value) (int, bool) {
	switch v {
	case Of(unknown):
		return unknown, true
	case Of(isTrue):
		return isTrue, true
	case Of(isFalse):
		return isFalse, true
	}
	return unknown, false
}

// Of gives the value that stands for the truth t.
func Of(t int) api.Value {
	if t == isFalse || t == isTrue {
		return api.Value{Kind: api.Bool, N: t}
	}
	return api.Value{}
}
