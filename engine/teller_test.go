package engine_test

import (
	"slices"

	"longstop/api"
	"longstop/base"
	"longstop/stmt"
)

// line is a statement's text, and which tables it reads and writes, as told by
// who made the text up.
type line struct {
	s             string
	reads, writes []string
}

// teller is a second teller of the chapter: a base, and of each session that has
// a transaction what was done in it, from its begin on. It holds no locks, but
// looks at all that was done.
type teller struct {
	b    *Base
	open [mostSessions + 1]bool
	did  [mostSessions + 1][]line
	made [mostSessions + 1][]Change
}

func newTeller() *teller { return &teller{b: base.New()} }

func meets(a, b []string) bool {
	return slices.ContainsFunc(a, func(name string) bool { return slices.Contains(b, name) })
}

// waits tells whether what somebody else did is in the way of x.
func (u *teller) waits(session int, x line) bool {
	for other := range u.did {
		if other == session {
			continue
		}
		for _, d := range u.did[other] {
			if meets(d.writes, x.reads) || meets(d.writes, x.writes) || meets(d.reads, x.writes) {
				return true
			}
		}
	}
	return false
}

func (u *teller) do(session int, x line) (Result, Errno) {
	if session < 1 || session > mostSessions {
		return Result{}, api.ErrArg
	}
	s := statement(x.s)
	if open := u.open[session]; s.Kind == stmt.Begin && open || s.Kind > stmt.Begin && !open {
		return Result{}, api.ErrSession
	}
	switch s.Kind {
	case stmt.Begin:
		u.open[session] = true
		return Result{}, api.OK
	case stmt.Commit:
		r := Result{Changes: u.made[session]}
		u.end(session)
		return r, api.OK
	case stmt.Rollback:
		e := u.b.Undo(u.made[session])
		u.end(session)
		return Result{}, e
	}
	if u.waits(session, x) {
		return Result{}, api.ErrLock
	}
	r, e := u.b.Do(s)
	if e == api.OK && u.open[session] {
		u.did[session] = append(u.did[session], x)
		u.made[session] = append(u.made[session], r.Changes...)
		r.Changes = nil
	}
	return r, e
}

func (u *teller) end(session int) {
	u.open[session], u.did[session], u.made[session] = false, nil, nil
}

func (u *teller) bring(l []Change, do func(*Base, []Change) Errno) Errno {
	for _, x := range l {
		named := []string{x.Table}
		if x.Kind == base.Create || x.Kind == base.Drop {
			named = append(named, theList)
		}
		if u.waits(0, line{writes: named}) {
			return api.ErrLock
		}
	}
	return do(u.b, l)
}

func (u *teller) locks(name string) (readers []int, writer int) {
	for session, did := range u.did {
		if slices.ContainsFunc(did, func(d line) bool { return slices.Contains(d.reads, name) }) {
			readers = append(readers, session)
		}
		if slices.ContainsFunc(did, func(d line) bool { return slices.Contains(d.writes, name) }) {
			writer = session
		}
	}
	return readers, writer
}

func (u *teller) close() int {
	n := 0
	for session := mostSessions; session > 0; session-- {
		if _, e := u.do(session, line{s: "rollback"}); e == api.OK {
			n++
		}
	}
	return n
}
