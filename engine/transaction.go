package engine

import (
	"longstop/api"
	"longstop/base"
	"longstop/stmt"
)

// nobody is no session's number: all locks are somebody else's to it.
const nobody = 0

// transaction: what a session changed since its begin, and what it holds to keep
// others away from that.
type transaction struct {
	locks
	changes []base.Change
}

func (g *Engine) begin(session int) api.Errno {
	if g.sessions[session] != nil {
		return api.ErrSession
	}
	g.sessions[session] = &transaction{locks: locks{}}
	return api.OK
}

func (g *Engine) commit(session int) (base.Result, api.Errno) {
	t := g.sessions[session]
	if t == nil {
		return base.Result{}, api.ErrSession
	}
	delete(g.sessions, session)
	return base.Result{Changes: t.changes}, api.OK
}

func (g *Engine) rollback(session int) api.Errno {
	t := g.sessions[session]
	if t == nil {
		return api.ErrSession
	}
	delete(g.sessions, session)
	// Its locks kept all that it changed as it left it: that can be undone.
	return g.base.Undo(t.changes)
}

// done does a statement that the base does. What it uses the transaction holds
// from then on, if there is one.
func (g *Engine) done(session int, s stmt.Stmt) (base.Result, api.Errno) {
	u := usesOf(s)
	if g.isBarred(session, u) {
		return base.Result{}, api.ErrLock
	}
	r, e := g.base.Do(s)
	t := g.sessions[session]
	if e != api.OK || t == nil {
		return r, e
	}
	t.hold(u)
	t.changes = append(t.changes, r.Changes...)
	r.Changes = nil
	return r, api.OK
}

// isBarred tells whether a lock of another session than this one is in the way
// of what is to be used.
func (g *Engine) isBarred(session int, u uses) bool {
	for other, t := range g.sessions {
		if other != session && t.bar(u) {
			return true
		}
	}
	return false
}
