package engine

// locks: those that one transaction holds, by the tables' names.
type locks map[string]lock

// lock: whether it is held of a table for reading, and whether for writing.
type lock struct {
	read, write bool
}

func (l locks) of(table string) lock {
	return l[table]
}

// hold adds the locks of what is used.
func (l locks) hold(u uses) {
	for _, name := range u.reads {
		l[name] = lock{read: true, write: l[name].write}
	}
	for _, name := range u.writes {
		l[name] = lock{read: l[name].read, write: true}
	}
}

// bar tells whether these are in the way of somebody else's use: those for
// writing of all, those for reading of writing.
func (l locks) bar(u uses) bool {
	for _, name := range u.reads {
		if l[name].write {
			return true
		}
	}
	for _, name := range u.writes {
		if l[name] != (lock{}) {
			return true
		}
	}
	return false
}
