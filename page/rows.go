package page

import (
	"longstop/api"
	"longstop/datum"
)

// Pack gives pages with these rows, one behind the other.
func Pack(rows [][]api.Value) ([][]byte, api.Errno) {
	records, e := recordsOf(rows)
	if e != api.OK {
		return nil, e
	}
	var pages [][]byte
	var last []content
	free := room(nil)
	for _, r := range records {
		need := slotBytes + len(r)
		if need > free {
			pages = append(pages, write(last))
			last, free = nil, room(nil)
		}
		last = append(last, holding(r))
		free -= need
	}
	if len(last) > 0 {
		pages = append(pages, write(last))
	}
	return pages, api.OK
}

// recordsOf gives the rows' bytes. A row that may not be counts ahead of one
// that is too long, wherever they stand.
func recordsOf(rows [][]api.Value) ([][]byte, api.Errno) {
	for _, row := range rows {
		if !datum.Row(row...) {
			return nil, api.ErrArg
		}
	}
	var records [][]byte
	for _, row := range rows {
		r, _ := datum.Put(row...)
		if len(r) > mostRecord {
			return nil, api.ErrSize
		}
		records = append(records, r)
	}
	return records, api.OK
}

// Unpack gives the rows in the pages' slots.
func Unpack(pages [][]byte) ([][]api.Value, api.Errno) {
	var rows [][]api.Value
	for _, p := range pages {
		if !Right(p) {
			return nil, api.ErrForm
		}
		for _, x := range slots(p) {
			if !x.taken {
				continue
			}
			row, e := datum.Get(x.record)
			if e != api.OK {
				return nil, api.ErrForm
			}
			rows = append(rows, row)
		}
	}
	return rows, api.OK
}
