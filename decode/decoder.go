package decode

import (
	"strings"

	"longstop/api"
	"longstop/base"
)

// decoder tells changes of a base, one behind the other, as changes of what is
// shown of it.
type decoder struct {
	base     *base.Base      // as it stands ahead of all changes
	parts    map[string]Part // by their tables
	views    map[string]view // of tables that were changed, as they stand by now
	lacksKey bool            // whether a row went or was changed of which the key is not shown
}

func newDecoder(p Publication, b *base.Base) *decoder {
	d := &decoder{base: b, parts: map[string]Part{}, views: map[string]view{}}
	for _, part := range p.Parts {
		d.parts[part.Table] = part
	}
	return d
}

// told tells one change, which the base does.
func (d *decoder) told(x base.Change) ([]base.Change, api.Errno) {
	part, there := d.parts[x.Table]
	if !there {
		return nil, api.OK
	}
	if x.Kind == base.Create || x.Kind == base.Drop {
		return d.toldTable(part, x)
	}
	v, e := d.view(part)
	if e != api.OK {
		return nil, e
	}
	d.lacksKey = d.lacksKey || v.lacksKey && x.Kind != base.Insert
	return v.told(x)
}

// toldTable tells of a table that comes or goes. Where it comes, further changes
// of its name are of it.
func (d *decoder) toldTable(part Part, x base.Change) ([]base.Change, api.Errno) {
	v, e := part.view(x.Schema)
	if e != api.OK {
		return nil, e
	}
	d.views[x.Table] = v
	return []base.Change{{Kind: x.Kind, Table: strings.Clone(x.Table), Schema: v.table}}, api.OK
}

// view gives what part shows of its table, as that stands by now.
func (d *decoder) view(part Part) (view, api.Errno) {
	v, known := d.views[part.Table]
	if known {
		return v, api.OK
	}
	t, _ := d.base.Data(part.Table)
	v, e := part.view(t.Table)
	if e != api.OK {
		return view{}, e
	}
	d.views[part.Table] = v
	return v, api.OK
}
