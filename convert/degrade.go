package convert

import (
	"slices"

	"datakit/api"
	"datakit/base"
	"datakit/canon"
	"datakit/moment"
	"datakit/path"
	"datakit/value"
)

// degrader collects losses.
type degrader struct {
	dialect api.Dialect
	losses  []api.Loss
}

func (d *degrader) lose(kind int, p []api.Step) {
	d.losses = append(d.losses, api.Loss{Kind: kind, Path: slices.Clone(p)})
}

// valueKey is the key of a value that had to become a field.
const valueKey = "value"

// table degrades a value for the key-table format.
func (d *degrader) table(v api.Value) api.Value {
	if v.Kind == api.VMap {
		return d.tableMap(v, nil)
	}
	d.lose(api.LossShape, nil)
	out := api.Value{Kind: api.VMap}
	if x, ok := d.tableField(v, nil); ok {
		out.Fields = []api.Field{{Key: valueKey, Val: x}}
	}
	return out
}

// tableField degrades the value of a field; it reports whether the field stays.
func (d *degrader) tableField(v api.Value, p []api.Step) (api.Value, bool) {
	if v.Kind == api.VNull {
		d.lose(api.LossNull, p)
		return api.Value{}, false
	}
	return d.tableValue(v, p), true
}

func (d *degrader) tableValue(v api.Value, p []api.Step) api.Value {
	switch v.Kind {
	case api.VNull:
		d.lose(api.LossNull, p)
		return value.Text("")
	case api.VBytes:
		d.lose(api.LossBytes, p)
		return value.Text(base.Encode(v.Bytes, true))
	case api.VList:
		for i := range v.List {
			v.List[i] = d.tableValue(v.List[i], path.Join(p, path.At(i)))
		}
	case api.VMap:
		return d.tableMap(v, p)
	}
	return v
}

func (d *degrader) tableMap(v api.Value, p []api.Step) api.Value {
	out := api.Value{Kind: api.VMap}
	for _, f := range v.Fields {
		if x, ok := d.tableField(f.Val, path.Join(p, path.Key(f.Key))); ok {
			out.Fields = append(out.Fields, api.Field{Key: f.Key, Val: x})
		}
	}
	return out
}

// record is an element of the list for a delimited file.
type record struct {
	v    api.Value
	path []api.Step
	made bool // it became a map or a list
}

// grid degrades a value for the delimited format.
func (d *degrader) grid(v api.Value) api.Value {
	whole := v.Kind != api.VList
	if whole {
		d.lose(api.LossShape, nil)
		v = api.Value{Kind: api.VList, List: []api.Value{v}}
	}
	var records []record
	for i, x := range v.List {
		r := record{v: x, path: []api.Step{path.At(i)}}
		if whole {
			r.path = nil
		}
		d.shape(&r)
		records = append(records, r)
	}
	out := api.Value{Kind: api.VList}
	if len(records) == 0 {
		return out
	}
	names, width := columns(records)
	for _, r := range records {
		if d.dialect.Header {
			out.List = append(out.List, d.fields(r, names))
		} else {
			out.List = append(out.List, d.elements(r, width))
		}
	}
	return out
}

// shape makes a map or a list of an element that is none.
func (d *degrader) shape(r *record) {
	switch {
	case d.dialect.Header && r.v.Kind != api.VMap:
		r.v = api.Value{Kind: api.VMap, Fields: []api.Field{{Key: valueKey, Val: r.v}}}
	case !d.dialect.Header && r.v.Kind != api.VList:
		r.v = api.Value{Kind: api.VList, List: []api.Value{r.v}}
	default:
		return
	}
	r.made = true
	d.lose(api.LossShape, r.path)
}

// columns returns the keys of all records, and the largest number of elements.
func columns(records []record) ([]string, int) {
	var names []string
	seen := map[string]bool{}
	width := 1
	for _, r := range records {
		width = max(width, len(r.v.List))
		for _, f := range r.v.Fields {
			if !seen[f.Key] {
				seen[f.Key] = true
				names = append(names, f.Key)
			}
		}
	}
	if len(names) == 0 {
		names = []string{valueKey}
	}
	return names, width
}

// cellPath returns the path of a cell of a record.
func (r *record) cellPath(step api.Step) []api.Step {
	if r.made {
		return r.path
	}
	return path.Join(r.path, step)
}

func (d *degrader) fields(r record, names []string) api.Value {
	if len(r.v.Fields) < len(names) && !r.made {
		d.lose(api.LossShape, r.path)
	}
	cells := map[string]api.Value{}
	for _, f := range r.v.Fields {
		cells[f.Key] = f.Val
	}
	out := api.Value{Kind: api.VMap}
	for _, name := range names {
		x, ok := cells[name]
		if ok {
			x = d.cell(x, r.cellPath(path.Key(name)))
		} else {
			x = d.added()
		}
		out.Fields = append(out.Fields, api.Field{Key: name, Val: x})
	}
	return out
}

func (d *degrader) elements(r record, width int) api.Value {
	if len(r.v.List) < width && !r.made {
		d.lose(api.LossShape, r.path)
	}
	out := api.Value{Kind: api.VList}
	for i := range width {
		x := d.added()
		if i < len(r.v.List) {
			x = d.cell(r.v.List[i], r.cellPath(path.At(i)))
		}
		out.List = append(out.List, x)
	}
	return out
}

// added returns a cell that a record lacks.
func (d *degrader) added() api.Value {
	if d.dialect.Typed {
		return api.Value{}
	}
	return value.Text("")
}

func (d *degrader) cell(v api.Value, p []api.Step) api.Value {
	kind, text := 0, ""
	switch v.Kind {
	case api.VList, api.VMap:
		kind = api.LossNest
		text, _ = canon.Text(v)
	case api.VBytes:
		kind, text = api.LossBytes, base.Encode(v.Bytes, true)
	case api.VText:
		return v
	default:
		if d.dialect.Typed {
			return v
		}
		kind, text = untyped(v)
	}
	d.lose(kind, p)
	return value.Text(text)
}

// untyped returns how a scalar is lost without types, and its text.
func untyped(v api.Value) (int, string) {
	switch v.Kind {
	case api.VNull:
		return api.LossNull, ""
	case api.VTime:
		return api.LossTime, moment.Text(v.Time)
	}
	text, _ := canon.Text(v)
	return api.LossNumber, text
}
