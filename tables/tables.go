// Package tables processes assignments of the key-table format one by one.
package tables

import (
	"strconv"

	"datakit/api"
)

// What a field of an open map is.
const (
	Open   = 1 // an open map
	List   = 2 // a list of tables
	Closed = 3 // the value of a plain assignment
)

// Field is a field of an open map.
type Field struct {
	Key  string
	Kind int
	Map  *Map   // if it is an open map
	List []*Map // if it is a list of tables
	Val  api.Value
	From int // the index of the plain assignment
}

// Map is an open map.
type Map struct {
	Fields []*Field
	Depth  int
	headed bool
	path   string // how its fields are found
}

// Builder has the map that some assignments make. A field of an open map, or of
// the last element of a list of tables, is found by the keys that lead to it.
type Builder struct {
	Root    *Map
	current *Map
	count   int
	found   map[string]*Field
}

// New returns a builder for no assignments.
func New() *Builder {
	root := &Map{Depth: 1}
	return &Builder{Root: root, current: root, found: map[string]*Field{}}
}

// Added is what an assignment has made.
type Added struct {
	Depths []int // of the maps and lists, the outer ones first
	Keys   []string
	In     *Map // the map of a plain assignment
}

// Add processes a proper assignment.
func (b *Builder) Add(a api.Assign) (Added, api.Errno) {
	b.count++
	from := b.Root
	if !a.Table {
		from = b.current
	}
	var made Added
	m, err := b.along(from, a, &made)
	if err != api.OK {
		return Added{}, err
	}
	key := a.Keys[len(a.Keys)-1]
	field := b.found[m.place(key)]
	switch {
	case a.Element:
		err = b.element(m, field, key, &made)
	case a.Table:
		err = b.header(m, field, key, &made)
	case field != nil:
		err = api.ErrExists
	default:
		made.In = m
		made.Keys = append(made.Keys, key)
		b.add(m, &Field{Key: key, Kind: Closed, Val: a.Val, From: b.count - 1})
	}
	if err != api.OK {
		return Added{}, err
	}
	return made, api.OK
}

// place returns the name under which a field is found. Keys are preceded by
// their lengths, so that different ones do not make the same name.
func (m *Map) place(key string) string {
	return m.path + strconv.Itoa(len(key)) + ":" + key
}

func (b *Builder) add(m *Map, f *Field) {
	m.Fields = append(m.Fields, f)
	b.found[m.place(f.Key)] = f
}

// open adds an empty open map.
func (b *Builder) open(m *Map, key string, made *Added) *Map {
	inner := &Map{Depth: m.Depth + 1, path: m.place(key)}
	b.add(m, &Field{Key: key, Kind: Open, Map: inner})
	made.Depths = append(made.Depths, inner.Depth)
	made.Keys = append(made.Keys, key)
	return inner
}

// along goes along the keys of an assignment.
func (b *Builder) along(m *Map, a api.Assign, made *Added) (*Map, api.Errno) {
	for _, key := range a.Keys[:len(a.Keys)-1] {
		field := b.found[m.place(key)]
		switch {
		case field == nil && m.Depth > api.MaxDepth:
			// Too deep already; more maps would change nothing.
			return m, api.OK
		case field == nil:
			m = b.open(m, key, made)
		case field.Kind == Open:
			m = field.Map
		case field.Kind == List && a.Table:
			m = field.List[len(field.List)-1]
		default:
			return nil, api.ErrExists
		}
	}
	return m, api.OK
}

func (b *Builder) header(m *Map, field *Field, key string, made *Added) api.Errno {
	switch {
	case field == nil:
		b.current = b.open(m, key, made)
	case field.Kind == Open && !field.Map.headed:
		b.current = field.Map
	default:
		return api.ErrExists
	}
	b.current.headed = true
	return api.OK
}

func (b *Builder) element(m *Map, field *Field, key string, made *Added) api.Errno {
	switch {
	case field == nil:
		field = &Field{Key: key, Kind: List}
		b.add(m, field)
		made.Depths = append(made.Depths, m.Depth+1)
		made.Keys = append(made.Keys, key)
	case field.Kind != List:
		return api.ErrKind
	default:
		b.forget(field.List[len(field.List)-1])
	}
	b.current = &Map{Depth: m.Depth + 2, path: m.place(key)}
	field.List = append(field.List, b.current)
	made.Depths = append(made.Depths, b.current.Depth)
	return api.OK
}

// forget makes the fields of an element unfindable, since another element takes
// its place.
func (b *Builder) forget(m *Map) {
	for _, field := range m.Fields {
		delete(b.found, m.place(field.Key))
		switch field.Kind {
		case Open:
			b.forget(field.Map)
		case List:
			b.forget(field.List[len(field.List)-1])
		}
	}
}

// Value returns the value of an open map; closed values are not copied.
func (m *Map) Value() api.Value {
	v := api.Value{Kind: api.VMap}
	for _, field := range m.Fields {
		x := field.Val
		switch field.Kind {
		case Open:
			x = field.Map.Value()
		case List:
			x = api.Value{Kind: api.VList}
			for _, element := range field.List {
				x.List = append(x.List, element.Value())
			}
		}
		v.Fields = append(v.Fields, api.Field{Key: field.Key, Val: x})
	}
	return v
}

// Proper reports whether an assignment is proper.
func Proper(a api.Assign) bool {
	if len(a.Keys) == 0 || a.Element && !a.Table {
		return false
	}
	v := a.Val
	if !a.Table {
		return true
	}
	return v.Kind == 0 && !v.Bool && v.Num == api.Decimal{} && v.Time == api.Time{} && v.Text == "" &&
		len(v.Bytes)+len(v.List)+len(v.Fields) == 0
}
