package patch

import (
	"datakit/api"
	"datakit/path"
	"datakit/source"
	"datakit/value"
)

func nameOf(op int) string {
	switch op {
	case api.ChReplace:
		return "replace"
	case api.ChInsert:
		return "insert"
	case api.ChRemove:
		return "remove"
	case api.ChTest:
		return "test"
	}
	return ""
}

// keysOf returns the keys of a written change.
func keysOf(op int, p []api.Step) []string {
	keys := []string{"op", "path"}
	if atField(op, p) {
		keys = append(keys, "at")
	}
	if hasOld(op) {
		keys = append(keys, "old")
	}
	if hasNew(op) {
		keys = append(keys, "new")
	}
	return keys
}

// Write returns changes as a value.
func Write(l []api.Change) (api.Value, api.Errno) {
	if err := Check(l); err != api.OK {
		return api.Value{}, err
	}
	v := api.Value{Kind: api.VList}
	for i := range l {
		v.List = append(v.List, written(&l[i]))
	}
	if err := value.Check(v); err != api.OK {
		return api.Value{}, err
	}
	return v, api.OK
}

func written(c *api.Change) api.Value {
	v := api.Value{Kind: api.VMap}
	for _, key := range keysOf(c.Op, c.Path) {
		x := api.Value{}
		switch key {
		case "op":
			x = value.Text(nameOf(c.Op))
		case "path":
			x = value.Text(path.Text(c.Path))
		case "at":
			x = value.Int(c.At)
		case "old":
			x = value.Copy(c.Old)
		case "new":
			x = value.Copy(c.New)
		}
		v.Fields = append(v.Fields, api.Field{Key: key, Val: x})
	}
	return v
}

// Read returns the changes of a value.
func Read(v api.Value) ([]api.Change, api.Errno) {
	if v.Kind != api.VList {
		return nil, api.ErrKind
	}
	if len(v.List) > api.MaxChanges {
		return nil, api.ErrSize
	}
	var list []api.Change
	for _, x := range v.List {
		c, err := read(x)
		if err != api.OK {
			return nil, err
		}
		list = append(list, c)
	}
	return list, api.OK
}

func read(v api.Value) (api.Change, api.Errno) {
	if v.Kind != api.VMap {
		return api.Change{}, api.ErrKind
	}
	fields := map[string]api.Value{}
	for _, f := range v.Fields {
		fields[f.Key] = f.Val
	}
	var c api.Change
	for op := api.ChReplace; op <= api.ChTest; op++ {
		if name := fields["op"]; name.Kind == api.VText && name.Text == nameOf(op) {
			c.Op = op
		}
	}
	text := fields["path"]
	if c.Op == 0 || text.Kind != api.VText {
		return api.Change{}, api.ErrSyntax
	}
	p, err := path.Parse(text.Text)
	if err != api.OK {
		return api.Change{}, err
	}
	keys := keysOf(c.Op, p)
	for _, key := range keys {
		if _, ok := fields[key]; !ok {
			return api.Change{}, api.ErrSyntax
		}
	}
	if len(fields) != len(keys) {
		return api.Change{}, api.ErrSyntax
	}
	if at, ok := fields["at"]; ok {
		n, whole := source.Index(at.Num, api.MaxNodes)
		if at.Kind != api.VNum || !whole {
			return api.Change{}, api.ErrSyntax
		}
		c.At = n
	}
	if moves(c.Op) && len(p) == 0 {
		return api.Change{}, api.ErrArg
	}
	c.Path = p
	c.Old, c.New = value.Copy(fields["old"]), value.Copy(fields["new"])
	return c, api.OK
}
