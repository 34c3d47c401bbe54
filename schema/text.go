package schema

import (
	"datakit/api"
	"datakit/regex"
	"datakit/source"
	"datakit/value"
)

// Write returns schemas as a value.
func Write(s api.Schemas) (api.Value, api.Errno) {
	if err := Check(s); err != api.OK {
		return api.Value{}, err
	}
	v := written(&s)
	if err := value.Check(v); err != api.OK {
		return api.Value{}, err
	}
	return value.Copy(v), api.OK
}

func written(s *api.Schemas) api.Value {
	defs := api.Value{Kind: api.VMap}
	for i := range s.Defs {
		defs.Fields = append(defs.Fields, api.Field{Key: s.Defs[i].Name, Val: writeSchema(&s.Defs[i].Schema)})
	}
	return fields("defs", defs, "root", writeSchema(&s.Root))
}

// fields returns a map with two fields.
func fields(k1 string, v1 api.Value, k2 string, v2 api.Value) api.Value {
	return api.Value{Kind: api.VMap, Fields: []api.Field{{Key: k1, Val: v1}, {Key: k2, Val: v2}}}
}

func list(l ...api.Value) api.Value { return api.Value{Kind: api.VList, List: l} }

// keyOf returns the key of the value of schemas with an operator.
func keyOf(op int) string {
	switch op {
	case api.SKinds:
		return "kinds"
	case api.SNumber:
		return "number"
	case api.SText:
		return "text"
	case api.SMatch:
		return "match"
	case api.SFormat:
		return "format"
	case api.SValues:
		return "values"
	case api.SList:
		return "list"
	case api.SMap:
		return "map"
	case api.SAll:
		return "all"
	case api.SAnyOf:
		return "any"
	case api.SNot:
		return "not"
	case api.SRef:
		return "ref"
	}
	return ""
}

func writeSchema(x *api.Schema) api.Value {
	if x.Op == api.SAny || x.Op == api.SNone {
		return value.Bool(x.Op == api.SAny)
	}
	return api.Value{Kind: api.VMap, Fields: []api.Field{{Key: keyOf(x.Op), Val: writeContent(x)}}}
}

func writeContent(x *api.Schema) api.Value {
	switch x.Op {
	case api.SKinds:
		return kindNames(x.Mask)
	case api.SNumber:
		return writeSet(x.Set)
	case api.SText:
		return list(value.Int(x.Min), bound(x.Max))
	case api.SMatch:
		return value.Text(regex.Text(x.Pattern))
	case api.SFormat, api.SRef:
		return value.Text(x.Name)
	case api.SValues:
		return list(x.Vals...)
	case api.SList:
		return list(value.Int(x.Min), bound(x.Max), writeSchema(&x.Args[0]))
	case api.SMap:
		props := list()
		for i := range x.Props {
			p := &x.Props[i]
			props.List = append(props.List, list(value.Text(p.Key), value.Bool(p.Required), writeSchema(&p.Schema)))
		}
		return list(props, writeSchema(&x.Args[0]))
	case api.SNot:
		return writeSchema(&x.Args[0])
	}
	args := list()
	for i := range x.Args {
		args.List = append(args.List, writeSchema(&x.Args[i]))
	}
	return args
}

func bound(n int) api.Value {
	if n == -1 {
		return api.Value{}
	}
	return value.Int(n)
}

func kindNames(mask int) api.Value {
	names := list()
	for kind := range api.VKinds {
		if mask>>kind&1 == 1 {
			names.List = append(names.List, value.Text(value.Name(kind)))
		}
	}
	return names
}

func writeSet(s api.NumSet) api.Value {
	parts := list()
	for _, p := range s.Parts {
		v := api.Value{Kind: api.VMap}
		add := func(b api.Bound, closed, open string) {
			if !b.Set {
				return
			}
			if b.Open {
				closed = open
			}
			v.Fields = append(v.Fields, api.Field{Key: closed, Val: value.Num(b.Num)})
		}
		add(p.Lo, "from", "above")
		add(p.Hi, "to", "below")
		if name := sortName(p.Sort); name != "" {
			v.Fields = append(v.Fields, api.Field{Key: "sort", Val: value.Text(name)})
		}
		parts.List = append(parts.List, v)
	}
	return parts
}

func sortName(sort int) string {
	switch sort {
	case api.NumWhole:
		return "whole"
	case api.NumFract:
		return "fraction"
	}
	return ""
}

// Read returns the schemas of a value. What is read is taken loosely: whether
// the value is that of the schemas is seen when they are written again.
func Read(v api.Value) (api.Schemas, api.Errno) {
	if value.Check(v) != api.OK {
		return api.Schemas{}, api.ErrSyntax
	}
	var s api.Schemas
	defs, _ := value.Field(v, "defs")
	for _, f := range defs.Fields {
		s.Defs = append(s.Defs, api.Def{Name: f.Key, Schema: readSchema(f.Val)})
	}
	root, _ := value.Field(v, "root")
	s.Root = readSchema(root)
	if back, err := Write(s); err != api.OK || !value.Same(back, v) {
		return api.Schemas{}, api.ErrSyntax
	}
	return s, api.OK
}

func readSchema(v api.Value) api.Schema {
	if v.Kind == api.VBool {
		if v.Bool {
			return api.Schema{Op: api.SAny}
		}
		return api.Schema{Op: api.SNone}
	}
	if len(v.Fields) != 1 {
		return api.Schema{}
	}
	x := api.Schema{}
	for op := api.SKinds; op < api.SOps; op++ {
		if keyOf(op) == v.Fields[0].Key {
			x.Op = op
		}
	}
	readContent(&x, v.Fields[0].Val)
	return x
}

// at returns an element of a list, or null.
func at(v api.Value, i int) api.Value {
	if i < len(v.List) {
		return v.List[i]
	}
	return api.Value{}
}

func number(v api.Value) int {
	if v.Kind == api.VNull {
		return -1
	}
	n, _ := source.Index(v.Num, api.MaxText)
	return n
}

func readContent(x *api.Schema, v api.Value) {
	switch x.Op {
	case api.SKinds:
		for _, name := range v.List {
			for kind := range api.VKinds {
				if name.Text == value.Name(kind) {
					x.Mask |= 1 << kind
				}
			}
		}
	case api.SNumber:
		x.Set = readSet(v)
	case api.SText:
		x.Min, x.Max = number(at(v, 0)), number(at(v, 1))
	case api.SMatch:
		x.Pattern, _ = regex.Parse(v.Text)
	case api.SFormat, api.SRef:
		x.Name = v.Text
	case api.SValues:
		x.Vals = value.Copy(v).List
	case api.SList:
		x.Min, x.Max = number(at(v, 0)), number(at(v, 1))
		x.Args = []api.Schema{readSchema(at(v, 2))}
	case api.SMap:
		for _, p := range at(v, 0).List {
			x.Props = append(x.Props, api.Prop{Key: at(p, 0).Text, Required: at(p, 1).Bool, Schema: readSchema(at(p, 2))})
		}
		x.Args = []api.Schema{readSchema(at(v, 1))}
	case api.SNot:
		x.Args = []api.Schema{readSchema(v)}
	case api.SAll, api.SAnyOf:
		for _, arg := range v.List {
			x.Args = append(x.Args, readSchema(arg))
		}
	}
}

func readSet(v api.Value) api.NumSet {
	var s api.NumSet
	for _, part := range v.List {
		var p api.Part
		for _, f := range part.Fields {
			b := api.Bound{Set: true, Num: f.Val.Num, Open: f.Key == "above" || f.Key == "below"}
			switch f.Key {
			case "from", "above":
				p.Lo = b
			case "to", "below":
				p.Hi = b
			case "sort":
				p.Sort = api.NumFract
				if f.Val.Text == sortName(api.NumWhole) {
					p.Sort = api.NumWhole
				}
			}
		}
		s.Parts = append(s.Parts, p)
	}
	return s
}
