package index

import (
	"slices"

	"datakit/api"
	"datakit/brace"
	"datakit/delim"
	"datakit/grid"
	"datakit/path"
)

// Build returns the index of a source, or the offset of the error.
func Build(format int, src string, depth int, o api.Options) (api.Index, int, api.Errno) {
	if format != api.FmtBrace && format != api.FmtDelim || depth < 1 || depth > api.MaxSteps {
		return api.Index{}, 0, api.ErrArg
	}
	b := &builder{x: api.Index{Format: format, Size: len(src), Depth: depth}}
	if format == api.FmtBrace {
		n, at, err := brace.Parse(src, o.Limits)
		if err != api.OK {
			return api.Index{}, at, err
		}
		v, _, _ := brace.Read(src, o.Limits)
		b.braces(&n.Kids[0], v, nil)
		return b.x, 0, api.OK
	}
	n, at, err := delim.Parse(src, o.Dialect, o.Limits)
	if err != api.OK {
		return api.Index{}, at, err
	}
	if o.Dialect.Header {
		b.x.Columns, _ = grid.Columns(n, o.Dialect)
	}
	b.records(n, o.Dialect)
	return b.x, 0, api.OK
}

// builder follows a tree through its source.
type builder struct {
	x  api.Index
	at int
}

func (b *builder) pass(text string) { b.at += len(text) }

// braces adds the entries of a node of braces with some value at a path.
func (b *builder) braces(n *api.Node, v api.Value, p []api.Step) {
	b.pass(n.Lead)
	place := len(b.x.Entries)
	add := len(p) > 0 && len(p) <= b.x.Depth
	if add {
		b.x.Entries = append(b.x.Entries, api.Entry{Path: slices.Clone(p), At: api.Span{From: b.at}})
	}
	b.pass(n.Text)
	for i := range n.Kids {
		entry := n.Kids[i].Kids
		kid := 0
		step, x := path.At(i), api.Value{}
		if n.Kind == api.NMap {
			kid = 2
			step, x = path.Key(v.Fields[i].Key), v.Fields[i].Val
		} else {
			x = v.List[i]
		}
		for j := range entry {
			if j == kid {
				b.braces(&entry[j], x, append(p, step))
			} else {
				b.pass(entry[j].Lead + entry[j].Text)
			}
		}
	}
	b.pass(n.Tail)
	if add {
		b.x.Entries[place].At.To = b.at
	}
}

// records adds the entries of the records of a delimited file.
func (b *builder) records(n api.Node, d api.Dialect) {
	number := 0
	for i, record := range n.Kids {
		place := -1
		if !d.Header || i > 0 {
			place = len(b.x.Entries)
			b.x.Entries = append(b.x.Entries, api.Entry{Path: []api.Step{path.At(number)}, At: api.Span{From: b.at}})
		}
		for j, entry := range record.Kids {
			step := path.At(j)
			if d.Header {
				step = path.Key(b.x.Columns[j])
			}
			size := len(entry.Kids[0].Text)
			if place >= 0 && b.x.Depth >= maxDelimSteps {
				b.x.Entries = append(b.x.Entries, api.Entry{Path: []api.Step{path.At(number), step}, At: api.Span{From: b.at, To: b.at + size}})
			}
			b.at += size + len(entry.Kids) - 1
		}
		if place >= 0 {
			b.x.Entries[place].At.To = b.at
			number++
		}
		b.pass(record.Tail)
	}
}
