package edit

import (
	"strings"

	"datakit/api"
	"datakit/reader"
	"datakit/value"
	"datakit/writer"
)

// insertion returns the proposals for inserting a value.
func (d *document) insertion(p []api.Step, v api.Value) ([]api.Edit, api.Errno) {
	x := d.placeOf(p)
	if d.Format == api.FmtDelim {
		if len(x.outer) > 0 {
			return nil, api.OK
		}
		return d.insertRecord(x, v)
	}
	text := func() (string, api.Errno) {
		if x.step.ByIndex {
			return d.inline(v)
		}
		return d.field(x.step.Key, v)
	}
	if c, ok := d.container(x.outer); ok {
		t, err := text()
		if err != api.OK {
			return nil, err
		}
		if c.node.Text != "" {
			return []api.Edit{d.insertInFlow(c, x, t)}, api.OK
		}
		if x.step.ByIndex {
			t = "- " + t
		}
		return []api.Edit{d.insertInBlock(c, x, t)}, api.OK
	}
	_, err := reader.Locate(d.Doc, x.outer)
	if d.Format != api.FmtTable || x.step.ByIndex || err != api.ErrSplit {
		return nil, api.OK
	}
	t, err := text()
	if err != api.OK {
		return nil, err
	}
	return d.insertInTables(t), api.OK
}

// insertRecord inserts a record of a delimited file.
func (d *document) insertRecord(x place, v api.Value) ([]api.Edit, api.Errno) {
	write := func(l ...api.Value) (string, api.Errno) {
		return writer.Write(api.FmtDelim, value.List(l...), d.style())
	}
	if x.count == 0 {
		text, err := write(v)
		return []api.Edit{cut(0, len(d.src), text)}, err
	}
	before, err := write(x.first)
	if err != api.OK {
		return nil, err
	}
	both, err := write(x.first, v)
	if err != api.OK {
		return nil, err
	}
	text := strings.TrimPrefix(both, before)
	root := located{nil, d.Tree}
	if x.index < x.count {
		return []api.Edit{insertAt(d.start(root.kid(d.record(x.index))), text)}, api.OK
	}
	if last := d.Tree.Kids[len(d.Tree.Kids)-1]; last.Tail == "" {
		text = "\n" + text[:len(text)-1]
	}
	return []api.Edit{insertAt(len(d.src), text)}, api.OK
}

// record returns the index of the node of the record of an element.
func (d *document) record(element int) int {
	if d.Dialect.Header {
		return element + 1
	}
	return element
}

func (d *document) insertInFlow(c located, x place, t string) api.Edit {
	switch {
	case x.index < x.count:
		return insertAt(d.start(c.kid(x.index)), t+", ")
	case x.count > 0:
		return insertAt(d.end(valueOf(c.kid(x.count-1))), ", "+t)
	}
	return insertAt(d.start(c)+len(c.node.Text), t)
}

func (d *document) insertInBlock(c located, x place, t string) api.Edit {
	margin := strings.Repeat(" ", d.column(d.start(c.kid(0))))
	if x.index < x.count {
		return insertAt(d.start(c.kid(x.index)), t+"\n"+margin)
	}
	return insertAt(d.lineEnd(d.end(c)), "\n"+margin+t)
}

// insertInTables inserts a line before the first header, or behind a header.
func (d *document) insertInTables(t string) []api.Edit {
	root := located{nil, d.Tree}
	entries := 0
	for entries < len(d.Tree.Kids) && d.Tree.Kids[entries].Kind == api.NEntry {
		entries++
	}
	first := insertAt(0, t+"\n")
	if entries > 0 {
		first = insertAt(d.lineEnd(d.end(root.kid(entries-1))), "\n"+t)
	}
	list := []api.Edit{first}
	for i := entries; i < len(d.Tree.Kids); i++ {
		table := root.kid(i)
		at := d.start(table) + len(table.node.Text)
		if n := len(table.node.Kids); n > 0 {
			at = d.end(table.kid(n - 1))
		}
		list = append(list, insertAt(d.lineEnd(at), "\n"+t))
	}
	return list
}

// removal returns the proposals for removing a value.
func (d *document) removal(p []api.Step) []api.Edit {
	x := d.placeOf(p)
	if d.Format == api.FmtDelim {
		if len(x.outer) > 0 {
			return nil
		}
		record := located{nil, d.Tree}.kid(d.record(x.index))
		return []api.Edit{cut(d.start(record), d.end(record), "")}
	}
	var list []api.Edit
	if c, ok := d.container(x.outer); ok {
		if c.node.Text != "" {
			list = append(list, d.removeFromFlow(c, x))
		} else {
			list = append(list, d.removeFromBlock(c, x))
		}
	}
	if entry, ok := d.ownEntry(p); ok {
		to := d.lineEnd(d.end(entry))
		if n := strings.IndexByte(d.src[to:], '\n'); n >= 0 {
			to += n + 1
		}
		list = append(list, cut(d.lineStart(d.start(entry)), to, ""))
	}
	return list
}

func (d *document) removeFromFlow(c located, x place) api.Edit {
	entry := c.kid(x.index)
	from, to := d.start(entry), d.end(entry)
	last := entry.node.Kids[len(entry.node.Kids)-1]
	switch {
	case last.Kind == api.NMark:
		for to < len(d.src) && d.src[to] == ' ' {
			to++
		}
	case x.index > 0:
		before := c.kid(x.index - 1)
		from = d.start(before.kid(len(before.node.Kids) - 1))
	}
	return cut(from, to, "")
}

func (d *document) removeFromBlock(c located, x place) api.Edit {
	if x.count == 1 {
		empty := "[]"
		if c.node.Kind == api.NMap {
			empty = "{}"
		}
		return cut(d.start(c), d.end(c), empty)
	}
	entry := c.kid(x.index)
	if x.index == 0 {
		return cut(d.start(entry), d.start(c.kid(1)), "")
	}
	from := d.lineStart(d.start(entry))
	if from > 0 {
		from = d.lineEnd(d.lineStart(from - 1))
	}
	return cut(from, d.lineEnd(d.end(entry)), "")
}

// renaming returns the proposal for renaming a field.
func (d *document) renaming(p []api.Step, key string) ([]api.Edit, api.Errno) {
	if d.Format == api.FmtDelim {
		return nil, api.OK
	}
	x := d.placeOf(p)
	entry, ok := d.ownEntry(p)
	if c, found := d.container(x.outer); found {
		entry, ok = c.kid(x.index), true
	}
	if !ok {
		return nil, api.OK
	}
	text, err := d.key(key)
	if err != api.OK {
		return nil, err
	}
	name := entry.kid(0)
	from := d.start(name)
	return []api.Edit{cut(from, from+len(name.node.Text), text)}, api.OK
}
