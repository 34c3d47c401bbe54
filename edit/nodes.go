package edit

import (
	"slices"
	"strings"

	"datakit/api"
	"datakit/reader"
	"datakit/tree"
)

// located is a node of the tree: its indices, and the node.
type located struct {
	indices []int
	node    api.Node
}

// kid returns a kid of a node.
func (l located) kid(i int) located {
	return located{slices.Concat(l.indices, []int{i}), l.node.Kids[i]}
}

// container returns the list or the map at a path.
func (d *document) container(p []api.Step) (located, bool) {
	indices, err := reader.Locate(d.Doc, p)
	if err != api.OK {
		return located{}, false
	}
	node, _ := tree.Get(d.Tree, indices...)
	return located{indices, node}, node.Kind == api.NList || node.Kind == api.NMap
}

// start returns the offset at which a node starts.
func (d *document) start(l located) int {
	for l.node.Text == "" && len(l.node.Kids) > 0 {
		l = l.kid(0)
	}
	at, _ := tree.Inner(d.Tree, l.indices...)
	return at.From
}

// end returns the offset at which a node ends.
func (d *document) end(l located) int {
	at, _ := tree.Whole(d.Tree, l.indices...)
	return at.To
}

// lineEnd returns the line end at an offset.
func (d *document) lineEnd(at int) int {
	n := strings.IndexByte(d.src[at:], '\n')
	if n < 0 {
		return len(d.src)
	}
	if n > 0 && d.src[at+n-1] == '\r' {
		n--
	}
	return at + n
}

// lineStart returns the offset at which the line of an offset begins.
func (d *document) lineStart(at int) int { return strings.LastIndexByte(d.src[:at], '\n') + 1 }

// column returns the column of an offset.
func (d *document) column(at int) int { return at - d.lineStart(at) }

// valueOf returns the value of an entry.
func valueOf(entry located) located {
	i := slices.IndexFunc(entry.node.Kids, func(n api.Node) bool { return n.Kind != api.NKey && n.Kind != api.NMark })
	return entry.kid(max(i, 0))
}

// ownEntry returns the entry of a key-table source whose value is at a path, if
// it is not in an inline table.
func (d *document) ownEntry(p []api.Step) (located, bool) {
	if d.Format != api.FmtTable {
		return located{}, false
	}
	indices, err := reader.Locate(d.Doc, p)
	if err != api.OK || len(indices) < 2 {
		return located{}, false
	}
	indices = indices[:len(indices)-1]
	entry, _ := tree.Get(d.Tree, indices...)
	around, _ := tree.Get(d.Tree, indices[:len(indices)-1]...)
	ok := entry.Kind == api.NEntry && (around.Kind == api.NDocument || around.Kind == api.NTable)
	return located{indices, entry}, ok
}

func insertAt(at int, text string) api.Edit {
	return api.Edit{At: api.Span{From: at, To: at}, Text: text}
}

func cut(from, to int, text string) api.Edit {
	return api.Edit{At: api.Span{From: from, To: to}, Text: text}
}
