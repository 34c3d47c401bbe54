package layout

import (
	"strings"

	"datakit/api"
	"datakit/indentlex"
)

// braces writes a source of the brace format.
func (w *printer) braces(n *api.Node) {
	root := &n.Kids[0]
	if w.compact {
		w.node(root, 0)
		return
	}
	for _, text := range w.notesIn(root.Lead).all() {
		w.comment(0, text)
	}
	w.node(root, 0)
	tail := w.notesIn(n.Tail)
	w.trailing(tail)
	for _, text := range tail.own {
		w.comment(0, text)
	}
}

// element is a header, or an entry that is not in an inline table.
type element struct {
	lead  string
	text  string
	value *api.Node // of an entry
}

func (w *printer) elementsOf(n *api.Node, list []element) []element {
	for i := range n.Kids {
		kid := &n.Kids[i]
		if kid.Kind == api.NTable {
			list = append(list, element{lead: kid.Lead, text: kid.Text})
			list = w.elementsOf(kid, list)
		} else {
			list = append(list, element{lead: kid.Kids[0].Lead, text: w.key(kid), value: valueOf(kid)})
		}
	}
	return list
}

// elements writes a source of the key-table format.
func (w *printer) elements(n *api.Node) {
	list := w.elementsOf(n, nil)
	for i, e := range list {
		before := w.notesIn(e.lead)
		if w.compact {
			before = notes{}
		}
		if e.value == nil && !w.compact && w.out.Len() > 0 {
			w.end()
		}
		own := before.own
		if i == 0 {
			own = before.all()
		}
		for _, text := range own {
			w.comment(0, text)
		}
		w.add(e.text)
		if e.value != nil {
			w.node(e.value, 0)
		}
		after := n.Tail
		if i+1 < len(list) {
			after = list[i+1].lead
		}
		gap := w.notesIn(after)
		if w.compact {
			gap = notes{}
		}
		w.trailing(gap)
	}
	if w.compact {
		return
	}
	last := w.notesIn(n.Tail)
	if len(list) == 0 {
		last.own = last.all()
	}
	for _, text := range last.own {
		w.comment(0, text)
	}
}

// marker finds the lines that belong to literal blocks, without the lines on
// which these begin.
type marker struct {
	lines  []api.Line
	marked []bool
	at     int // the offset in the source
	line   int
}

func (m *marker) visit(n *api.Node) {
	m.at += len(n.Lead)
	if n.Kind == api.NScalar && strings.HasPrefix(n.Text, "|") {
		for m.line+1 < len(m.lines) && m.lines[m.line+1].At <= m.at {
			m.line++
		}
		for m.line+1 < len(m.lines) && m.lines[m.line+1].At < m.at+len(n.Text) {
			m.line++
			m.marked[m.line] = true
		}
	}
	m.at += len(n.Text)
	for i := range n.Kids {
		m.visit(&n.Kids[i])
	}
	m.at += len(n.Tail)
}

// lines writes a source of the indentation format.
func (w *printer) lines(n *api.Node, src string) {
	lines, _, _ := indentlex.Lines(src)
	m := &marker{lines: lines, marked: make([]bool, len(lines))}
	m.visit(n)
	literal := m.marked
	noted := func(l api.Line) bool { return !w.compact && strings.Contains(l.Comment, "#") }
	last := -1
	for i, l := range lines {
		if literal[i] || l.Text != "" || noted(l) {
			last = i
		}
	}
	full := false // the line before has something
	for i, l := range lines {
		switch {
		case literal[i]:
			w.add(strings.Repeat(" ", l.Indent) + l.Text + l.Comment)
			w.end()
			full = true
		case l.Text != "" || noted(l):
			w.contents(l, noted(l))
			full = true
		default:
			if full && i < last && !w.compact {
				w.add("\n")
			}
			full = false
		}
	}
}

func (w *printer) contents(l api.Line, noted bool) {
	w.add(strings.Repeat(" ", l.Indent) + l.Text)
	if noted {
		if l.Text != "" {
			w.add(" ")
		}
		w.add(l.Comment[strings.IndexByte(l.Comment, '#'):])
	}
	w.end()
}

// records writes a delimited file.
func (w *printer) records(n *api.Node) {
	for i := range n.Kids {
		for j := range n.Kids[i].Kids {
			for _, kid := range n.Kids[i].Kids[j].Kids {
				w.add(kid.Text)
			}
		}
		w.add("\n")
	}
}
