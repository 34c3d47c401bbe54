package layout

import (
	"strings"
	"unicode/utf8"

	"datakit/api"
	"datakit/bracelex"
	"datakit/tablelex"
)

// printer writes a source. It counts the characters of the line.
type printer struct {
	out     strings.Builder
	line    int
	last    byte // that was written
	style   api.Style
	table   bool
	compact bool
}

func (w *printer) add(s string) {
	if s == "" {
		return
	}
	w.out.WriteString(s)
	w.last = s[len(s)-1]
	if at := strings.LastIndexByte(s, '\n'); at >= 0 {
		w.line = 0
		s = s[at+1:]
	}
	w.line += utf8.RuneCountInString(s)
}

// end ends a line. A carriage return at its end belongs to a comment or to a
// literal line; another one keeps it there.
func (w *printer) end() {
	if w.last == '\r' {
		w.add("\r")
	}
	w.add("\n")
}

func (w *printer) margin(level int) { w.add(strings.Repeat(" ", w.style.Indent*level)) }

// comment writes a comment on a line of its own.
func (w *printer) comment(level int, text string) {
	w.margin(level)
	w.add(text)
	w.end()
}

// notes are the comments of some trivia: those that trail what stands before it,
// and the others.
type notes struct{ trailing, own []string }

func (n notes) all() []string { return append(n.trailing[:len(n.trailing):len(n.trailing)], n.own...) }

// notesIn finds the comments of trivia.
func (w *printer) notesIn(trivia string) notes {
	var tokens []api.Token
	if w.table {
		tokens, _, _ = tablelex.Tokens(trivia)
	} else {
		tokens, _, _ = bracelex.Tokens(trivia)
	}
	var n notes
	first := true
	for _, t := range tokens {
		if t.Kind == api.TokComment {
			if first {
				n.trailing = append(n.trailing, t.Text)
			} else {
				n.own = append(n.own, t.Text)
			}
		}
		if t.Kind == api.TokLine || t.Kind == api.TokComment && !strings.HasPrefix(t.Text, "/*") {
			first = false
		}
	}
	return n
}

// hasComments reports whether there are comments in a node.
func (w *printer) hasComments(n *api.Node) bool {
	for i := range n.Kids {
		if len(w.notesIn(n.Kids[i].Lead).all()) > 0 || w.hasComments(&n.Kids[i]) {
			return true
		}
	}
	return n.Tail != "" && len(w.notesIn(inside(n)).all()) > 0
}

// inside returns the Tail of a list or a map without the bracket.
func inside(n *api.Node) string { return n.Tail[:len(n.Tail)-1] }

func bracket(n *api.Node) string { return n.Tail[len(n.Tail)-1:] }

// valueOf returns the value of an entry.
func valueOf(entry *api.Node) *api.Node {
	if entry.Kids[0].Kind == api.NKey {
		return &entry.Kids[2]
	}
	return &entry.Kids[0]
}

// comma returns the Lead of the comma of an entry, if there is one.
func comma(entry *api.Node) string {
	last := &entry.Kids[len(entry.Kids)-1]
	if last.Kind == api.NMark {
		return last.Lead
	}
	return ""
}

// gap returns the comments between an entry of a node and what follows it.
func (w *printer) gap(n *api.Node, i int) notes {
	entry := &n.Kids[i]
	if i+1 < len(n.Kids) {
		return w.notesIn(comma(entry) + n.Kids[i+1].Kids[0].Lead)
	}
	return w.notesIn(comma(entry) + inside(n))
}

// key returns the Text of the key of an entry of a map with what follows it.
func (w *printer) key(entry *api.Node) string {
	if entry.Kids[0].Kind != api.NKey {
		return ""
	}
	key := entry.Kids[0].Text
	switch {
	case w.table && w.compact:
		return key + "="
	case w.table:
		return key + " = "
	case w.compact:
		return key + ":"
	}
	return key + ": "
}

func (w *printer) between() string {
	if w.compact {
		return ","
	}
	return ", "
}

// inline returns the inline layout of a node.
func (w *printer) inline(n *api.Node) string {
	var out strings.Builder
	w.writeInline(&out, n)
	return out.String()
}

func (w *printer) writeInline(out *strings.Builder, n *api.Node) {
	out.WriteString(n.Text)
	if n.Kind == api.NScalar {
		return
	}
	for i := range n.Kids {
		if i > 0 {
			out.WriteString(w.between())
		}
		out.WriteString(w.key(&n.Kids[i]))
		w.writeInline(out, valueOf(&n.Kids[i]))
	}
	out.WriteString(bracket(n))
}

// node writes the layout of a node at a level.
func (w *printer) node(n *api.Node, level int) {
	if n.Kind == api.NScalar || w.compact {
		w.add(w.inline(n))
		return
	}
	comments := w.hasComments(n)
	switch {
	case len(n.Kids) == 0 && !comments:
		w.add(n.Text + bracket(n))
	case w.table && n.Kind == api.NMap:
		w.inlineTable(n, level)
	case !comments && w.fits(n):
		w.add(w.inline(n))
	default:
		w.entries(n, level)
	}
}

func (w *printer) fits(n *api.Node) bool {
	return w.style.Width > 0 && w.line+utf8.RuneCountInString(w.inline(n)) <= w.style.Width
}

func (w *printer) inlineTable(n *api.Node, level int) {
	w.add("{")
	for i := range n.Kids {
		if i > 0 {
			w.add(", ")
		}
		w.add(w.key(&n.Kids[i]))
		w.node(valueOf(&n.Kids[i]), level)
	}
	w.add("}")
}

// entries writes a list or a map with a line for each entry.
func (w *printer) entries(n *api.Node, level int) {
	w.add(n.Text)
	w.end()
	var gap notes
	for i := range n.Kids {
		entry := &n.Kids[i]
		before := gap.own
		if i == 0 {
			before = w.notesIn(entry.Kids[0].Lead).all()
		}
		for _, text := range before {
			w.comment(level+1, text)
		}
		for j := 1; j <= 2 && entry.Kids[0].Kind == api.NKey; j++ {
			for _, text := range w.notesIn(entry.Kids[j].Lead).all() {
				w.comment(level+1, text)
			}
		}
		w.margin(level + 1)
		w.add(w.key(entry))
		w.node(valueOf(entry), level+1)
		if i+1 < len(n.Kids) {
			w.add(",")
		}
		gap = w.gap(n, i)
		w.trailing(gap)
	}
	if len(n.Kids) == 0 {
		gap.own = w.notesIn(inside(n)).all()
	}
	for _, text := range gap.own {
		w.comment(level+1, text)
	}
	w.margin(level)
	w.add(bracket(n))
}

// trailing writes trailing comments and ends the line.
func (w *printer) trailing(n notes) {
	for _, text := range n.trailing {
		w.add(" " + text)
	}
	w.end()
}
