package indent

import (
	"strings"
	"unicode/utf8"

	"datakit/api"
	"datakit/indentlex"
	"datakit/source"
	"datakit/value"
)

// Write returns a source.
func Write(v api.Value, s api.Style) (string, api.Errno) {
	if err := value.Check(v); err != api.OK {
		return "", err
	}
	if s.Indent < 1 || s.Indent > 8 || s.Width < 0 {
		return "", api.ErrArg
	}
	if s.Sort {
		v = value.Sorted(v)
	}
	w := &writer{style: s}
	switch {
	case literal(v):
		w.literal(v.Text, 0)
	case w.nested(v, -1):
		w.block(v, 0)
	default:
		w.inline(v)
		w.add("\n")
	}
	return w.result()
}

// Inline returns a value on one line.
func Inline(v api.Value) (string, api.Errno) {
	if err := value.Check(v); err != api.OK {
		return "", err
	}
	w := &writer{}
	w.inline(v)
	return w.result()
}

// writer collects a text; it drops what would make the text too large.
type writer struct {
	out   strings.Builder
	full  bool
	style api.Style
}

func (w *writer) add(s string) {
	if w.full || w.out.Len()+len(s) > api.MaxInput {
		w.full = true
		return
	}
	w.out.WriteString(s)
}

func (w *writer) result() (string, api.Errno) {
	if w.full {
		return "", api.ErrSize
	}
	return w.out.String(), api.OK
}

func keyText(key string) string {
	if source.Simple(key) {
		return key
	}
	text, _ := indentlex.Quote(key)
	return text
}

func (w *writer) inline(v api.Value) {
	if w.full {
		return
	}
	switch v.Kind {
	case api.VList:
		w.add("[")
		for i, x := range v.List {
			w.add(between(i))
			w.inline(x)
		}
		w.add("]")
	case api.VMap:
		w.add("{")
		for i, f := range v.Fields {
			w.add(between(i) + keyText(f.Key) + ": ")
			w.inline(f.Val)
		}
		w.add("}")
	default:
		text, _ := indentlex.Show(v)
		w.add(text)
	}
}

func between(i int) string {
	if i == 0 {
		return ""
	}
	return ", "
}

// literal reports whether a value is a literal string.
func literal(v api.Value) bool {
	if v.Kind != api.VText || !strings.Contains(v.Text, "\n") {
		return false
	}
	for i := range len(v.Text) {
		if v.Text[i] < 32 && v.Text[i] != '\n' {
			return false
		}
	}
	lines := strings.Split(strings.TrimSuffix(v.Text, "\n"), "\n")
	if lines[0] == "" || lines[0][0] == ' ' || lines[len(lines)-1] == "" {
		return false
	}
	for _, line := range lines {
		if line != "" && strings.Trim(line, " ") == "" {
			return false
		}
	}
	return true
}

// literal writes a literal string in an entry of a block with an indentation.
func (w *writer) literal(s string, indentation int) {
	body, ended := strings.CutSuffix(s, "\n")
	if ended {
		w.add("|\n")
	} else {
		w.add("|-\n")
	}
	margin := strings.Repeat(" ", indentation+w.style.Indent)
	for line := range strings.SplitSeq(body, "\n") {
		if line != "" {
			w.add(margin)
		}
		w.add(line + "\n")
	}
}

// nested reports whether a value after some characters on its line has lines of
// its own. One space stands before it; at the beginning of a source there are
// less characters than none.
func (w *writer) nested(v api.Value, before int) bool {
	if len(v.List)+len(v.Fields) == 0 {
		return false
	}
	return w.style.Width == 0 || room(v, w.style.Width-before-1) < 0
}

// room returns how many characters are left of some behind the inline text of a
// value; it stops when there are none, so that long values cost little.
func room(v api.Value, left int) int {
	switch v.Kind {
	case api.VList:
		left -= 2 + 2*max(len(v.List)-1, 0)
		for i := 0; i < len(v.List) && left >= 0; i++ {
			left = room(v.List[i], left)
		}
		return left
	case api.VMap:
		left -= 2 + 2*max(len(v.Fields)-1, 0)
		for i := 0; i < len(v.Fields) && left >= 0; i++ {
			f := v.Fields[i]
			left = room(f.Val, left-utf8.RuneCountInString(keyText(f.Key))-2)
		}
		return left
	}
	text, _ := indentlex.Show(v)
	return left - utf8.RuneCountInString(text)
}

// block writes the block text of a list or a map at an indentation.
func (w *writer) block(v api.Value, indentation int) {
	w.add(strings.Repeat(" ", indentation))
	w.entries(v, indentation)
}

// entries writes a block text without the spaces at its beginning.
func (w *writer) entries(v api.Value, indentation int) {
	margin := strings.Repeat(" ", indentation)
	for i, x := range v.List {
		if i > 0 {
			w.add(margin)
		}
		w.add("-")
		w.item(x, indentation, indentation+1, true)
	}
	for i, f := range v.Fields {
		key := keyText(f.Key) + ":"
		if i > 0 {
			w.add(margin)
		}
		w.add(key)
		w.item(f.Val, indentation, indentation+utf8.RuneCountInString(key), false)
	}
}

// item writes the item text of a value after some characters on its line.
func (w *writer) item(v api.Value, indentation, before int, dash bool) {
	if w.full {
		return
	}
	switch {
	case literal(v):
		w.add(" ")
		w.literal(v.Text, indentation)
	case !w.nested(v, before):
		w.add(" ")
		w.inline(v)
		w.add("\n")
	case dash && v.Kind == api.VMap:
		w.add(" ")
		w.entries(v, indentation+2)
	default:
		w.add("\n")
		w.block(v, indentation+w.style.Indent)
	}
}
