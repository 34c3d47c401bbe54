package table

import (
	"slices"
	"strings"
	"unicode/utf8"

	"datakit/api"
	"datakit/section"
	"datakit/tablelex"
	"datakit/value"
)

// Write returns a source.
func Write(v api.Value, s api.Style) (string, api.Errno) {
	if err := value.Check(v); err != api.OK {
		return "", err
	}
	if s.Indent < 1 || s.Indent > 8 || s.Width < 0 {
		return "", api.ErrArg
	}
	if err := section.Able(v); err != api.OK {
		return "", err
	}
	if s.Sort {
		v = value.Sorted(v)
	}
	list, err := section.Flatten(v)
	if err != api.OK {
		return "", err
	}
	w := &writer{style: s}
	for i, a := range list {
		w.assign(a, i == 0)
	}
	return w.result()
}

// Inline returns a value on one line.
func Inline(v api.Value) (string, api.Errno) {
	if err := value.Check(v); err != api.OK {
		return "", err
	}
	if lossy(v) {
		return "", api.ErrLoss
	}
	w := &writer{}
	w.inline(v)
	return w.result()
}

// lossy reports whether null or binary data is in a value.
func lossy(v api.Value) bool {
	if slices.ContainsFunc(v.List, lossy) {
		return true
	}
	for _, f := range v.Fields {
		if lossy(f.Val) {
			return true
		}
	}
	return v.Kind == api.VNull || v.Kind == api.VBytes
}

// writer collects a text; it drops what would make the text too large.
type writer struct {
	out   strings.Builder
	full  bool
	style api.Style
}

func (w *writer) add(s string) {
	if w.full || w.out.Len()+len(s) > api.MaxInput {
		w.full = true
		return
	}
	w.out.WriteString(s)
}

func (w *writer) result() (string, api.Errno) {
	if w.full {
		return "", api.ErrSize
	}
	return w.out.String(), api.OK
}

func (w *writer) assign(a api.Assign, first bool) {
	if !a.Table {
		key := keyText(a.Keys[0]) + " = "
		w.add(key)
		w.styled(a.Val, 0, utf8.RuneCountInString(key))
		w.add("\n")
		return
	}
	if !first {
		w.add("\n")
	}
	open, end := "[", "]\n"
	if a.Element {
		open, end = "[[", "]]\n"
	}
	w.add(open)
	for i, key := range a.Keys {
		if i > 0 {
			w.add(".")
		}
		w.add(keyText(key))
	}
	w.add(end)
}

func keyText(key string) string {
	if tablelex.Bare(key) {
		return key
	}
	text, _ := tablelex.Quote(key)
	return text
}

func between(i int) string {
	if i == 0 {
		return ""
	}
	return ", "
}

func (w *writer) inline(v api.Value) {
	if w.full {
		return
	}
	switch v.Kind {
	case api.VList:
		w.add("[")
		for i, x := range v.List {
			w.add(between(i))
			w.inline(x)
		}
		w.add("]")
	case api.VMap:
		w.add("{")
		for i, f := range v.Fields {
			w.add(between(i) + keyText(f.Key) + " = ")
			w.inline(f.Val)
		}
		w.add("}")
	default:
		text, _ := tablelex.Show(v)
		w.add(text)
	}
}

// styled writes a value at a level, after some characters on its line.
func (w *writer) styled(v api.Value, level, before int) {
	if w.full {
		return
	}
	if len(v.List) == 0 || w.style.Width > 0 && room(v, w.style.Width-before) >= 0 {
		w.inline(v)
		return
	}
	margin := strings.Repeat(" ", w.style.Indent*level)
	inner := margin + strings.Repeat(" ", w.style.Indent)
	w.add("[\n")
	for i, x := range v.List {
		if i > 0 {
			w.add(",\n")
		}
		w.add(inner)
		w.styled(x, level+1, len(inner))
	}
	w.add("\n" + margin + "]")
}

// room returns how many characters are left of some behind the inline text of a
// value; it stops when there are none, so that long values cost little.
func room(v api.Value, left int) int {
	switch v.Kind {
	case api.VList:
		left -= 2 + 2*max(len(v.List)-1, 0)
		for i := 0; i < len(v.List) && left >= 0; i++ {
			left = room(v.List[i], left)
		}
		return left
	case api.VMap:
		left -= 2 + 2*max(len(v.Fields)-1, 0)
		for i := 0; i < len(v.Fields) && left >= 0; i++ {
			f := v.Fields[i]
			left = room(f.Val, left-utf8.RuneCountInString(keyText(f.Key))-3)
		}
		return left
	}
	text, _ := tablelex.Show(v)
	return left - utf8.RuneCountInString(text)
}
