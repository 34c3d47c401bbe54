package brace

import (
	"strings"
	"unicode/utf8"

	"datakit/api"
	"datakit/base"
	"datakit/bracelex"
	"datakit/moment"
	"datakit/source"
	"datakit/value"
)

// Write returns a source.
func Write(v api.Value, s api.Style) (string, api.Errno) {
	if err := value.Check(v); err != api.OK {
		return "", err
	}
	if s.Indent < 1 || s.Indent > 8 || s.Width < 0 {
		return "", api.ErrArg
	}
	if s.Sort {
		v = value.Sorted(v)
	}
	w := &writer{style: s}
	w.styled(v, 0, 0)
	w.add("\n")
	return w.result()
}

// Inline returns a value on one line.
func Inline(v api.Value) (string, api.Errno) {
	if err := value.Check(v); err != api.OK {
		return "", err
	}
	w := &writer{}
	w.inline(v)
	return w.result()
}

// writer collects a text; it drops what would make the text too large.
type writer struct {
	out   strings.Builder
	full  bool
	style api.Style
}

func (w *writer) add(s string) {
	if w.full || w.out.Len()+len(s) > api.MaxInput {
		w.full = true
		return
	}
	w.out.WriteString(s)
}

func (w *writer) result() (string, api.Errno) {
	if w.full {
		return "", api.ErrSize
	}
	return w.out.String(), api.OK
}

// scalarText returns the inline text of a scalar.
func scalarText(v api.Value) string {
	text := ""
	switch v.Kind {
	case api.VNull:
		return "null"
	case api.VBool:
		if v.Bool {
			return "true"
		}
		return "false"
	case api.VNum:
		return source.Number(v.Num)
	case api.VTime:
		text, _ = bracelex.Quote(moment.Text(v.Time))
		return "t" + text
	case api.VBytes:
		text, _ = bracelex.Quote(base.Encode(v.Bytes, true))
		return "b" + text
	}
	text, _ = bracelex.Quote(v.Text)
	return text
}

func keyText(key string) string {
	if bracelex.Bare(key) {
		return key
	}
	text, _ := bracelex.Quote(key)
	return text
}

func (w *writer) inline(v api.Value) {
	if w.full {
		return
	}
	switch v.Kind {
	case api.VList:
		for i, x := range v.List {
			w.add(opening("[", i))
			w.inline(x)
		}
		w.add(closing("[", "]", len(v.List)))
	case api.VMap:
		for i, f := range v.Fields {
			w.add(opening("{", i))
			w.add(keyText(f.Key) + ": ")
			w.inline(f.Val)
		}
		w.add(closing("{", "}", len(v.Fields)))
	default:
		w.add(scalarText(v))
	}
}

// opening returns what stands before an entry on one line.
func opening(bracket string, i int) string {
	if i == 0 {
		return bracket
	}
	return ", "
}

// closing returns what stands behind n entries on one line.
func closing(open, end string, n int) string {
	if n == 0 {
		return open + end
	}
	return end
}

// styled writes a value at a level, after some characters on its line.
func (w *writer) styled(v api.Value, level, before int) {
	if w.full {
		return
	}
	if len(v.List)+len(v.Fields) == 0 || w.style.Width > 0 && room(v, w.style.Width-before) >= 0 {
		w.inline(v)
		return
	}
	margin := strings.Repeat(" ", w.style.Indent*level)
	inner := margin + strings.Repeat(" ", w.style.Indent)
	if v.Kind == api.VList {
		w.add("[")
		for i, x := range v.List {
			w.add(lineBefore(i) + inner)
			w.styled(x, level+1, len(inner))
		}
		w.add("\n" + margin + "]")
		return
	}
	w.add("{")
	for i, f := range v.Fields {
		key := keyText(f.Key) + ": "
		w.add(lineBefore(i) + inner + key)
		w.styled(f.Val, level+1, len(inner)+utf8.RuneCountInString(key))
	}
	w.add("\n" + margin + "}")
}

func lineBefore(i int) string {
	if i == 0 {
		return "\n"
	}
	return ",\n"
}

// room returns how many characters are left of some behind the inline text of a
// value; it stops when there are none, so that long values cost little.
func room(v api.Value, left int) int {
	switch v.Kind {
	case api.VList:
		left -= 2 + 2*max(len(v.List)-1, 0)
		for i := 0; i < len(v.List) && left >= 0; i++ {
			left = room(v.List[i], left)
		}
		return left
	case api.VMap:
		left -= 2 + 2*max(len(v.Fields)-1, 0)
		for i := 0; i < len(v.Fields) && left >= 0; i++ {
			f := v.Fields[i]
			left = room(f.Val, left-utf8.RuneCountInString(keyText(f.Key))-2)
		}
		return left
	}
	return left - utf8.RuneCountInString(scalarText(v))
}
