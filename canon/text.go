package canon

import (
	"strings"

	"datakit/api"
	"datakit/base"
	"datakit/decimal"
	"datakit/moment"
	"datakit/utf"
	"datakit/value"
)

// Text returns the canonical text.
func Text(v api.Value) (string, api.Errno) {
	if e := value.Check(v); e != api.OK {
		return "", e
	}
	var b strings.Builder
	write(&b, v)
	return b.String(), api.OK
}

// write appends the canonical text of a valid value.
func write(b *strings.Builder, v api.Value) {
	switch v.Kind {
	case api.VNull:
		b.WriteString("null")
	case api.VBool:
		if v.Bool {
			b.WriteString("true")
		} else {
			b.WriteString("false")
		}
	case api.VNum:
		b.WriteString(decimal.Text(v.Num))
	case api.VTime:
		b.WriteString(`t"` + moment.Text(v.Time) + `"`)
	case api.VText:
		quote(b, v.Text)
	case api.VBytes:
		b.WriteString(`b"` + base.Encode(v.Bytes, true) + `"`)
	case api.VList:
		b.WriteByte('[')
		for i, x := range v.List {
			comma(b, i)
			write(b, x)
		}
		b.WriteByte(']')
	case api.VMap:
		b.WriteByte('{')
		for i, f := range byKey(v.Fields) {
			comma(b, i)
			quote(b, f.Key)
			b.WriteByte(':')
			write(b, f.Val)
		}
		b.WriteByte('}')
	}
}

func comma(b *strings.Builder, i int) {
	if i > 0 {
		b.WriteByte(',')
	}
}

// The bytes that have an escape of one letter, and these letters.
const (
	short   = "\"\\\b\f\n\r\t"
	letters = `"\bfnrt`
)

func quote(b *strings.Builder, s string) {
	const hex = "0123456789abcdef"
	b.WriteByte('"')
	for i := range len(s) {
		c := s[i]
		if at := strings.IndexByte(short, c); at >= 0 {
			b.WriteByte('\\')
			b.WriteByte(letters[at])
		} else if c < 32 {
			b.WriteString(`\u00`)
			b.WriteByte(hex[c>>4])
			b.WriteByte(hex[c&15])
		} else {
			b.WriteByte(c)
		}
	}
	b.WriteByte('"')
}

// Read returns the value of a canonical text.
func Read(s string) (api.Value, api.Errno) {
	if len(s) > api.MaxInput {
		return api.Value{}, api.ErrSize
	}
	if !utf.Valid(s) {
		return api.Value{}, api.ErrText
	}
	r := reader{rest: s}
	v := r.value(1)
	if r.bad || r.rest != "" {
		return api.Value{}, api.ErrSyntax
	}
	// The reader is lenient; only the canonical text is accepted.
	if text, e := Text(v); e != api.OK || text != s {
		return api.Value{}, api.ErrSyntax
	}
	return v, api.OK
}

// reader reads a text until something is wrong.
type reader struct {
	rest string
	bad  bool
}

// take reports whether the rest begins with a text, and removes it then.
func (r *reader) take(s string) bool {
	rest, ok := strings.CutPrefix(r.rest, s)
	r.rest = rest
	return ok
}

func (r *reader) value(depth int) api.Value {
	if depth > api.MaxDepth || r.bad {
		r.bad = true
		return api.Value{}
	}
	switch {
	case r.take("null"):
		return value.Null()
	case r.take("true"):
		return value.Bool(true)
	case r.take("false"):
		return value.Bool(false)
	case r.take(`t"`):
		t, e := moment.Parse(r.text())
		r.bad = r.bad || e != api.OK
		return value.Time(t)
	case r.take(`b"`):
		b, e := base.Decode(r.text(), true)
		r.bad = r.bad || e != api.OK
		return api.Value{Kind: api.VBytes, Bytes: b}
	case r.take(`"`):
		return value.Text(r.text())
	case r.take("["):
		return api.Value{Kind: api.VList, List: r.list(depth)}
	case r.take("{"):
		return api.Value{Kind: api.VMap, Fields: r.fields(depth)}
	}
	return r.number()
}

func (r *reader) number() api.Value {
	end := strings.IndexAny(r.rest, ",]}")
	if end < 0 {
		end = len(r.rest)
	}
	d, e := decimal.Parse(r.rest[:end])
	r.bad = r.bad || e != api.OK
	r.rest = r.rest[end:]
	return value.Num(d)
}

func (r *reader) list(depth int) []api.Value {
	var l []api.Value
	if r.take("]") {
		return l
	}
	for !r.bad {
		l = append(l, r.value(depth+1))
		if r.take("]") {
			return l
		}
		r.bad = r.bad || !r.take(",")
	}
	return nil
}

func (r *reader) fields(depth int) []api.Field {
	var l []api.Field
	if r.take("}") {
		return l
	}
	for !r.bad {
		if !r.take(`"`) {
			break
		}
		key := r.text()
		if !r.take(":") {
			break
		}
		l = append(l, api.Field{Key: key, Val: r.value(depth + 1)})
		if r.take("}") {
			return l
		}
		r.bad = r.bad || !r.take(",")
	}
	r.bad = true
	return nil
}

// text reads a string behind its quotation mark.
func (r *reader) text() string {
	var b strings.Builder
	for i := 0; i < len(r.rest); i++ {
		c := r.rest[i]
		if c == '"' {
			r.rest = r.rest[i+1:]
			return b.String()
		}
		if c == '\\' {
			char, size := escaped(r.rest[i+1:])
			b.WriteByte(char)
			i += size
			continue
		}
		b.WriteByte(c)
	}
	r.bad = true
	return ""
}

// escaped returns the byte for which an escape stands, and the size of what follows its backslash; what is no escape is not written so.
func escaped(s string) (byte, int) {
	if s == "" {
		return 0, 0
	}
	if at := strings.IndexByte(letters, s[0]); at >= 0 {
		return short[at], 1
	}
	if len(s) >= 5 && s[0] == 'u' {
		b, e := base.Unhex(s[3:5])
		if e == api.OK {
			return b[0], 5
		}
	}
	return 0, 0
}
