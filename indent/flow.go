package indent

import (
	"strings"

	"datakit/api"
	"datakit/indentlex"
	"datakit/source"
)

// flow reads lists and maps on one line.
type flow struct {
	*parser
	text string // the content of the line
	base int    // its offset in the source
	at   int    // the offset in it
}

// peek returns the next byte, or 0 at the end of the content.
func (f *flow) peek() byte {
	if f.at < len(f.text) {
		return f.text[f.at]
	}
	return 0
}

func (f *flow) skip() {
	for f.peek() == ' ' {
		f.at++
	}
}

// wrong leaves the parser since the next byte, or the end, cannot follow.
func (f *flow) wrong() { fail(f.base+f.at, api.ErrSyntax) }

// end expects the end of the content.
func (f *flow) end() {
	f.skip()
	if f.at < len(f.text) {
		f.wrong()
	}
}

// take makes a node of the next bytes.
func (f *flow) take(kind, size int) api.Node {
	from := f.base + f.at
	f.at += size
	return f.token(kind, from, from+size)
}

// value reads a value. It says whether it follows an anchor.
func (f *flow) value(depth int, anchor bool) (api.Node, int) {
	f.skip()
	switch c := f.peek(); {
	case c == '[' || c == '{':
		return f.entries(c, depth)
	case c == '&':
		return f.anchorValue(depth, anchor)
	case c == '*':
		size := nameSize(f.text[f.at:])
		if size == 0 || f.at+size < len(f.text) && strings.IndexByte(" ,[]{}", f.text[f.at+size]) < 0 {
			f.wrong()
		}
		n, d := f.alias(f.base+f.at, size, depth)
		f.at += size
		return n, d
	}
	size := f.extent()
	if size == 0 {
		f.wrong()
	}
	n := f.scalar(f.base+f.at, size, depth)
	f.at += size
	return n, 1
}

func (f *flow) anchorValue(depth int, anchor bool) (api.Node, int) {
	size := nameSize(f.text[f.at:])
	if anchor || size == 0 || !strings.HasPrefix(f.text[f.at+size:], " ") {
		f.wrong()
	}
	return f.anchor(f.base+f.at, size, func() (api.Node, int) {
		f.at += size
		return f.value(depth, true)
	})
}

// extent returns the length of the scalar or the key that begins at the next byte.
func (f *flow) extent() int {
	rest := f.text[f.at:]
	if rest != "" && (rest[0] == '\'' || rest[0] == '"') {
		if size := source.Partner(rest); size > 0 {
			return size
		}
		return len(rest)
	}
	size := 0
	for size < len(rest) && strings.IndexByte(",[]{}", rest[size]) < 0 && !colonEnds(rest[size:]) {
		size++
	}
	return len(strings.TrimRight(rest[:size], " "))
}

// colonEnds reports whether a text begins with a colon that ends a flow scalar.
func colonEnds(s string) bool {
	return s[0] == ':' && (len(s) == 1 || strings.IndexByte(" ,[]{}", s[1]) >= 0)
}

// entries reads a list or a map.
func (f *flow) entries(open byte, depth int) (api.Node, int) {
	kind, end, entry := api.NList, byte(']'), f.element
	if open == '{' {
		keys := map[string]bool{}
		kind, end = api.NMap, '}'
		entry = func(depth int) ([]api.Node, int) { return f.field(keys, depth) }
	}
	f.begin(f.base+f.at, depth)
	n := f.take(kind, 1)
	deepest := 0
	f.skip()
	for f.peek() != end {
		kids, d := entry(depth + 1)
		deepest = max(deepest, d)
		f.skip()
		comma := f.peek() == ','
		if comma {
			kids = append(kids, f.take(api.NMark, 1))
			f.skip()
		}
		n.Kids = append(n.Kids, api.Node{Kind: api.NEntry, Kids: kids})
		if !comma && f.peek() != end {
			f.wrong()
		}
	}
	closing := f.take(api.NMark, 1)
	n.Tail = closing.Lead + closing.Text
	return n, deepest + 1
}

func (f *flow) element(depth int) ([]api.Node, int) {
	n, d := f.value(depth, false)
	return []api.Node{n}, d
}

func (f *flow) field(keys map[string]bool, depth int) ([]api.Node, int) {
	size := f.extent()
	if size == 0 {
		f.wrong()
	}
	key, err := flowKey(f.text[f.at : f.at+size])
	if err == api.OK && keys[key] {
		err = api.ErrExists
	}
	if err != api.OK {
		fail(f.base+f.at, err)
	}
	keys[key] = true
	name := f.take(api.NKey, size)
	f.skip()
	if f.peek() != ':' {
		f.wrong()
	}
	colon := f.take(api.NMark, 1)
	n, d := f.value(depth, false)
	return []api.Node{name, colon, n}, d
}

// flowKey returns the key that a text is.
func flowKey(text string) (string, api.Errno) {
	for i := range len(text) {
		if text[i] < 32 {
			return "", api.ErrText
		}
	}
	if text[0] == '\'' || text[0] == '"' {
		if _, err := indentlex.Unquote(text); err == api.ErrText {
			return "", err
		}
	}
	key, size, err := indentlex.Key(text + ":")
	if err == api.ErrNotFound || err == api.OK && size != len(text) {
		return "", api.ErrSyntax
	}
	return key, err
}
