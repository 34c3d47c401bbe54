package indent

import (
	"strings"

	"datakit/api"
	"datakit/indentlex"
	"datakit/limit"
	"datakit/source"
)

// fault is what the parser panics with: an error and its offset.
type fault struct {
	at  int
	err api.Errno
}

func fail(at int, err api.Errno) { panic(fault{at, err}) }

// anchored is what is known of an anchor.
type anchored struct {
	complete bool
	cost     int // how many values it names, with aliases replaced
	depth    int // of what it names
}

// parser reads a source; its functions leave by a panic.
type parser struct {
	src     string
	lines   []api.Line
	cur     int // the line that is being read
	done    int // the end of the last token
	limits  api.Limits
	values  int // values that have begun
	all     int // the same, with aliases replaced
	used    api.Usage
	anchors map[string]anchored
}

// Parse returns the tree of a source, or the offset of the error.
func Parse(src string, l api.Limits) (n api.Node, at int, err api.Errno) {
	if !limit.Valid(l) {
		return api.Node{}, 0, api.ErrArg
	}
	if len(src) > l.Bytes {
		return api.Node{}, 0, api.ErrSize
	}
	lines, at, err := indentlex.Lines(src)
	if err != api.OK {
		return api.Node{}, at, err
	}
	defer func() {
		if x := recover(); x != nil {
			f, ok := x.(fault)
			if !ok {
				panic(x)
			}
			n, at, err = api.Node{}, f.at, f.err
		}
	}()
	p := &parser{src: src, lines: lines, cur: -1, limits: l, anchors: map[string]anchored{}}
	return p.document(), 0, api.OK
}

func (p *parser) document() api.Node {
	root := api.Node{Kind: api.NScalar}
	if first := p.next(); first < len(p.lines) {
		root, _ = p.block(first, -1, 1, false)
		if rest := p.next(); rest < len(p.lines) {
			fail(p.start(rest), api.ErrIndent)
		}
	}
	return api.Node{Kind: api.NDocument, Kids: []api.Node{root}, Tail: p.src[p.done:]}
}

// next returns the next significant line.
func (p *parser) next() int {
	i := p.cur + 1
	for i < len(p.lines) && p.lines[i].Text == "" {
		i++
	}
	return i
}

// start returns the offset of the content of a line.
func (p *parser) start(line int) int { return p.lines[line].At + p.lines[line].Indent }

// lead returns the trivia before a token.
func (p *parser) lead(at int) string {
	lead := p.src[p.done:at]
	p.done = at
	return lead
}

// token makes a node of the token between two offsets.
func (p *parser) token(kind, from, to int) api.Node {
	lead := p.lead(from)
	p.done = to
	return api.Node{Kind: kind, Lead: lead, Text: p.src[from:to]}
}

// begin accounts for a value that begins at an offset.
func (p *parser) begin(at, depth int) {
	if depth > p.limits.Depth {
		fail(at, api.ErrDepth)
	}
	if p.values >= p.limits.Nodes || p.all >= api.MaxNodes {
		fail(at, api.ErrSize)
	}
	p.values++
	p.all++
}

// block reads the block that begins with a line; outer is the indentation of
// the block whose entry it belongs to. It returns the depth of its value, too.
func (p *parser) block(line, outer, depth int, anchor bool) (api.Node, int) {
	p.cur = line
	text := p.lines[line].Text
	if text[0] == '\t' {
		fail(p.start(line), api.ErrIndent)
	}
	if source.Dashed(text) {
		return p.list(depth)
	}
	if _, _, err := indentlex.Key(text); err != api.ErrNotFound {
		return p.fields(0, p.lines[line].Indent, depth)
	}
	return p.item(0, outer, depth, anchor, false)
}

// list reads a block list.
func (p *parser) list(depth int) (api.Node, int) {
	indentation, deepest := p.lines[p.cur].Indent, 0
	p.begin(p.start(p.cur), depth)
	n := api.Node{Kind: api.NList, Lead: p.lead(p.start(p.cur))}
	for {
		at := p.start(p.cur)
		if !source.Dashed(p.lines[p.cur].Text) {
			fail(at, api.ErrSyntax)
		}
		dash := p.token(api.NMark, at, at+1)
		element, d := p.item(1, indentation, depth+1, false, true)
		deepest = max(deepest, d)
		n.Kids = append(n.Kids, api.Node{Kind: api.NEntry, Kids: []api.Node{dash, element}})
		if !p.again(indentation) {
			return n, deepest + 1
		}
	}
}

// fields reads a block map whose first key begins at an offset of the content of
// the line.
func (p *parser) fields(off, indentation, depth int) (api.Node, int) {
	deepest := 0
	first := p.start(p.cur) + off
	p.begin(first, depth)
	n := api.Node{Kind: api.NMap, Lead: p.lead(first)}
	keys := map[string]bool{}
	for {
		at := p.start(p.cur) + off
		key, size, err := indentlex.Key(p.lines[p.cur].Text[off:])
		switch {
		case err == api.ErrNotFound:
			fail(at, api.ErrSyntax)
		case err != api.OK:
			fail(at, err)
		case keys[key]:
			fail(at, api.ErrExists)
		}
		keys[key] = true
		name := p.token(api.NKey, at, at+size)
		colon := p.token(api.NMark, at+size, at+size+1)
		x, d := p.item(off+size+1, indentation, depth+1, false, false)
		deepest = max(deepest, d)
		n.Kids = append(n.Kids, api.Node{Kind: api.NEntry, Kids: []api.Node{name, colon, x}})
		if !p.again(indentation) {
			return n, deepest + 1
		}
		off = 0
	}
}

// again reports whether the next significant line is the next entry of a block,
// and goes there.
func (p *parser) again(indentation int) bool {
	line := p.next()
	if line == len(p.lines) || p.lines[line].Indent < indentation {
		return false
	}
	if p.lines[line].Indent > indentation || p.lines[line].Text[0] == '\t' {
		fail(p.start(line), api.ErrIndent)
	}
	p.cur = line
	return true
}

// item reads an item at an offset of the content of the line. It says whether
// the item follows an anchor, and whether it follows a dash.
func (p *parser) item(off, outer, depth int, anchor, dash bool) (api.Node, int) {
	text := p.lines[p.cur].Text
	for off < len(text) && text[off] == ' ' {
		off++
	}
	at := p.start(p.cur) + off
	rest := text[off:]
	switch {
	case rest == "":
		return p.below(outer, depth, anchor)
	case rest[0] == '&':
		return p.anchorItem(off, outer, depth, anchor)
	case rest[0] == '*':
		size := nameSize(rest)
		if size == 0 || size < len(rest) {
			fail(at, api.ErrSyntax)
		}
		return p.alias(at, size, depth)
	case rest[0] == '[' || rest[0] == '{':
		f := &flow{parser: p, text: text, at: off, base: p.start(p.cur)}
		n, d := f.value(depth, false)
		f.end()
		return n, d
	case (rest == "|" || rest == "|-") && !strings.Contains(p.lines[p.cur].Comment, "#"):
		return p.literal(at, outer, depth), 1
	}
	if dash {
		if _, _, err := indentlex.Key(rest); err != api.ErrNotFound {
			return p.fields(off, p.lines[p.cur].Indent+off, depth)
		}
	}
	return p.scalar(at, len(rest), depth), 1
}

// below reads the item of an entry without content on its line: the block that
// follows, or null.
func (p *parser) below(outer, depth int, anchor bool) (api.Node, int) {
	line := p.next()
	if line < len(p.lines) && p.lines[line].Indent > outer {
		return p.block(line, outer, depth, anchor)
	}
	p.begin(p.done, depth)
	return api.Node{Kind: api.NScalar}, 1
}

// nameSize returns the length of the name that follows a first byte, with this
// byte, or 0 if there is none.
func nameSize(s string) int {
	size := 1
	for size < len(s) && nameByte(s[size]) {
		size++
	}
	if size == 1 || size > 1+api.MaxName {
		return 0
	}
	return size
}

func nameByte(c byte) bool {
	return 'a' <= c && c <= 'z' || 'A' <= c && c <= 'Z' || '0' <= c && c <= '9' || c == '_' || c == '-'
}

func (p *parser) anchorItem(off, outer, depth int, anchor bool) (api.Node, int) {
	text := p.lines[p.cur].Text
	at := p.start(p.cur) + off
	size := nameSize(text[off:])
	if anchor || size == 0 || off+size < len(text) && text[off+size] != ' ' {
		fail(at, api.ErrSyntax)
	}
	return p.anchor(at, size, func() (api.Node, int) {
		return p.item(off+size, outer, depth, true, false)
	})
}

// anchor reads what an anchor names.
func (p *parser) anchor(at, size int, named func() (api.Node, int)) (api.Node, int) {
	name := p.src[at+1 : at+size]
	if _, ok := p.anchors[name]; ok {
		fail(at, api.ErrExists)
	}
	p.anchors[name] = anchored{}
	n := p.token(api.NAnchor, at, at+size)
	before := p.all
	kid, depth := named()
	n.Kids = []api.Node{kid}
	p.anchors[name] = anchored{complete: true, cost: p.all - before, depth: depth}
	return n, depth
}

func (p *parser) alias(at, size, depth int) (api.Node, int) {
	p.begin(at, depth)
	named := p.anchors[p.src[at+1:at+size]]
	if !named.complete {
		fail(at, api.ErrAlias)
	}
	used, err := limit.Alias(p.limits, p.used, named.cost)
	if err != api.OK {
		fail(at, err)
	}
	p.used = used
	if depth-1+named.depth > p.limits.Depth {
		fail(at, api.ErrDepth)
	}
	p.all += named.cost - 1
	if p.all > api.MaxNodes {
		fail(at, api.ErrSize)
	}
	return p.token(api.NAlias, at, at+size), named.depth
}

func (p *parser) scalar(at, size, depth int) api.Node {
	p.begin(at, depth)
	if _, err := indentlex.Scalar(p.src[at : at+size]); err != api.OK {
		fail(at, err)
	}
	return p.token(api.NScalar, at, at+size)
}

// literal reads a literal block.
func (p *parser) literal(at, outer, depth int) api.Node {
	p.begin(at, depth)
	last, indentation := p.cur, -1
	for i := p.cur + 1; i < len(p.lines); i++ {
		line := p.lines[i]
		if line.Text == "" && line.Comment == "" {
			continue
		}
		if line.Indent <= outer {
			break
		}
		if indentation < 0 {
			indentation = line.Indent
		}
		if line.Indent < indentation {
			fail(p.start(i), api.ErrIndent)
		}
		last = i
	}
	end := p.start(p.cur) + len(p.lines[p.cur].Text)
	if last > p.cur {
		end = p.start(last) + len(p.lines[last].Text) + len(p.lines[last].Comment)
	}
	if len(literalText(p.src[at:end])) > api.MaxText {
		fail(at, api.ErrSize)
	}
	p.cur = last
	return p.token(api.NScalar, at, end)
}

// literalText returns the string of a literal block that has been read.
func literalText(text string) string {
	indentation := -1
	var lines []string
	for line := range strings.Lines(text) {
		line, ended := strings.CutSuffix(line, "\n")
		if ended {
			line = strings.TrimSuffix(line, "\r")
		}
		content := strings.TrimLeft(line, " ")
		// The first line is the one of the |.
		if indentation < 0 && content != "" && len(lines) > 0 {
			indentation = len(line) - len(content)
		}
		if content != "" {
			content = line[max(indentation, 0):]
		}
		lines = append(lines, content)
	}
	all := strings.Join(lines[1:], "\n")
	if len(lines) > 1 && !strings.HasPrefix(text, "|-") {
		all += "\n"
	}
	return all
}
