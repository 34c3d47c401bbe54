package table

import (
	"strings"

	"datakit/api"
	"datakit/limit"
	"datakit/source"
	"datakit/tablelex"
	"datakit/tables"
)

// fault is what the parser panics with: an error and its offset.
type fault struct {
	at  int
	err api.Errno
}

func fail(at int, err api.Errno) { panic(fault{at, err}) }

// parser has the state of reading a source: the next token, which is not one
// of the kinds that were passed over, and what stands before it.
type parser struct {
	src    string
	limits api.Limits
	nodes  int
	at     int       // behind the next token
	done   int       // behind the last token that is in the tree
	token  api.Token // the next token; without a kind at the end
}

// advance reads the next token.
func (p *parser) advance() {
	if p.at == len(p.src) {
		p.token = api.Token{At: p.at}
		return
	}
	token, err := tablelex.Next(p.src, p.at)
	if err == api.ErrTruncated {
		fail(len(p.src), err)
	}
	if err != api.OK {
		fail(p.at, err)
	}
	p.token = token
	p.at += len(token.Text)
}

// skip passes over spaces, and over all trivia if all is set.
func (p *parser) skip(all bool) {
	for p.token.Kind == api.TokSpace || all && (p.token.Kind == api.TokLine || p.token.Kind == api.TokComment) {
		p.advance()
	}
}

// wrong leaves the parser since the next token may not stand where it stands.
func (p *parser) wrong() {
	if p.token.Kind == 0 {
		fail(len(p.src), api.ErrTruncated)
	}
	fail(p.token.At, api.ErrSyntax)
}

func (p *parser) punct(text string) bool {
	return p.token.Kind == api.TokPunct && p.token.Text == text
}

func (p *parser) wordOrText() bool {
	return p.token.Kind == api.TokWord || p.token.Kind == api.TokText
}

// expect passes over a punctuation mark.
func (p *parser) expect(text string) {
	if !p.punct(text) {
		p.wrong()
	}
	p.advance()
}

// node makes a node of the text between two offsets; what stands between it and
// the last token is its Lead.
func (p *parser) node(kind, from, to int) api.Node {
	n := api.Node{Kind: kind, Lead: p.src[p.done:from], Text: p.src[from:to]}
	p.done = to
	return n
}

// take makes a node of the next token and goes on.
func (p *parser) take(kind int) api.Node {
	n := p.node(kind, p.token.At, p.token.At+len(p.token.Text))
	p.advance()
	return n
}

// mark takes a punctuation mark.
func (p *parser) mark(text string) api.Node {
	if !p.punct(text) {
		p.wrong()
	}
	return p.take(api.NMark)
}

// begin accounts for a value that begins at an offset.
func (p *parser) begin(at, depth int) {
	if depth > p.limits.Depth {
		fail(at, api.ErrDepth)
	}
	if p.nodes >= p.limits.Nodes {
		fail(at, api.ErrSize)
	}
	p.nodes++
}

func (p *parser) value(depth int) api.Node {
	switch {
	case p.punct("["):
		return p.entries(depth, true, "]", p.element)
	case p.punct("{"):
		keys := map[string]bool{}
		return p.entries(depth, false, "}", func(depth int) []api.Node { return p.field(depth, keys) })
	case !p.wordOrText():
		p.wrong()
	}
	at := p.token.At
	_, err := tablelex.Scalar(p.token.Text)
	if err == api.ErrSyntax {
		fail(at, err)
	}
	p.begin(at, depth)
	if err != api.OK {
		fail(at, err)
	}
	return p.take(api.NScalar)
}

// entries reads an array, in which all trivia may stand, or an inline table.
func (p *parser) entries(depth int, array bool, end string, entry func(depth int) []api.Node) api.Node {
	p.begin(p.token.At, depth)
	kind := api.NMap
	if array {
		kind = api.NList
	}
	n := p.take(kind)
	p.skip(array)
	for comma := false; !p.punct(end) || comma && !array; {
		kids := entry(depth + 1)
		p.skip(array)
		comma = p.punct(",")
		if comma {
			kids = append(kids, p.take(api.NMark))
			p.skip(array)
		}
		n.Kids = append(n.Kids, api.Node{Kind: api.NEntry, Kids: kids})
		if !comma && !p.punct(end) {
			p.wrong()
		}
	}
	closing := p.take(api.NMark)
	n.Tail = closing.Lead + closing.Text
	return n
}

func (p *parser) element(depth int) []api.Node { return []api.Node{p.value(depth)} }

func (p *parser) field(depth int, keys map[string]bool) []api.Node {
	bare := p.token.Kind == api.TokWord && tablelex.Bare(p.token.Text)
	if !bare && p.token.Kind != api.TokText {
		p.wrong()
	}
	key := keyOf(p.token.Text)
	if len(key) > api.MaxKey {
		fail(p.token.At, api.ErrSize)
	}
	if keys[key] {
		fail(p.token.At, api.ErrExists)
	}
	keys[key] = true
	name := p.take(api.NKey)
	p.skip(false)
	equals := p.mark("=")
	p.skip(false)
	return []api.Node{name, equals, p.value(depth)}
}

// dotted reads the tokens of a dotted key and returns its text and its keys.
func (p *parser) dotted() (from, to int, keys []string) {
	from = p.token.At
	if !p.wordOrText() {
		p.wrong()
	}
	for p.wordOrText() {
		to = p.token.At + len(p.token.Text)
		p.advance()
	}
	keys, ok := dottedKeys(p.src[from:to])
	if !ok {
		fail(from, api.ErrSyntax)
	}
	return from, to, keys
}

// dottedKeys returns the keys of a dotted key.
func dottedKeys(text string) ([]string, bool) {
	var keys []string
	for {
		size := keySize(text)
		if size == 0 {
			return nil, false
		}
		keys = append(keys, keyOf(text[:size]))
		if size == len(text) {
			return keys, true
		}
		if text[size] != '.' {
			return nil, false
		}
		text = text[size+1:]
	}
}

// keySize returns the length of the key at the beginning of a text, or 0.
func keySize(text string) int {
	if strings.HasPrefix(text, "\"") || strings.HasPrefix(text, "'") {
		token, _ := tablelex.Next(text, 0)
		return len(token.Text)
	}
	size := 0
	for size < len(text) && tablelex.Bare(text[size:size+1]) {
		size++
	}
	return size
}

// keyOf returns the key that is written as a text.
func keyOf(text string) string {
	if text[0] != '"' && text[0] != '\'' {
		return text
	}
	key, _ := tablelex.Unquote(text)
	return key
}

// lines reads the lines of a source with the state of the parser.
type lines struct {
	parser
	builder *tables.Builder
	doc     api.Node
}

// Parse returns the tree of a source, or the offset of the error.
func Parse(src string, l api.Limits) (n api.Node, at int, err api.Errno) {
	if !limit.Valid(l) {
		return api.Node{}, 0, api.ErrArg
	}
	if len(src) > l.Bytes {
		return api.Node{}, 0, api.ErrSize
	}
	if bad := source.Invalid(src); bad >= 0 {
		return api.Node{}, bad, api.ErrText
	}
	defer func() {
		if x := recover(); x != nil {
			f, ok := x.(fault)
			if !ok {
				panic(x)
			}
			n, at, err = api.Node{}, f.at, f.err
		}
	}()
	r := &lines{parser: parser{src: src, limits: l, nodes: 1}, builder: tables.New(), doc: api.Node{Kind: api.NDocument}}
	r.all()
	return r.doc, 0, api.OK
}

func (r *lines) all() {
	r.advance()
	for r.skip(true); r.token.Kind != 0; r.skip(true) {
		if r.punct("[") {
			r.header()
		} else {
			r.entry()
		}
		r.skip(false)
		if r.token.Kind == api.TokComment {
			r.advance()
		}
		if r.token.Kind != 0 && r.token.Kind != api.TokLine {
			r.wrong()
		}
	}
	r.doc.Tail = r.src[r.done:]
}

// assign accounts for an assignment whose text begins at an offset, and returns
// the depth of the map to which it leads.
func (r *lines) assign(at int, a api.Assign) int {
	for _, key := range a.Keys {
		if len(key) > api.MaxKey {
			fail(at, api.ErrSize)
		}
	}
	added, err := r.builder.Add(a)
	if err != api.OK {
		fail(at, err)
	}
	for _, depth := range added.Depths {
		r.begin(at, depth)
	}
	if added.In == nil {
		return 0
	}
	return added.In.Depth
}

func (r *lines) entry() {
	from, to, keys := r.dotted()
	depth := r.assign(from, api.Assign{Keys: keys})
	name := r.node(api.NKey, from, to)
	r.skip(false)
	equals := r.mark("=")
	r.skip(false)
	x := r.value(depth + 1)
	kids := &r.doc.Kids
	if n := len(*kids); n > 0 && (*kids)[n-1].Kind == api.NTable {
		kids = &(*kids)[n-1].Kids
	}
	*kids = append(*kids, api.Node{Kind: api.NEntry, Kids: []api.Node{name, equals, x}})
}

func (r *lines) header() {
	from := r.token.At
	r.advance()
	element := r.punct("[")
	if element {
		r.advance()
	}
	_, _, keys := r.dotted()
	to := r.token.At + 1
	if element {
		r.expect("]")
		to = r.token.At + 1
	}
	if !r.punct("]") {
		r.wrong()
	}
	r.assign(from, api.Assign{Table: true, Element: element, Keys: keys})
	r.advance()
	r.doc.Kids = append(r.doc.Kids, r.node(api.NTable, from, to))
}
