package brace

import (
	"datakit/api"
	"datakit/bracelex"
	"datakit/braces"
	"datakit/limit"
	"datakit/source"
)

// fault is what the parser panics with: an error and its offset.
type fault struct {
	at  int
	err api.Errno
}

// parser reads a source; its functions leave by a panic.
type parser struct {
	src    string
	limits api.Limits
	used   api.Usage
	at     int       // behind the next token
	lead   string    // the trivia before the next token
	token  api.Token // the next token; without a kind at the end
}

// Parse returns the tree of a source, or the offset of the error.
func Parse(src string, l api.Limits) (n api.Node, at int, err api.Errno) {
	if !limit.Valid(l) {
		return api.Node{}, 0, api.ErrArg
	}
	if len(src) > l.Bytes {
		return api.Node{}, 0, api.ErrSize
	}
	if bad := source.Invalid(src); bad >= 0 {
		return api.Node{}, bad, api.ErrText
	}
	defer func() {
		if x := recover(); x != nil {
			f, ok := x.(fault)
			if !ok {
				panic(x)
			}
			n, at, err = api.Node{}, f.at, f.err
		}
	}()
	p := &parser{src: src, limits: l}
	p.advance()
	root := p.value()
	if p.token.Kind != 0 {
		p.fail(api.ErrSyntax)
	}
	return api.Node{Kind: api.NDocument, Kids: []api.Node{root}, Tail: p.lead}, 0, api.OK
}

// fail leaves the parser with an error at the next token.
func (p *parser) fail(err api.Errno) {
	if p.token.Kind == 0 {
		panic(fault{len(p.src), api.ErrTruncated})
	}
	panic(fault{p.token.At, err})
}

// advance finds the next token and the trivia before it.
func (p *parser) advance() {
	from := p.at
	for p.at < len(p.src) {
		token, err := bracelex.Next(p.src, p.at)
		if err == api.ErrTruncated {
			panic(fault{len(p.src), err})
		}
		if err != api.OK {
			panic(fault{p.at, err})
		}
		p.at += len(token.Text)
		if token.Kind >= api.TokPunct {
			p.lead, p.token = p.src[from:token.At], token
			return
		}
	}
	p.lead, p.token = p.src[from:], api.Token{}
}

// take makes a node of the next token and goes on.
func (p *parser) take(kind int) api.Node {
	n := api.Node{Kind: kind, Lead: p.lead, Text: p.token.Text}
	p.advance()
	return n
}

func (p *parser) punct(text string) bool {
	return p.token.Kind == api.TokPunct && p.token.Text == text
}

// value reads a value; the next token must be able to begin one.
func (p *parser) value() api.Node {
	list, fields := p.punct("["), p.punct("{")
	if !list && !fields && !braces.MayBeScalar(p.token) {
		p.fail(api.ErrSyntax)
	}
	used, err := limit.Open(p.limits, p.used)
	if err != api.OK {
		p.fail(err)
	}
	if p.used, err = limit.Node(p.limits, used, 1); err != api.OK {
		p.fail(err)
	}
	var n api.Node
	switch {
	case list:
		n = p.entries(api.NList, "]", p.element)
	case fields:
		keys := map[string]bool{}
		n = p.entries(api.NMap, "}", func() []api.Node { return p.field(keys) })
	default:
		if _, err := braces.Scalar(p.token.Text); err != api.OK {
			p.fail(err)
		}
		n = p.take(api.NScalar)
	}
	p.used, _ = limit.Close(p.used)
	return n
}

// entries reads a list or a map from its opening bracket to its closing one.
func (p *parser) entries(kind int, end string, entry func() []api.Node) api.Node {
	n := p.take(kind)
	for !p.punct(end) {
		kids := entry()
		comma := p.punct(",")
		if comma {
			kids = append(kids, p.take(api.NMark))
		}
		n.Kids = append(n.Kids, api.Node{Kind: api.NEntry, Kids: kids})
		if !comma && !p.punct(end) {
			p.fail(api.ErrSyntax)
		}
	}
	n.Tail = p.lead + p.token.Text
	p.advance()
	return n
}

func (p *parser) element() []api.Node { return []api.Node{p.value()} }

func (p *parser) field(keys map[string]bool) []api.Node {
	if !braces.MayBeKey(p.token) {
		p.fail(api.ErrSyntax)
	}
	key := braces.Key(p.token.Text)
	if len(key) > api.MaxKey {
		p.fail(api.ErrSize)
	}
	if keys[key] {
		p.fail(api.ErrExists)
	}
	keys[key] = true
	name := p.take(api.NKey)
	if !p.punct(":") {
		p.fail(api.ErrSyntax)
	}
	colon := p.take(api.NMark)
	return []api.Node{name, colon, p.value()}
}
