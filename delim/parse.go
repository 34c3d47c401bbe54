package delim

import (
	"strings"

	"datakit/api"
	"datakit/limit"
	"datakit/source"
)

// parser reads a source. Its functions return the error at which it stops; then
// at is the offset of the error.
type parser struct {
	src     string
	dialect api.Dialect
	limits  api.Limits
	nodes   int
	at      int
	columns int // the cells of the first record, once it has ended
	names   map[string]bool
	header  bool // the record is the header
	done    int  // records that have ended
}

// Parse returns the tree of a source, or the offset of the error.
func Parse(src string, d api.Dialect, l api.Limits) (api.Node, int, api.Errno) {
	if !Valid(d) || !limit.Valid(l) {
		return api.Node{}, 0, api.ErrArg
	}
	if len(src) > l.Bytes {
		return api.Node{}, 0, api.ErrSize
	}
	if bad := source.Invalid(src); bad >= 0 {
		return api.Node{}, bad, api.ErrText
	}
	p := &parser{src: src, dialect: d, limits: l, nodes: 1, names: map[string]bool{}}
	n := api.Node{Kind: api.NDocument}
	for p.at < len(src) {
		record, err := p.record()
		if err != api.OK {
			return api.Node{}, p.at, err
		}
		n.Kids = append(n.Kids, record)
	}
	return n, 0, api.OK
}

// begin accounts for a value that begins here.
func (p *parser) begin(depth int) api.Errno {
	if p.header {
		return api.OK
	}
	if depth > p.limits.Depth {
		return api.ErrDepth
	}
	if p.nodes >= p.limits.Nodes {
		return api.ErrSize
	}
	p.nodes++
	return api.OK
}

// stop sets the offset of an error.
func (p *parser) stop(at int, err api.Errno) api.Errno {
	p.at = at
	return err
}

func (p *parser) record() (api.Node, api.Errno) {
	p.header = p.dialect.Header && p.done == 0
	n := api.Node{Kind: api.NRecord}
	if err := p.begin(2); err != api.OK {
		return n, err
	}
	for more := true; more; {
		if p.done > 0 && len(n.Kids) == p.columns {
			return n, api.ErrSize
		}
		if err := p.begin(3); err != api.OK {
			return n, err
		}
		cell, err := p.cell()
		if err != api.OK {
			return n, err
		}
		entry := api.Node{Kind: api.NEntry, Kids: []api.Node{{Kind: api.NScalar, Text: cell}}}
		more = p.at < len(p.src) && p.src[p.at] == p.dialect.Sep
		if more {
			entry.Kids = append(entry.Kids, api.Node{Kind: api.NMark, Text: p.src[p.at : p.at+1]})
			p.at++
		}
		n.Kids = append(n.Kids, entry)
	}
	tail, err := p.lineEnd()
	if err != api.OK {
		return n, err
	}
	if p.done > 0 && len(n.Kids) < p.columns {
		return n, api.ErrSize
	}
	p.columns = len(n.Kids)
	p.done++
	p.at += len(tail)
	n.Tail = tail
	return n, api.OK
}

// lineEnd returns the end of a record that begins here.
func (p *parser) lineEnd() (string, api.Errno) {
	rest := p.src[p.at:]
	switch {
	case rest == "\r":
		return "", p.stop(len(p.src), api.ErrTruncated)
	case strings.HasPrefix(rest, "\r\n"):
		return "\r\n", api.OK
	case strings.HasPrefix(rest, "\n"):
		return "\n", api.OK
	case rest != "":
		return "", api.ErrSyntax
	}
	return "", api.OK
}

// The states of a cell.
const (
	cellPlain = iota // it does not begin with a quotation mark
	cellEnded
)

// cell reads a cell.
func (p *parser) cell() (string, api.Errno) {
	from, state := p.at, cellPlain
	if p.quoteHere() {
		size := p.quotedSize()
		if size == 0 {
			return "", p.stop(len(p.src), api.ErrTruncated)
		}
		p.at += size
		state = cellEnded
	}
	switch state {
	case cellPlain:
		p.at += p.plainSize()
		if p.quoteHere() {
			return "", api.ErrSyntax
		}
		fallthrough
	case cellEnded:
		if err := p.checkText(unquoted(p.src[from:p.at], p.dialect)); err != api.OK {
			return "", p.stop(from, err)
		}
	}
	return p.src[from:p.at], api.OK
}

func (p *parser) quoteHere() bool { return p.at < len(p.src) && p.src[p.at] == p.dialect.Quote }

// plainSize returns the length of what may be an unquoted cell here.
func (p *parser) plainSize() int {
	rest := p.src[p.at:]
	for i := range len(rest) {
		switch rest[i] {
		case p.dialect.Sep, p.dialect.Quote, '\n', '\r':
			return i
		}
	}
	return len(rest)
}

// The states of a quoted cell.
const (
	inText  = iota
	inQuote // after a quotation mark, which another one may follow
)

// quotedSize returns the length of the quoted cell here, or 0 if it does not end.
func (p *parser) quotedSize() int {
	rest := p.src[p.at:]
	state := inText
	for i := 1; i < len(rest); i++ {
		isQuote := rest[i] == p.dialect.Quote
		switch {
		case state == inQuote && !isQuote:
			return i
		case state == inQuote:
			state = inText
		case isQuote:
			state = inQuote
		}
	}
	if state == inQuote {
		return len(rest)
	}
	return 0
}

func (p *parser) checkText(text string) api.Errno {
	if !p.header {
		if len(text) > api.MaxText {
			return api.ErrSize
		}
		return api.OK
	}
	if len(text) > api.MaxKey {
		return api.ErrSize
	}
	if p.names[text] {
		return api.ErrExists
	}
	p.names[text] = true
	return api.OK
}
